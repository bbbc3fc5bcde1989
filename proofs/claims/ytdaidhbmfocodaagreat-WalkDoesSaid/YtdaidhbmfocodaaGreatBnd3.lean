/-
  Lemmas on the program and on the document's answers, gathered: NdCheck, NdWrite, NdRead, RmNode, NdPlace, NdSame, NdBack, FnPlain, DrPlain, RmSame, RmRef, NdRefMay, NdRefTold, NdRefSam, NdRefRead, RmRefN, Spoil05, NdBag, CntChunk, CntWrite, RmRefT, FnKeep, FnSpan, FnPlace, WkPlain, WkMarks, FnLeaf, FnRead, FnInner, FnRight, FnTree, FnOne, NdTwin, NdTwin2, FnItems. Conditions: those that each lemma states.
-/
import Derived.Test.YtdaidhbmfocodaaGreatBnd2
import Derived.Deep.CutBlock
import Derived.Deep.CutRange
import Derived.Laws.StructEq
import Derived.WalkLawsBesides
import Derived.Sort.QuietIn
import Derived.Sort.CutIn
/-
  Package node: refers, Check. Conditions: those that each lemma states.
-/
namespace Go.Proofs.YtdaidhbmfocodaaGreat
open Go.RowKit

set_option maxRecDepth 100000 in
set_option maxHeartbeats 2000000 in
theorem refers_any (v : Value) (s : It) (w : World) (h : Itm (Old w) w v s) : Calls Tryz.prog 90 #[v] w fun e w' => e = .returned (.bool (refersI s)) ∧ Below w.heap.size w w' := by
  obtain ⟨A, c, rfl, _, l1, m1, _⟩ := h.open
  have hw : refersI s = (decide (s.2.1 ≠ 0) && decide (s.2.2.length = 0)) := rfl
  obtain ⟨n, hn⟩ : ∃ n, s.2.2.length = n := ⟨_, rfl⟩
  unfold itV
  rw [hn] at l1 hw ⊢
  obtain ⟨w0, hw0, f1, f2, f3, f4, f5, hs0, hB0, _⟩ := box_five w (.int .u8 (s.1.1.toNat : Int)) (.int .u32 s.1.2.1) (.int .u32 s.1.2.2) (.int .i64 s.2.1) (.slice A n c) 52
  clear f1 f2 f3 hs0 hn h
  replace hB0 := Lib.hid hB0
  obtain ⟨r, hr⟩ : ∃ r, s.2.1 = r := ⟨_, rfl⟩
  rw [hr] at hw f4 hw0 ⊢
  clear hr
  generalize refersI s = res at hw ⊢
  replace hw := Lib.hid hw
  by_cases h0 : r = 0
  · have t0 : (r != 0) = false := by simpa using h0
    have hr := Lib.hid (show res = false by rw [hw.out]; simp [h0])
    replace h0 := Lib.hid h0
    go_enter Tryz.func90, Tryz.ntmps90
    go_upto_region 1 with fail
    clear hw0
    go_wp2_with fail
    go_ret
    exact ⟨ret_bool hr.out.symm, hB0.out⟩
  · have t0 : (r != 0) = true := by simpa using h0
    by_cases h1 : n = 0
    · have t1 : ((n : Int) == 0) = true := by simp; omega
      have hr := Lib.hid (show res = true by rw [hw.out]; simp [h0, h1])
      replace h0 := Lib.hid h0
      replace h1 := Lib.hid h1
      go_enter Tryz.func90, Tryz.ntmps90
      go_upto_region 1 with fail
      clear hw0
      go_wp2_with fail
      go_ret
      exact ⟨ret_bool hr.out.symm, hB0.out⟩
    · have t1 : ((n : Int) == 0) = false := by simp; omega
      have hr := Lib.hid (show res = false by rw [hw.out]; simp [h1])
      replace h0 := Lib.hid h0
      replace h1 := Lib.hid h1
      go_enter Tryz.func90, Tryz.ntmps90
      go_upto_region 1 with fail
      clear hw0
      go_wp2_with fail
      go_ret
      exact ⟨ret_bool hr.out.symm, hB0.out⟩

theorem bool_two (b : Bool) : b = false ∨ b = true := by cases b <;> simp
set_option maxRecDepth 100000 in
set_option maxHeartbeats 8000000 in
theorem checkN_any (v : Value) (n : Nd) (w : World) (h : Nod (Old w) w v n) : Calls Tryz.prog 63 #[v] w fun e w' => e = .returned (.int .i64 (chkN n)) ∧ Below w.heap.size w w' := by
  obtain ⟨A, c, rfl, hin, l1, m1, hA⟩ := h.open
  have hbad0 := Lib.hid (fun hh => chkN_bad (mayN_shape (n := n) hh))
  have hbad1 : Hid (∀ k, k < n.2.length → okAt n k = false → chkN n = 8) := Lib.hid fun k hk hh => chkN_bad (mayN_at hk hh)
  have hgood := Lib.hid (fun hh h2 => chkN_ok (mayN_mk (n := n) hh h2))
  have HA := Lib.hid hA
  clear h hA
  obtain ⟨m, hm⟩ : ∃ m, n.2.length = m := ⟨_, rfl⟩
  obtain ⟨l, hl⟩ : ∃ l, n.1 = l := ⟨_, rfl⟩
  rw [hm] at l1 hbad0 hbad1 hgood HA ⊢
  rw [hl] at hbad0 hgood hin ⊢
  obtain ⟨i1, i2⟩ := hin
  replace hm := Lib.hid hm
  replace hl := Lib.hid hl
  obtain ⟨w0, hw0, b0, hs0, hB0⟩ := box_pair' w (.int .i64 l) (.slice A m c) 57
  obtain ⟨f1, f2, _, lt0⟩ := two_cells b0
  replace hB0 := Lib.hid hB0
  replace b0 := Lib.hid b0
  replace hs0 := Lib.hid hs0
  by_cases h1 : l < 0
  · have hr := Lib.hid (hbad0.out (by omega))
    rw [hr.out]
    go_enter Tryz.func63, Tryz.ntmps63
    go_upto_region 1 with fail
    clear hw0
    go_wp2_with fail
    go_ret
    exact ⟨rfl, hB0.out⟩
  by_cases h2 : 6 ≤ l
  · have hr := Lib.hid (hbad0.out (by omega))
    rw [hr.out]
    go_enter Tryz.func63, Tryz.ntmps63
    go_upto_region 1 with fail
    clear hw0
    go_wp2_with fail
    go_ret
    exact ⟨rfl, hB0.out⟩
  by_cases h3 : 5 < m
  · have hr := Lib.hid (hbad0.out (by omega))
    have h3' : (5 : Int) < m := by omega
    rw [hr.out]
    go_enter Tryz.func63, Tryz.ntmps63
    go_upto_region 1 with fail
    clear hw0
    go_wp2_with fail
    go_ret
    exact ⟨rfl, hB0.out⟩
  have h3' : ¬ (5 : Int) < m := by omega
  by_cases h4 : 0 < l ∧ m = 0
  · have hr := Lib.hid (hbad0.out (by omega))
    obtain ⟨h4a, h4b⟩ := h4
    have h4c : ((m : Int) == 0) = true := by simp; omega
    replace h4b := Lib.hid h4b
    rw [hr.out]
    go_enter Tryz.func63, Tryz.ntmps63
    go_upto_region 1 with fail
    clear hw0
    go_wp2_with fail
    go_ret
    exact ⟨rfl, hB0.out⟩
  have hgood2 := Lib.hid (hgood.out (by omega))
  have hB := Lib.hid (fun wr (hb : Below w0.heap.size w0 wr) => hB0.out.trans (hb.mono hB0.out.size))
  clear hgood hbad0
  rcases (by omega : l ≤ 0 ∨ (0 < l ∧ m ≠ 0)) with h5 | ⟨h5, h6⟩
  rotate_left
  · have h6' : ((m : Int) == 0) = false := by simp; omega
    replace h6 := Lib.hid h6
    replace h4 := Lib.hid h4
    go_enter Tryz.func63, Tryz.ntmps63
    go_upto_region 1 with fail
    clear hw0
    go_wp2_with fail
    go_loopw [31] (fun i wr => ∃ k : Nat, k ≤ m ∧ i = .int .i64 k ∧ (∀ j, j < k → okAt n j = true) ∧ Below w0.heap.size w0 wr) (fun i _ => m - (intOf i).toNat)
    case atStart => exact ⟨0, by omega, rfl, fun j hj => by omega, Below.refl _ _⟩
    case round =>
      obtain ⟨k, hk, rfl, ha, hb⟩ := hrel
      replace ha := Lib.hid ha
      replace hb := Lib.hid hb
      have p1 := (hb.out.cell (p := ⟨w.heap.size, 0, none⟩) lt0).trans f1
      have p2 := (hb.out.cell (p := ⟨w.heap.size, 1, none⟩) lt0).trans f2
      by_cases hlt : k < m
      case neg =>
        have hfin := Lib.hid (hgood2.out fun i hi => ha.out i (by omega))
        have BF := Lib.hid (hB.out _ hb.out)
        go_wp2_with fail
        go_ret
        exact ⟨ret_int hfin.out.symm, BF.out⟩
      obtain ⟨x, hx⟩ : ∃ x, n.2[k]? = some x := ⟨_, List.getElem?_eq_getElem (by rw [hm.out]; exact hlt)⟩
      obtain ⟨ad, E, ce, rfl, q1, q2, hinx, FX⟩ := its_old HA.out hx
      have FX' := Lib.hid (fun W (hW : Below wr.heap.size wr W) => FX W ((hB.out _ hb.out).trans (hW.mono (hB.out _ hb.out).size)))
      obtain ⟨⟨z0, z1, z2, z3, z4⟩, hIx⟩ := FX'.out wr (Below.refl _ _)
      obtain ⟨w2, hw2, g0, g1, g2, g3, g4, hs2, hB2, _⟩ := box_five wr (.int .u8 (x.1.1.toNat : Int)) (.int .u32 x.1.2.1) (.int .u32 x.1.2.2) (.int .i64 x.2.1) (.slice E x.2.2.length ce) 52
      have HI := Lib.hid (hIx.below hB2)
      have lt2 : wr.heap.size < w2.heap.size := by omega
      have B2 := Lib.hid (hb.out.trans (hB2.mono hb.out.size))
      have C2 := Lib.hid hB2
      replace hx := Lib.hid hx
      replace hs2 := Lib.hid hs2
      have hbk := Lib.hid (hbad1.out k hlt)
      clear FX hIx hB2 hinx
      unfold itV at *
      go_upto_region 8 with fail
      clear hw2
      go_wp2_with fail
      with_reducible refine (checkI_any _ x _ HI.out).mono ?_
      rintro e3 w3 ⟨rfl, hb3⟩
      have B3 := Lib.hid (B2.out.trans (hb3.mono B2.out.size))
      have C3 := Lib.hid (C2.out.trans (hb3.mono C2.out.size))
      have r0 := (hb3.cell (p := ⟨wr.heap.size, 0, none⟩) lt2).trans g0
      have r1 := (hb3.cell (p := ⟨wr.heap.size, 1, none⟩) lt2).trans g1
      have r2 := (hb3.cell (p := ⟨wr.heap.size, 2, none⟩) lt2).trans g2
      have r3 := (hb3.cell (p := ⟨wr.heap.size, 3, none⟩) lt2).trans g3
      have r4 := (hb3.cell (p := ⟨wr.heap.size, 4, none⟩) lt2).trans g4
      have p3 := (hb3.cell (p := ⟨w.heap.size, 0, none⟩) (Nat.lt_of_lt_of_le lt0 B2.out.size)).trans ((C2.out.cell (p := ⟨w.heap.size, 0, none⟩) (Nat.lt_of_lt_of_le lt0 hb.out.size)).trans p1)
      have p4 := (hb3.cell (p := ⟨w.heap.size, 1, none⟩) (Nat.lt_of_lt_of_le lt0 B2.out.size)).trans ((C2.out.cell (p := ⟨w.heap.size, 1, none⟩) (Nat.lt_of_lt_of_le lt0 hb.out.size)).trans p2)
      replace HI := Lib.hid (HI.out.below hb3)
      have lt3 : wr.heap.size < w3.heap.size := Nat.lt_of_lt_of_le lt2 hb3.size
      clear hb3 g0 g1 g2 g3 g4 z0 z1 z2 z3 z4 p1 p2
      rcases bool_two (mayI x) with hmx | hmx
      · have hr := Lib.hid (hbk.out (okAt_noP hx.out (by rw [okP, hmx]; rfl)))
        have hc := Lib.hid (chkI_bad hmx)
        have BF := Lib.hid (hB.out _ B3.out)
        replace hmx := Lib.hid hmx
        rw [hc.out]
        go_wp2_with fail
        go_ret
        exact ⟨ret_int hr.out.symm, BF.out⟩
      have hc := Lib.hid (chkI_ok hmx)
      replace hmx := Lib.hid hmx
      rw [hc.out]
      go_wp2_with fail
      with_reducible refine (refers_any _ x _ HI.out).mono ?_
      rintro e4 w4 ⟨rfl, hb4⟩
      have B4 := Lib.hid (B3.out.trans (hb4.mono B3.out.size))
      have C4 := Lib.hid (C3.out.trans (hb4.mono C3.out.size))
      have t0 := (hb4.cell (p := ⟨wr.heap.size, 0, none⟩) lt3).trans r0
      have t1 := (hb4.cell (p := ⟨wr.heap.size, 1, none⟩) lt3).trans r1
      have t2 := (hb4.cell (p := ⟨wr.heap.size, 2, none⟩) lt3).trans r2
      have p5 := (hb4.cell (p := ⟨w.heap.size, 1, none⟩) (Nat.lt_of_lt_of_le lt0 B3.out.size)).trans p4
      have lt4 : wr.heap.size < w4.heap.size := Nat.lt_of_lt_of_le lt3 hb4.size
      have lt0' : w.heap.size < w4.heap.size := Nat.lt_of_lt_of_le lt0 B4.out.size
      clear hb4 r0 r1 r2 r3 r4 p3 p4
      rcases bool_two (refersI x) with hrx | hrx
      · have hr := Lib.hid (hbk.out (okAt_noP hx.out (by rw [okP, hmx.out, hrx, hl.out]; simp; omega)))
        have BF := Lib.hid (hB.out _ B4.out)
        rw [hrx]
        replace hrx := Lib.hid hrx
        go_wp2_with fail
        go_ret
        exact ⟨ret_int hr.out.symm, BF.out⟩
      have hP := Lib.hid (show okP n.1 x = true by rw [okP, hmx.out, hrx]; simp)
      rw [hrx]
      replace hrx := Lib.hid hrx
      rcases (by rcases k with _ | j; exact Or.inl rfl; exact Or.inr ⟨j, rfl⟩ : k = 0 ∨ ∃ j, k = j + 1) with hk0 | ⟨j, hkj⟩
      · have hall := Lib.hid (show ∀ j, j < k + 1 → okAt n j = true from fun j hj => by
          obtain rfl : j = 0 := by omega
          subst hk0
          rw [okAt_zero hx.out, hP.out])
        subst hk0
        go_wp2_with fail
        go_quiet (fail)
        go_wp2_with fail
        go_roundw
        case rel => exact ⟨0 + 1, by omega, by go_num, hall.out, below_drewN B4.out _⟩
        case measure => simp [intOf]; omega
      · obtain ⟨y, hy⟩ : ∃ y, n.2[j]? = some y := ⟨_, List.getElem?_eq_getElem (by rw [hm.out]; omega)⟩
        obtain ⟨ad', E', ce', e', _, _, _, FY⟩ := its_old HA.out hy
        have e'' := Option.some.inj e'
        subst e''
        clear e'
        have BW4 := Lib.hid (hB.out _ B4.out)
        have FYY := Lib.hid fun W (hW : Below _ _ W) => (FY W (BW4.out.trans (hW.mono BW4.out.size))).1
        have hsucc := Lib.hid (show okAt n k = lessK y.1 x.1 by subst hkj; rw [okAt_succ hx.out hy, hP.out]; simp)
        have hj1 : (k : Int) - 1 = (j : Int) := by omega
        replace hy := Lib.hid hy
        obtain ⟨s, hs⟩ : ∃ s, lessK y.1 x.1 = s := ⟨_, rfl⟩
        rw [hs] at hsucc
        replace hs := Lib.hid hs
        have hwj : IntKind.i64.wrap (j : Int) = (j : Int) := IntWalk.i64_in _ (by omega)
        have hj0 : (0 : Int) ≤ (j : Int) := by omega
        have kpos : (0 : Int) < (k : Int) := by omega
        have hjm : (j : Int) < (m : Int) := by omega
        clear FY
        go_wp2_with fail
        refine wp_region_fx (by kernel_rfl) (fun W => Below _ _ W) (fun _ => none) (fun i => match i with
          | 12 => some (.bool s)
          | _ => none) (by kernel_rfl) (Below.refl _ _).drew (fun w w' h hb => h.trans (hb.mono h.size)) (fun j φ x W W' hp => by cases hp) ?_
        repeat (first
          | (refine wpAs_skip rfl ?_; simp only [Act.put, List.setIfInBounds_toArray, List.set_cons_zero, List.set_cons_succ])
          | (refine wpAs_pure (v := ?_) rfl rfl ?_ ?_; rotate_left; (intro W hC hE; clear hE; (obtain ⟨y0, y1, y2, y3, y4⟩ := FYY.out W hC; have x0 := (hC.cell (p := ⟨wr.heap.size, 0, none⟩) lt4).trans t0; have x1 := (hC.cell (p := ⟨wr.heap.size, 1, none⟩) lt4).trans t1; have x2 := (hC.cell (p := ⟨wr.heap.size, 2, none⟩) lt4).trans t2; have p6 := (hC.cell (p := ⟨w.heap.size, 1, none⟩) lt0').trans p5); clear hC; go_simp; done); simp only [Act.put, List.setIfInBounds_toArray, List.set_cons_zero, List.set_cons_succ])
          | (refine wpAs_pure (v := ?_) rfl rfl ?_ ?_; rotate_left; (intro W hC hE; clear hE; (obtain ⟨y0, y1, y2, y3, y4⟩ := FYY.out W hC; have x0 := (hC.cell (p := ⟨wr.heap.size, 0, none⟩) lt4).trans t0; have x1 := (hC.cell (p := ⟨wr.heap.size, 1, none⟩) lt4).trans t1; have x2 := (hC.cell (p := ⟨wr.heap.size, 2, none⟩) lt4).trans t2; have p6 := (hC.cell (p := ⟨w.heap.size, 1, none⟩) lt0').trans p5); clear hC; go_simp; with_reducible rfl); simp only [Act.put, List.setIfInBounds_toArray, List.set_cons_zero, List.set_cons_succ]))
        refine wpAs_fixed rfl rfl rfl ?_ ?_
        · intro W hC hE
          refine does_enter (f := 20) (args := #[kyV y.1, kyV x.1]) ?_ ?_
          · go_simp
          · refine (less_any y.1 x.1 W).mono ?_
            rintro e W' ⟨rfl, hg⟩
            rw [hs.out]
            exact ⟨_, rfl, rfl, hg⟩
        simp only [Act.put, List.setIfInBounds_toArray, List.set_cons_zero, List.set_cons_succ]
        repeat (first
          | (refine wpAs_skip rfl ?_; simp only [Act.put, List.setIfInBounds_toArray, List.set_cons_zero, List.set_cons_succ])
          | (refine wpAs_pure (v := ?_) rfl rfl ?_ ?_; rotate_left; (intro W hC hE; clear hE; skip; clear hC; go_simp; done); simp only [Act.put, List.setIfInBounds_toArray, List.set_cons_zero, List.set_cons_succ])
          | (refine wpAs_pure (v := ?_) rfl rfl ?_ ?_; rotate_left; (intro W hC hE; clear hE; skip; clear hC; go_simp; with_reducible rfl); simp only [Act.put, List.setIfInBounds_toArray, List.set_cons_zero, List.set_cons_succ]))
        refine wpAs_end fun W hC hE => ?_
        have BW := Lib.hid (B4.out.trans (hC.mono B4.out.size))
        clear hE hC
        cases s with
        | true =>
          have hall := Lib.hid (show ∀ j, j < k + 1 → okAt n j = true from fun j hj => by
            rcases Nat.lt_or_ge j k with h | h
            · exact ha.out j h
            · obtain rfl : j = k := by omega
              exact hsucc.out)
          go_wp2_with fail
          go_roundw
          case rel => exact ⟨k + 1, by omega, by go_num, hall.out, BW.out⟩
          case measure => simp [intOf]; omega
        | false =>
          have hr := Lib.hid (hbk.out hsucc.out)
          have BF := Lib.hid (hB.out _ BW.out)
          go_wp2_with fail
          go_ret
          exact ⟨ret_int hr.out.symm, BF.out⟩
  · replace h4 := Lib.hid h4
    go_enter Tryz.func63, Tryz.ntmps63
    go_upto_region 1 with fail
    clear hw0
    go_wp2_with fail
    go_loopw [31] (fun i wr => ∃ k : Nat, k ≤ m ∧ i = .int .i64 k ∧ (∀ j, j < k → okAt n j = true) ∧ Below w0.heap.size w0 wr) (fun i _ => m - (intOf i).toNat)
    case atStart => exact ⟨0, by omega, rfl, fun j hj => by omega, Below.refl _ _⟩
    case round =>
      obtain ⟨k, hk, rfl, ha, hb⟩ := hrel
      replace ha := Lib.hid ha
      replace hb := Lib.hid hb
      have p1 := (hb.out.cell (p := ⟨w.heap.size, 0, none⟩) lt0).trans f1
      have p2 := (hb.out.cell (p := ⟨w.heap.size, 1, none⟩) lt0).trans f2
      by_cases hlt : k < m
      case neg =>
        have hfin := Lib.hid (hgood2.out fun i hi => ha.out i (by omega))
        have BF := Lib.hid (hB.out _ hb.out)
        go_wp2_with fail
        go_ret
        exact ⟨ret_int hfin.out.symm, BF.out⟩
      obtain ⟨x, hx⟩ : ∃ x, n.2[k]? = some x := ⟨_, List.getElem?_eq_getElem (by rw [hm.out]; exact hlt)⟩
      obtain ⟨ad, E, ce, rfl, q1, q2, hinx, FX⟩ := its_old HA.out hx
      have FX' := Lib.hid (fun W (hW : Below wr.heap.size wr W) => FX W ((hB.out _ hb.out).trans (hW.mono (hB.out _ hb.out).size)))
      obtain ⟨⟨z0, z1, z2, z3, z4⟩, hIx⟩ := FX'.out wr (Below.refl _ _)
      obtain ⟨w2, hw2, g0, g1, g2, g3, g4, hs2, hB2, _⟩ := box_five wr (.int .u8 (x.1.1.toNat : Int)) (.int .u32 x.1.2.1) (.int .u32 x.1.2.2) (.int .i64 x.2.1) (.slice E x.2.2.length ce) 52
      have HI := Lib.hid (hIx.below hB2)
      have lt2 : wr.heap.size < w2.heap.size := by omega
      have B2 := Lib.hid (hb.out.trans (hB2.mono hb.out.size))
      have C2 := Lib.hid hB2
      replace hx := Lib.hid hx
      replace hs2 := Lib.hid hs2
      have hbk := Lib.hid (hbad1.out k hlt)
      clear FX hIx hB2 hinx
      unfold itV at *
      go_upto_region 8 with fail
      clear hw2
      go_wp2_with fail
      with_reducible refine (checkI_any _ x _ HI.out).mono ?_
      rintro e3 w3 ⟨rfl, hb3⟩
      have B3 := Lib.hid (B2.out.trans (hb3.mono B2.out.size))
      have C3 := Lib.hid (C2.out.trans (hb3.mono C2.out.size))
      have r0 := (hb3.cell (p := ⟨wr.heap.size, 0, none⟩) lt2).trans g0
      have r1 := (hb3.cell (p := ⟨wr.heap.size, 1, none⟩) lt2).trans g1
      have r2 := (hb3.cell (p := ⟨wr.heap.size, 2, none⟩) lt2).trans g2
      have r3 := (hb3.cell (p := ⟨wr.heap.size, 3, none⟩) lt2).trans g3
      have r4 := (hb3.cell (p := ⟨wr.heap.size, 4, none⟩) lt2).trans g4
      have p3 := (hb3.cell (p := ⟨w.heap.size, 0, none⟩) (Nat.lt_of_lt_of_le lt0 B2.out.size)).trans ((C2.out.cell (p := ⟨w.heap.size, 0, none⟩) (Nat.lt_of_lt_of_le lt0 hb.out.size)).trans p1)
      have p4 := (hb3.cell (p := ⟨w.heap.size, 1, none⟩) (Nat.lt_of_lt_of_le lt0 B2.out.size)).trans ((C2.out.cell (p := ⟨w.heap.size, 1, none⟩) (Nat.lt_of_lt_of_le lt0 hb.out.size)).trans p2)
      replace HI := Lib.hid (HI.out.below hb3)
      have lt3 : wr.heap.size < w3.heap.size := Nat.lt_of_lt_of_le lt2 hb3.size
      clear hb3 g0 g1 g2 g3 g4 z0 z1 z2 z3 z4 p1 p2
      rcases bool_two (mayI x) with hmx | hmx
      · have hr := Lib.hid (hbk.out (okAt_noP hx.out (by rw [okP, hmx]; rfl)))
        have hc := Lib.hid (chkI_bad hmx)
        have BF := Lib.hid (hB.out _ B3.out)
        replace hmx := Lib.hid hmx
        rw [hc.out]
        go_wp2_with fail
        go_ret
        exact ⟨ret_int hr.out.symm, BF.out⟩
      have hc := Lib.hid (chkI_ok hmx)
      replace hmx := Lib.hid hmx
      rw [hc.out]
      have h5q : ¬ (0 : Int) < l := by omega
      have hP := Lib.hid (show okP n.1 x = true by rw [okP, hmx.out, hl.out]; simp; omega)
      obtain ⟨w4, hw4⟩ : ∃ w4, w3 = w4 := ⟨_, rfl⟩
      subst hw4
      have B4 := B3
      have C4 := C3
      have t0 := r0
      have t1 := r1
      have t2 := r2
      have p5 := p4
      have lt4 := lt3
      have lt0' : w.heap.size < w3.heap.size := Nat.lt_of_lt_of_le lt0 B4.out.size
      clear r0 r1 r2 r3 r4 lt3
      rcases (by rcases k with _ | j; exact Or.inl rfl; exact Or.inr ⟨j, rfl⟩ : k = 0 ∨ ∃ j, k = j + 1) with hk0 | ⟨j, hkj⟩
      · have hall := Lib.hid (show ∀ j, j < k + 1 → okAt n j = true from fun j hj => by
          obtain rfl : j = 0 := by omega
          subst hk0
          rw [okAt_zero hx.out, hP.out])
        subst hk0
        go_wp2_with fail
        go_quiet (fail)
        go_wp2_with fail
        go_roundw
        case rel => exact ⟨0 + 1, by omega, by go_num, hall.out, below_drewN B4.out _⟩
        case measure => simp [intOf]; omega
      · obtain ⟨y, hy⟩ : ∃ y, n.2[j]? = some y := ⟨_, List.getElem?_eq_getElem (by rw [hm.out]; omega)⟩
        obtain ⟨ad', E', ce', e', _, _, _, FY⟩ := its_old HA.out hy
        have e'' := Option.some.inj e'
        subst e''
        clear e'
        have BW4 := Lib.hid (hB.out _ B4.out)
        have FYY := Lib.hid fun W (hW : Below _ _ W) => (FY W (BW4.out.trans (hW.mono BW4.out.size))).1
        have hsucc := Lib.hid (show okAt n k = lessK y.1 x.1 by subst hkj; rw [okAt_succ hx.out hy, hP.out]; simp)
        have hj1 : (k : Int) - 1 = (j : Int) := by omega
        replace hy := Lib.hid hy
        obtain ⟨s, hs⟩ : ∃ s, lessK y.1 x.1 = s := ⟨_, rfl⟩
        rw [hs] at hsucc
        replace hs := Lib.hid hs
        have hwj : IntKind.i64.wrap (j : Int) = (j : Int) := IntWalk.i64_in _ (by omega)
        have hj0 : (0 : Int) ≤ (j : Int) := by omega
        have kpos : (0 : Int) < (k : Int) := by omega
        have hjm : (j : Int) < (m : Int) := by omega
        clear FY
        go_wp2_with fail
        refine wp_region_fx (by kernel_rfl) (fun W => Below _ _ W) (fun _ => none) (fun i => match i with
          | 12 => some (.bool s)
          | _ => none) (by kernel_rfl) (Below.refl _ _).drew (fun w w' h hb => h.trans (hb.mono h.size)) (fun j φ x W W' hp => by cases hp) ?_
        repeat (first
          | (refine wpAs_skip rfl ?_; simp only [Act.put, List.setIfInBounds_toArray, List.set_cons_zero, List.set_cons_succ])
          | (refine wpAs_pure (v := ?_) rfl rfl ?_ ?_; rotate_left; (intro W hC hE; clear hE; (obtain ⟨y0, y1, y2, y3, y4⟩ := FYY.out W hC; have x0 := (hC.cell (p := ⟨wr.heap.size, 0, none⟩) lt4).trans t0; have x1 := (hC.cell (p := ⟨wr.heap.size, 1, none⟩) lt4).trans t1; have x2 := (hC.cell (p := ⟨wr.heap.size, 2, none⟩) lt4).trans t2; have p6 := (hC.cell (p := ⟨w.heap.size, 1, none⟩) lt0').trans p5); clear hC; go_simp; done); simp only [Act.put, List.setIfInBounds_toArray, List.set_cons_zero, List.set_cons_succ])
          | (refine wpAs_pure (v := ?_) rfl rfl ?_ ?_; rotate_left; (intro W hC hE; clear hE; (obtain ⟨y0, y1, y2, y3, y4⟩ := FYY.out W hC; have x0 := (hC.cell (p := ⟨wr.heap.size, 0, none⟩) lt4).trans t0; have x1 := (hC.cell (p := ⟨wr.heap.size, 1, none⟩) lt4).trans t1; have x2 := (hC.cell (p := ⟨wr.heap.size, 2, none⟩) lt4).trans t2; have p6 := (hC.cell (p := ⟨w.heap.size, 1, none⟩) lt0').trans p5); clear hC; go_simp; with_reducible rfl); simp only [Act.put, List.setIfInBounds_toArray, List.set_cons_zero, List.set_cons_succ]))
        refine wpAs_fixed rfl rfl rfl ?_ ?_
        · intro W hC hE
          refine does_enter (f := 20) (args := #[kyV y.1, kyV x.1]) ?_ ?_
          · go_simp
          · refine (less_any y.1 x.1 W).mono ?_
            rintro e W' ⟨rfl, hg⟩
            rw [hs.out]
            exact ⟨_, rfl, rfl, hg⟩
        simp only [Act.put, List.setIfInBounds_toArray, List.set_cons_zero, List.set_cons_succ]
        repeat (first
          | (refine wpAs_skip rfl ?_; simp only [Act.put, List.setIfInBounds_toArray, List.set_cons_zero, List.set_cons_succ])
          | (refine wpAs_pure (v := ?_) rfl rfl ?_ ?_; rotate_left; (intro W hC hE; clear hE; skip; clear hC; go_simp; done); simp only [Act.put, List.setIfInBounds_toArray, List.set_cons_zero, List.set_cons_succ])
          | (refine wpAs_pure (v := ?_) rfl rfl ?_ ?_; rotate_left; (intro W hC hE; clear hE; skip; clear hC; go_simp; with_reducible rfl); simp only [Act.put, List.setIfInBounds_toArray, List.set_cons_zero, List.set_cons_succ]))
        refine wpAs_end fun W hC hE => ?_
        have BW := Lib.hid (B4.out.trans (hC.mono B4.out.size))
        clear hE hC
        cases s with
        | true =>
          have hall := Lib.hid (show ∀ j, j < k + 1 → okAt n j = true from fun j hj => by
            rcases Nat.lt_or_ge j k with h | h
            · exact ha.out j h
            · obtain rfl : j = k := by omega
              exact hsucc.out)
          go_wp2_with fail
          go_roundw
          case rel => exact ⟨k + 1, by omega, by go_num, hall.out, BW.out⟩
          case measure => simp [intOf]; omega
        | false =>
          have hr := Lib.hid (hbk.out hsucc.out)
          have BF := Lib.hid (hB.out _ BW.out)
          go_wp2_with fail
          go_ret
          exact ⟨ret_int hr.out.symm, BF.out⟩
end Go.Proofs.YtdaidhbmfocodaaGreat

/-
  Package node: Write. Conditions: those that each lemma states.
-/
namespace Go.Proofs.YtdaidhbmfocodaaGreat
open Go.RowKit

/-- Three literal bytes, as a row of the call's own. -/
theorem lit_own3 (w : World) (x y z : UInt8) (a b c : Int) (h1 : (x.toNat : Int) = a) (h2 : (y.toNat : Int) = b) (h3 : (z.toNat : Int) = c) : ∃ w1, w.alloc (.cells #[.int .u8 a, .int .u8 b, .int .u8 c] 5) = w1 ∧ w1.ownsRow w.heap.size 5 1 (.slice (some ⟨w.heap.size, 0, none⟩) 3 3) 3 (u8s [x, y, z]) ∧ Below w.heap.size w w1 ∧ w1.heap.size = w.heap.size + 1 := by
  subst h1 h2 h3
  refine ⟨_, rfl, ?_, (Below.refl _ _).alloc (Nat.le_refl _) _, by simp⟩
  have h1 : Row (w.alloc (.cells #[.int .u8 (x.toNat : Int), .int .u8 (y.toNat : Int), .int .u8 (z.toNat : Int)] 5)) w.heap.size [x, y, z] := Row.new w [x, y, z]
  exact h1.own (Nat.le_refl _) (by simp)
theorem u8_small {l : Int} (h0 : 0 ≤ l) (h1 : l < 256) : ((UInt8.ofNat l.toNat).toNat : Int) = l ∧ IntKind.u8.wrap l = l := by
  refine ⟨?_, ?_⟩
  · rw [UInt8.toNat_ofNat']
    omega
  · simp [IntKind.wrap, IntKind.signed, IntKind.bits]
    omega
theorem itsB_take_len {n : Nd} (h : mayN n = true) (k : Nat) : (itsB (n.2.take k)).length ≤ 120 := by
  have h1 := itsB_len (l := n.2.take k) (fun x hx => mayN_all h x (List.mem_of_mem_take hx))
  have h2 := (mayN_of h).1.2.2.1
  have h3 : (n.2.take k).length ≤ n.2.length := by rw [List.length_take]; omega
  omega

end Go.Proofs.YtdaidhbmfocodaaGreat

/-
  Package node: Read. Conditions: those that each lemma states.
-/
namespace Go.Proofs.YtdaidhbmfocodaaGreat
open Go.RowKit

def lvlN (body : List UInt8) : Int := ((body[1]?.getD 0).toNat : Int)
def manyN (body : List UInt8) : Nat := (body[2]?.getD 0).toNat
theorem manyN_lt (body : List UInt8) : manyN body < 256 := (body[2]?.getD 0).toNat_lt
theorem lvlN_in (body : List UInt8) : In64 (lvlN body) := by
  have := (body[1]?.getD 0).toNat_lt
  unfold lvlN
  exact ⟨by omega, by omega⟩
def ndN (body : List UInt8) : Nd := (lvlN body, cutL (body.drop 3) (manyN body))
def rdN (body : List UInt8) : Bool := decide (body[0]?.getD 0 = 78) && ((cutTo (body.drop 3) (manyN body)).isSome && (mayN (ndN body) && noughtsB (cutR (body.drop 3) (manyN body))))
noncomputable def reN (b : List UInt8) : Int := if oe b = 0 then (if rdN (ob b) then 0 else 8) else oe b
noncomputable def reV (b : List UInt8) : Nd := if oe b = 0 then (if rdN (ob b) then ndN (ob b) else zeroN) else zeroN
theorem oe_zeroN {b : List UInt8} (h : oe b = 0) : b.length = 128 ∧ fits b ∧ ob b = b.drop 4 ∧ (ob b).length = 124 := by
  unfold oe at h
  by_cases h1 : b.length = 128
  · rw [if_pos h1] at h
    by_cases h2 : fits b
    · have : ob b = b.drop 4 := by unfold ob; rw [if_pos ⟨h1, h2⟩]
      exact ⟨h1, h2, this, by rw [this]; simp [h1]⟩
    · rw [if_neg h2] at h; cases h
  · rw [if_neg h1] at h; cases h
theorem reN_open {b : List UInt8} (h : oe b ≠ 0) : reN b = oe b ∧ reV b = zeroN := by
  unfold reN reV
  rw [if_neg h, if_neg h]
  exact ⟨rfl, rfl⟩
theorem reN_bad {b : List UInt8} (h : oe b = 0) (h' : rdN (ob b) = false) : reN b = 8 ∧ reV b = zeroN := by
  unfold reN reV
  rw [if_pos h, if_pos h, h']
  exact ⟨rfl, rfl⟩
theorem reN_good {b : List UInt8} (h : oe b = 0) (h' : rdN (ob b) = true) : reN b = 0 ∧ reV b = ndN (ob b) := by
  unfold reN reV
  rw [if_pos h, if_pos h, h']
  exact ⟨rfl, rfl⟩
set_option maxRecDepth 100000 in
set_option maxHeartbeats 4000000 in
theorem nodeRead_any (v : Value) (b : List UInt8) (w : World) (h : rBy (Old w) w [v] b) :
    Calls Tryz.prog 37 #[v] w fun e w' => ∃ u, e = .returned (.tuple #[u, .int .i64 (reN b)]) ∧ Nod (New w.heap.size w') w' u (reV b) ∧ Below w.heap.size w w' := by
  obtain ⟨A, c, rfl, l1, m1, hy⟩ := rBy_byt (B := w.heap.size) (fun p hp => hp) h
  obtain ⟨n, hn⟩ : ∃ n, b.length = n := ⟨_, rfl⟩
  rw [hn] at l1 ⊢
  replace hn := Lib.hid hn
  obtain ⟨w0, hw0, b0, hs0, hB0⟩ := box_pair' w (.int .i64 0) (.slice none 0 0) 57
  have lt0 : w.heap.size < w0.heap.size := by omega
  have HB0 := Lib.hid hB0
  have HY := Lib.hid ((hy.below hB0).more hB0.size)
  -- a refusal, from whatever later world
  have hzero : Hid (∀ (er : Int) (W : World), reN b = er ∧ reV b = zeroN → Below w0.heap.size w0 W → ∃ W9, (W.setCell ⟨w.heap.size, 0, none⟩ (.int .i64 0)).setCell ⟨w.heap.size, 1, none⟩ (.slice none 0 0) = W9 ∧ W9.cell? ⟨w.heap.size, 0, none⟩ = some (.int .i64 0) ∧ W9.cell? ⟨w.heap.size, 1, none⟩ = some (.slice none 0 0) ∧ (∀ o, W.frozen? ⟨w.heap.size, o, none⟩ = false) ∧ W.cell? ⟨w.heap.size, 0, none⟩ = some (.int .i64 0) ∧ W.cell? ⟨w.heap.size, 1, none⟩ = some (.slice none 0 0) ∧
      (∃ u, Ending.returned (.tuple #[.agg #[.int .i64 0, .slice none 0 0], .int .i64 er]) = .returned (.tuple #[u, .int .i64 (reN b)]) ∧ Nod (New w.heap.size W9) W9 u (reV b) ∧ Below w.heap.size w W9)) := Lib.hid fun er W hre hW => by
    have bW := (hW.block w.heap.size lt0).trans b0
    obtain ⟨W9, e9, g9, gr9, gs9⟩ := put_two (u := .int .i64 0) (v := .slice none 0 0) bW
    obtain ⟨k0, k1, kf, _⟩ := two_cells g9
    obtain ⟨y0, y1, yf, _⟩ := two_cells bW
    have hBW := HB0.out.trans (hW.mono HB0.out.size)
    exact ⟨W9, e9, k0, k1, yf, y0, y1, _, by rw [hre.1], by rw [hre.2]; exact nod_zero _ _, hBW.grown gr9 hBW.size (fun q e => by cases e; omega)⟩
  replace b0 := Lib.hid b0
  replace hw0 := Lib.hid hw0
  clear hB0 hs0 h hy
  go_enter Tryz.func37, Tryz.ntmps37
  go_upto_region 1 with fail
  rw [hw0.out]
  clear hw0
  go_wp2_with fail
  with_reducible refine (open_any A n c b hn l1 m1 _ HY.out).mono ?_
  rintro e1 w1 ⟨v1, rfl, ho1, hb1⟩
  have B1 := Lib.hid hb1
  have hBW1 := Lib.hid (show w.heap.size ≤ w1.heap.size from Nat.le_trans (Nat.le_of_lt lt0) hb1.size)
  obtain ⟨er, hoe⟩ : ∃ er, oe b = er := ⟨_, rfl⟩
  rw [hoe]
  by_cases h0 : er = 0
  case neg =>
    have t0 : (er != 0) = true := by simpa using h0
    obtain ⟨W9, e9, k0, k1, yf, y0, y1, hfin⟩ := hzero.out er w1 (by rw [← hoe]; exact reN_open (by rw [hoe]; exact h0)) B1.out
    replace hfin := Lib.hid hfin
    replace h0 := Lib.hid h0
    replace hoe := Lib.hid hoe
    clear ho1 hb1
    go_wp2_with fail
    exact bodyPost_ret (v := .tuple #[.agg #[.int .i64 0, .slice none 0 0], .int .i64 er]) (by simp [results, Tryz.results37, go_sem, k0, k1]) rfl hfin.out
  subst h0
  obtain ⟨hlen, hfits, hob, hl124⟩ := oe_zeroN hoe
  have HZ := Lib.hid (fun W h hW => hzero.out 8 W (reN_bad hoe h) hW)
  have HG := Lib.hid (fun h => reN_good hoe h)
  have hr1 := own_by ho1
  obtain ⟨bd, hbd⟩ : ∃ bd, ob b = bd := ⟨_, rfl⟩
  rw [hbd] at hr1 HZ HG hl124
  replace hbd := Lib.hid hbd
  obtain ⟨Q, cq, rfl, n1, n2, hcell⟩ := rBy_open hr1
  rw [hl124] at n1 hcell hr1 ⊢
  obtain ⟨ad, rfl, hn0, hc0⟩ := hcell 0 (by omega)
  obtain ⟨_, e, hn1', hc1⟩ := hcell 1 (by omega)
  cases e
  obtain ⟨_, e, hn2', hc2⟩ := hcell 2 (by omega)
  cases e
  have z0 : w1.cell? ad = some (.int .u8 ((bd[0]?.getD 0).toNat : Int)) := by simpa [Addr.add] using hc0
  have z1 : w1.cell? ⟨ad.block, ad.off + 1, none⟩ = some (.int .u8 ((bd[1]?.getD 0).toNat : Int)) := by simpa [Addr.add] using hc1
  have z2 : w1.cell? ⟨ad.block, ad.off + 2, none⟩ = some (.int .u8 ((bd[2]?.getD 0).toNat : Int)) := by simpa [Addr.add] using hc2
  have ltb : ad.block < w1.heap.size := World.block_lt_of_cell? _ _ z0
  have hrest := Lib.hid (rBy_rest (stab_by.drop hr1) 3 (by omega))
  have hl := Lib.hid hl124
  replace hoe := Lib.hid hoe
  clear hfits hob hlen hc0 hc1 hc2 hn0 hn1' hn2' ho1 hb1 hcell hl124 hzero
  have hrd : Hid (rdN bd = (decide (bd[0]?.getD 0 = 78) && ((cutTo (bd.drop 3) (manyN bd)).isSome && (mayN (ndN bd) && noughtsB (cutR (bd.drop 3) (manyN bd)))))) := Lib.hid rfl
  obtain ⟨x0, hx0⟩ : ∃ x, bd[0]?.getD 0 = x := ⟨_, rfl⟩
  rw [hx0] at z0 hrd
  replace hx0 := Lib.hid hx0
  by_cases h78 : (x0.toNat : Int) = 78
  case neg =>
    have t0 : ((x0.toNat : Int) != 78) = true := by simpa using h78
    obtain ⟨W9, e9, k0, k1, yf, y0, y1, hfin⟩ := HZ.out w1 (by rw [hrd.out]; simp; intro e; exact absurd (by rw [e]; rfl) h78) B1.out
    replace hfin := Lib.hid hfin
    replace h78 := Lib.hid h78
    clear hr1
    go_wp2_with fail
    exact bodyPost_ret (v := .tuple #[.agg #[.int .i64 0, .slice none 0 0], .int .i64 8]) (by simp [results, Tryz.results37, go_sem, k0, k1]) rfl hfin.out
  have t0 : ((x0.toNat : Int) != 78) = false := by simpa using h78
  have h78' := Lib.hid (show x0 = 78 from UInt8.toNat.inj (by show x0.toNat = 78; omega))
  replace h78 := Lib.hid h78
  obtain ⟨mn, hmn⟩ : ∃ m, manyN bd = m := ⟨_, rfl⟩
  have hmlt := manyN_lt bd
  rw [hmn] at hmlt hrd
  have z2' : w1.cell? ⟨ad.block, ad.off + 2, none⟩ = some (.int .u8 (mn : Int)) := by rw [← hmn]; exact z2
  have hmn' := Lib.hid hmn
  clear z2 hr1 hmn
  have had3 : ad.add 3 = ⟨ad.block, ad.off + 3, none⟩ := by simp [Addr.add]
  rw [had3] at hrest
  have hres := Lib.hid (fun W (hW : Below w1.heap.size w1 W) => nodeCut_any _ (bd.drop 3) mn hmlt W (stab_by.old hrest.out hW))
  go_upto_region 6 with fail
  obtain ⟨L, hL⟩ : ∃ L, cutL (bd.drop 3) mn = L := ⟨_, rfl⟩
  obtain ⟨R, hR⟩ : ∃ R, cutR (bd.drop 3) mn = R := ⟨_, rfl⟩
  obtain ⟨F, hF⟩ : ∃ F, cutF (bd.drop 3) mn = F := ⟨_, rfl⟩
  rw [hL, hR, hF] at hres
  have c3 : ¬ cq = 3 := by omega
  have c4 : (3 : Int) ≤ cq := by omega
  have hwm : IntKind.i64.wrap (mn : Int) = (mn : Int) := IntWalk.i64_in _ (by omega)
  refine wp_region_fx (by kernel_rfl) (fun W => Below w1.heap.size w1 W) (fun i => match i with
      | 6 => some (fun v W => ∃ A c u, v = .tuple #[.slice A L.length c, u, .int .i64 F] ∧ rIts (New w1.heap.size W) W [.slice A L.length c] L ∧ rBy (Old W) W [u] R)
      | 7 => some (fun v W => ∃ A c u, v = .tuple #[.slice A L.length c, u, .int .i64 F] ∧ rIts (New w1.heap.size W) W [.slice A L.length c] L ∧ rBy (Old W) W [u] R)
      | 8 => some (fun v W => rIts (New w1.heap.size W) W [v] L)
      | 9 => some (fun v W => rBy (Old W) W [v] R)
      | _ => none) (fun i => match i with
      | 10 => some (.int .i64 F)
      | _ => none) (by kernel_rfl) (Below.refl _ _).drew (fun w w' h hb => h.trans (hb.mono h.size)) ?tst ?_
  case tst =>
    intro j φ x W W' hp hx hb
    match j, hp with
    | 6, hp =>
      cases hp
      obtain ⟨A, c, u, e, h1, h2⟩ := hx
      exact ⟨A, c, u, e, stab_its.new h1 (Nat.le_refl _) hb, stab_by.old h2 hb⟩
    | 7, hp =>
      cases hp
      obtain ⟨A, c, u, e, h1, h2⟩ := hx
      exact ⟨A, c, u, e, stab_its.new h1 (Nat.le_refl _) hb, stab_by.old h2 hb⟩
    | 8, hp => cases hp; exact stab_its.new hx (Nat.le_refl _) hb
    | 9, hp => cases hp; exact stab_by.old hx hb
  repeat (first
    | (refine wpAs_skip rfl ?_; simp only [Act.put, List.setIfInBounds_toArray, List.set_cons_zero, List.set_cons_succ])
    | (refine wpAs_pure (v := ?_) rfl rfl ?_ ?_; rotate_left; (intro W hC hE; clear hE; (have y2 := (hC.cell (p := ⟨ad.block, ad.off + 2, none⟩) ltb).trans z2'); clear hC; go_simp; done); simp only [Act.put, List.setIfInBounds_toArray, List.set_cons_zero, List.set_cons_succ])
    | (refine wpAs_pure (v := ?_) rfl rfl ?_ ?_; rotate_left; (intro W hC hE; clear hE; (have y2 := (hC.cell (p := ⟨ad.block, ad.off + 2, none⟩) ltb).trans z2'); clear hC; go_simp; with_reducible rfl); simp only [Act.put, List.setIfInBounds_toArray, List.set_cons_zero, List.set_cons_succ]))
  refine wpAs_act rfl rfl ?_ ?_
  · intro W hC hE
    refine does_enter (f := 62) (args := #[.slice (some ⟨ad.block, ad.off + 3, none⟩) 121 (cq - 3), .int .i64 mn]) ?_ ?_
    · go_simp
    · refine (hres.out W hC).mono ?_
      rintro e W' ⟨A, c, u, rfl, h1, h2, hw⟩
      exact ⟨_, rfl, ⟨A, c, u, rfl, stab_its.mono h1 hC.size, h2⟩, hw⟩
  simp only [Act.put, List.setIfInBounds_toArray, List.set_cons_zero, List.set_cons_succ, envAdd]
  intro x30
  refine wpAs_act rfl rfl ?_ ?_
  · intro W hC hE
    have hx := hE.1 rfl
    clear hE
    go_simp
    exact ⟨hx, Below.refl _ _⟩
  simp only [Act.put, List.setIfInBounds_toArray, List.set_cons_zero, List.set_cons_succ, envAdd]
  intro x23
  refine wpAs_act rfl rfl ?_ ?_
  · intro W hC hE
    obtain ⟨A, c, u, rfl, h1, h2⟩ := hE.1 rfl
    clear hE
    have H1 := Lib.hid h1
    clear h1 h2
    go_simp
    exact ⟨H1.out, Below.refl _ _⟩
  simp only [Act.put, List.setIfInBounds_toArray, List.set_cons_zero, List.set_cons_succ, envAdd]
  intro x31
  refine wpAs_act rfl rfl ?_ ?_
  · intro W hC hE
    obtain ⟨A, c, u, rfl, h1, h2⟩ := hE.2.1 rfl
    clear hE
    have H2 := Lib.hid h2
    clear h1 h2
    go_simp
    exact ⟨H2.out, Below.refl _ _⟩
  simp only [Act.put, List.setIfInBounds_toArray, List.set_cons_zero, List.set_cons_succ, envAdd]
  intro x32
  refine wpAs_fixed rfl rfl rfl ?_ ?_
  · intro W hC hE
    obtain ⟨A, c, u, rfl, h1, h2⟩ := hE.2.2.1 rfl
    clear hE h1 h2
    go_simp
    exact ⟨rfl, Below.refl _ _⟩
  simp only [Act.put, List.setIfInBounds_toArray, List.set_cons_zero, List.set_cons_succ]
  repeat (first
    | (refine wpAs_skip rfl ?_; simp only [Act.put, List.setIfInBounds_toArray, List.set_cons_zero, List.set_cons_succ])
    | (refine wpAs_pure (v := ?_) rfl rfl ?_ ?_; rotate_left; (intro W hC hE; clear hE; skip; clear hC; go_simp; done); simp only [Act.put, List.setIfInBounds_toArray, List.set_cons_zero, List.set_cons_succ])
    | (refine wpAs_pure (v := ?_) rfl rfl ?_ ?_; rotate_left; (intro W hC hE; clear hE; skip; clear hC; go_simp; with_reducible rfl); simp only [Act.put, List.setIfInBounds_toArray, List.set_cons_zero, List.set_cons_succ]))
  refine wpAs_end fun wc hC hE => ?_
  have H31 := hE.2.1
  have H32 := hE.1
  clear hE
  have BC := Lib.hid (B1.out.trans (hC.mono B1.out.size))
  have y1 := (hC.cell (p := ⟨ad.block, ad.off + 1, none⟩) ltb).trans z1
  clear hC
  obtain ⟨X, cx, rfl, n3, n4⟩ := its_open H31
  obtain ⟨Y, cy, rfl, n5, n6, hy32⟩ := rBy_byt (B := wc.heap.size) (fun p hp => hp) H32
  cases hct : cutTo (bd.drop 3) mn with
  | none =>
    have hF8 : F = 8 := by rw [← hF]; simp [cutF, hct]
    subst hF8
    obtain ⟨W9, e9, k0, k1, yf, u0, u1, hfin⟩ := HZ.out wc (by rw [hrd.out, hct]; simp) BC.out
    replace hfin := Lib.hid hfin
    replace hct := Lib.hid hct
    replace hF := Lib.hid hF
    clear H31 H32 hy32
    go_wp2_with fail
    exact bodyPost_ret (v := .tuple #[.agg #[.int .i64 0, .slice none 0 0], .int .i64 8]) (by simp [results, Tryz.results37, go_sem, k0, k1]) rfl hfin.out
  | some p =>
    obtain ⟨l', r'⟩ := p
    have hF0 : F = 0 := by rw [← hF]; simp [cutF, hct]
    subst hF0
    have hsome := Lib.hid (show (cutTo (bd.drop 3) mn).isSome = true by rw [hct]; rfl)
    replace hct := Lib.hid hct
    replace hF := Lib.hid hF
    replace hL := Lib.hid hL
    replace hR := Lib.hid hR
    obtain ⟨lv, hlv⟩ : ∃ lv, lvlN bd = lv := ⟨_, rfl⟩
    have hlin := Lib.hid (lvlN_in bd)
    have hnd := Lib.hid (show ndN bd = (lv, L) by rw [ndN, hlv, hmn'.out, hL.out])
    rw [hlv] at hlin
    have y1' : wc.cell? ⟨ad.block, ad.off + 1, none⟩ = some (.int .u8 lv) := by rw [← hlv]; exact y1
    have hlw : IntKind.i64.wrap lv = lv := IntWalk.i64_in _ (by have := hlin.out; exact ⟨this.1, this.2⟩)
    replace hlv := Lib.hid hlv
    clear y1
    obtain ⟨w2, hw2, b2, hs2, hB2⟩ := box_pair' wc (.int .i64 lv) (.slice X L.length cx) 57
    obtain ⟨f1, f2, _, lt2⟩ := two_cells b2
    have N2 : Nod (New w1.heap.size w2) w2 (.agg #[.int .i64 lv, .slice X L.length cx]) (lv, L) := ⟨_, rfl, hlin.out, stab_its.new H31 (Nat.le_refl _) hB2⟩
    have HN2 := Lib.hid N2
    have B2 := Lib.hid (BC.out.trans (hB2.mono BC.out.size))
    have HY2 := Lib.hid ((hy32.below hB2).more hB2.size)
    replace hs2 := Lib.hid hs2
    replace b2 := Lib.hid b2
    clear H31 H32 hy32 N2 hB2
    go_upto_region 10 with fail
    clear hw2 y1'
    go_wp2_with fail
    with_reducible refine (checkN_any _ (lv, L) _ HN2.out.drop).mono ?_
    rintro e3 w3 ⟨rfl, hb3⟩
    have B3 := Lib.hid (B2.out.trans (hb3.mono B2.out.size))
    have HN3 := Lib.hid (HN2.out.new (Nat.le_refl _) hb3)
    have g1 := (hb3.cell (p := ⟨wc.heap.size, 0, none⟩) lt2).trans f1
    have g2 := (hb3.cell (p := ⟨wc.heap.size, 1, none⟩) lt2).trans f2
    have HY3 := Lib.hid ((HY2.out.below hb3).more hb3.size)
    have lt3 : wc.heap.size < w3.heap.size := Nat.lt_of_lt_of_le lt2 hb3.size
    clear hb3 f1 f2
    rcases bool_two (mayN (lv, L)) with hm | hm
    · have hc := Lib.hid (chkN_bad hm)
      obtain ⟨W9, e9, k0, k1, yf, u0, u1, hfin⟩ := HZ.out w3 (by rw [hrd.out, hnd.out, hm]; simp) B3.out
      replace hfin := Lib.hid hfin
      replace hm := Lib.hid hm
      rw [hc.out]
      go_wp2_with fail
      exact bodyPost_ret (v := .tuple #[.agg #[.int .i64 0, .slice none 0 0], .int .i64 8]) (by simp [results, Tryz.results37, go_sem, k0, k1]) rfl hfin.out
    have hc := Lib.hid (chkN_ok hm)
    rw [hc.out]
    obtain ⟨rl, hrl⟩ : ∃ n, R.length = n := ⟨_, rfl⟩
    rw [hrl] at n5 ⊢
    replace hrl := Lib.hid hrl
    go_wp2_with fail
    with_reducible refine (noughts_any Y rl cy R hrl n5 n6 _ HY3.out).mono ?_
    rintro e4 w4 ⟨rfl, rfl⟩
    rcases bool_two (noughtsB R) with hz | hz
    · obtain ⟨W9, e9, k0, k1, yf, u0, u1, hfin⟩ := HZ.out w3 (by rw [hrd.out, hnd.out, hR.out, hz]; simp) B3.out
      replace hfin := Lib.hid hfin
      rw [hz]
      replace hz := Lib.hid hz
      replace hm := Lib.hid hm
      go_wp2_with fail
      exact bodyPost_ret (v := .tuple #[.agg #[.int .i64 0, .slice none 0 0], .int .i64 8]) (by simp [results, Tryz.results37, go_sem, k0, k1]) rfl hfin.out
    · have hgood := Lib.hid (HG.out (by rw [hrd.out, hnd.out, hR.out, hz, hm, hsome.out, h78'.out]; rfl))
      have bW := (B3.out.block w.heap.size lt0).trans b0.out
      obtain ⟨W9, e9, g9, gr9, gs9⟩ := put_two (u := .int .i64 lv) (v := .slice X L.length cx) bW
      obtain ⟨k0, k1, kf, _⟩ := two_cells g9
      obtain ⟨u0, u1, yf, _⟩ := two_cells bW
      have hBW := HB0.out.trans (B3.out.mono HB0.out.size)
      have hfin : Hid (Nod (New w.heap.size W9) W9 (.agg #[.int .i64 lv, .slice X L.length cx]) (reV b) ∧ Below w.heap.size w W9) := Lib.hid ⟨by
        rw [hgood.out.2, hnd.out]
        exact (HN3.out.grown gr9 (fun q e => by cases e; exact Nat.lt_of_lt_of_le lt0 B1.out.size)).map fun p v hp hc => ⟨⟨Nat.le_trans hBW1.out hp.1, hp.2⟩, hc⟩, hBW.grown gr9 hBW.size (fun q e => by cases e; omega)⟩
      rw [hz]
      replace hz := Lib.hid hz
      replace hm := Lib.hid hm
      replace bW := Lib.hid bW
      replace g9 := Lib.hid g9
      clear gr9
      go_wp2_with fail
      exact bodyPost_ret (v := .tuple #[.agg #[.int .i64 lv, .slice X L.length cx], .int .i64 0]) (by simp [results, Tryz.results37, go_sem, k0, k1]) rfl ⟨_, by rw [hgood.out.1], hfin.out.1, hfin.out.2⟩
end Go.Proofs.YtdaidhbmfocodaaGreat

/-
  Package room: Node. Conditions: those that each lemma states.
-/
namespace Go.Proofs.YtdaidhbmfocodaaGreat
open Go.RowKit

noncomputable def rmE (s : Rm) (n : Int) : Int := if asE s n = 0 then reN (seenD s.1 n.toNat) else asE s n
noncomputable def rmV (s : Rm) (n : Int) : Nd := if asE s n = 0 then reV (seenD s.1 n.toNat) else zeroN
theorem rm_bad {s : Rm} {n : Int} (h : asE s n ≠ 0) : rmE s n = asE s n ∧ rmV s n = zeroN := ⟨by rw [rmE, if_neg h], by rw [rmV, if_neg h]⟩
theorem as_read {s : Rm} {n : Int} (h : asE s n = 0) : ∃ k : Nat, n = k ∧ mayR s = true ∧ 8 ≤ k ∧ k < 256 ∧ chkAt s.1 n = 0 ∧ rdX s.1 n = seenD s.1 k ∧ rmE s n = reN (seenD s.1 k) ∧ rmV s n = reV (seenD s.1 k) ∧ s.2.1[k]?.getD 0 ≠ 0 := by
  rcases as_ways s n with ⟨_, e⟩ | ⟨_, _, e⟩ | ⟨k, _, _, _, _, _, e⟩ | ⟨k, hm, rfl, h8, h256, hx, e⟩
  · rw [e] at h; cases h
  · rw [e] at h; cases h
  · rw [e] at h; cases h
  · have hmd := (mayR_of hm).1
    have ht := thereB_of h256
    exact ⟨k, rfl, hm, h8, h256, by simp [chkAt, hmd, ht], by simp [rdX, chkAt, hmd, ht], by rw [rmE, if_pos h]; rfl, by rw [rmV, if_pos h]; rfl, hx⟩

set_option maxRecDepth 100000 in
set_option maxHeartbeats 4000000 in
theorem nodeR_any (v : Value) (s : Rm) (n : Int) (w : World) (h : Sto (Old w) w v s) :
    Calls Tryz.prog 19 #[v, .int .i64 n] w fun e w' => ∃ u, e = .returned (.tuple #[u, .int .i64 (rmE s n)]) ∧ Nod (New w.heap.size w') w' u (rmV s n) ∧ Below w.heap.size w w' := by
  obtain ⟨A, ca, B, cb, N, cn, L, cl, rfl, _, _, _⟩ := h.open
  obtain ⟨w1, hw1, f1, f2, hsz, hB⟩ : ∃ w1, (w.alloc (.cells #[.slice A s.1.1.length ca, .slice B s.1.2.length cb, .slice N s.2.1.length cn, .slice L s.2.2.length cl] 29)).alloc (.cells #[.int .i64 0, .slice none 0 0] 57) = w1 ∧
      w1.heap[w.heap.size]? = some (.cells #[.slice A s.1.1.length ca, .slice B s.1.2.length cb, .slice N s.2.1.length cn, .slice L s.2.2.length cl] 29 (0, 0)) ∧ w1.heap[w.heap.size + 1]? = some (.cells #[.int .i64 0, .slice none 0 0] 57 (0, 0)) ∧ w1.heap.size = w.heap.size + 2 ∧ Below w.heap.size w w1 := by
    refine ⟨_, rfl, alloc_block (heap_alloc_new _ _), ?_, by simp, ((Below.refl _ w).alloc (Nat.le_refl _) _).alloc (by simp) _⟩
    have := heap_alloc_new (w.alloc (.cells #[.slice A s.1.1.length ca, .slice B s.1.2.length cb, .slice N s.2.1.length cn, .slice L s.2.2.length cl] 29)) (.cells #[.int .i64 0, .slice none 0 0] 57)
    rwa [World.size_alloc] at this
  have H := Lib.hid (h.below hB)
  clear h
  obtain ⟨k0, k1, k2, k3, _, kg⟩ := four_cells f1
  replace hsz := Lib.hid hsz
  replace f2 := Lib.hid f2
  obtain ⟨q, hq⟩ : ∃ q, rmE s n = q := ⟨_, rfl⟩
  by_cases ha : asE s n = 0
  · obtain ⟨k, rfl, hm, h8, h256, hck, hrd, hE, hV, -⟩ := as_read ha
    obtain ⟨b, hb⟩ : ∃ b, seenD s.1 k = b := ⟨_, rfl⟩
    rw [hb] at hrd hE hV
    rw [hE] at hq
    replace hE : Hid (rmE s (k : Int) = q) := Lib.hid (by rw [hE, hq])
    replace hq := Lib.hid hq
    replace ha := Lib.hid ha
    replace hck := Lib.hid hck
    replace hrd := Lib.hid hrd
    replace hV := Lib.hid hV
    replace hb := Lib.hid hb
    go_enter Tryz.func19, Tryz.ntmps19
    go_upto_region 1 with fail
    clear hw1
    go_wp2_with fail
    with_reducible refine (checkTakenR_any _ s (k : Int) _ H.out).mono ?_
    rintro e w2 ⟨rfl, hb2⟩
    rw [ha.out]
    have G2 := (hb2.block w.heap.size kg).trans f1
    obtain ⟨m0, m1, m2, m3, _, mg⟩ := four_cells G2
    have F2 := Lib.hid ((hb2.block (w.heap.size + 1) (by rw [hsz.out]; omega)).trans f2.out)
    have H2 := Lib.hid (H.out.below hb2)
    have s2 : Hid (w.heap.size + 2 ≤ w2.heap.size) := Lib.hid (by have := hb2.size; have := hsz.out; omega)
    replace hb2 := Lib.hid (hB.trans (hb2.mono hB.size))
    clear k0 k1 k2 k3 kg f1 hB G2
    go_wp2_with fail
    with_reducible refine (read_all _ s.1 (k : Int) _ H2.out.parts.1).mono ?_
    rintro e w3 ⟨u3, rfl, h3, hb3⟩
    rw [hck.out]
    rw [hrd.out] at h3
    obtain ⟨R, rc, rfl, _⟩ := id (rBy_open h3)
    have F3 := Lib.hid ((hb3.block (w.heap.size + 1) (by have := s2.out; omega)).trans F2.out)
    have B3 := Lib.hid (hb2.out.trans (hb3.mono hb2.out.size))
    have s3 : Hid (w.heap.size + 2 ≤ w3.heap.size) := Lib.hid (by have := hb3.size; have := s2.out; omega)
    have H3 := Lib.hid (stab_by.drop h3)
    clear hb3 h3 m0 m1 m2 m3 mg F2
    go_wp2_with fail
    with_reducible refine (nodeRead_any _ b _ H3.out).mono ?_
    rintro e w4 ⟨u4, rfl, h4, hb4⟩
    rw [hq.out]
    obtain ⟨P, pc, rfl, _⟩ := id h4.open
    have F4 := (hb4.block (w.heap.size + 1) (by have := s3.out; omega)).trans F3.out
    obtain ⟨m0, m1, m2, m3⟩ := two_cells F4
    obtain ⟨W9, hW9, g9, gr9, gs9⟩ := put_two (u := .int .i64 (reV b).1) (v := .slice P (reV b).2.length pc) F4
    obtain ⟨n0, n1, _, _⟩ := two_cells g9
    have r3 := s3.out
    have l3 := B3.out.size
    have hfin := Lib.hid (show Nod (New w.heap.size W9) W9 (.agg #[.int .i64 (reV b).1, .slice P (reV b).2.length pc]) (rmV s (k : Int)) from by
      rw [hV.out]
      exact (h4.grown gr9 (fun q e => by cases e; omega)).new l3 (Below.refl _ _))
    have hB9 := Lib.hid ((B3.out.trans (hb4.mono B3.out.size)).grown gr9 (Nat.le_trans l3 hb4.size) (fun q e => by cases e; omega))
    replace F4 := Lib.hid F4
    replace g9 := Lib.hid g9
    clear gr9 gs9 h4 hb4 r3 l3
    go_wp2_with fail
    refine bodyPost_ret (v := .tuple #[.agg #[.int .i64 (reV b).1, .slice P (reV b).2.length pc], .int .i64 q]) (by simp [results, Tryz.results19, go_sem, n0, n1]) rfl ?_
    rw [hE.out]
    exact ⟨_, rfl, hfin.out, hB9.out⟩
  · obtain ⟨hE, hV⟩ := rm_bad ha
    rw [hE] at hq
    have hq1 : (q != 0) = true := by rw [← hq]; simpa using ha
    have hq2 : Hid (asE s n = q) := Lib.hid hq
    replace hq : Hid (rmE s n = q) := Lib.hid (by rw [hE]; exact hq)
    replace hV := Lib.hid hV
    clear ha hE
    go_enter Tryz.func19, Tryz.ntmps19
    go_upto_region 1 with fail
    clear hw1
    go_wp2_with fail
    with_reducible refine (checkTakenR_any _ s n _ H.out).mono ?_
    rintro e w2 ⟨rfl, hb2⟩
    rw [hq2.out]
    have F2 := (hb2.block (w.heap.size + 1) (by rw [hsz.out]; omega)).trans f2.out
    replace hb2 := Lib.hid (hB.trans (hb2.mono hB.size))
    obtain ⟨m0, m1, m2, m3⟩ := two_cells F2
    obtain ⟨W9, hW9, g9, gr9, gs9⟩ := put_two (u := .int .i64 0) (v := .slice none 0 0) F2
    obtain ⟨n0, n1, _, _⟩ := two_cells g9
    have hB9 := Lib.hid ((hb2).out.grown gr9 (hb2).out.size (fun q e => by cases e; omega))
    replace g9 := Lib.hid g9
    replace F2 := Lib.hid F2
    clear gr9 gs9
    go_wp2_with fail
    refine bodyPost_ret (v := .tuple #[.agg #[.int .i64 0, .slice none 0 0], .int .i64 q]) (by simp [results, Tryz.results19, go_sem, n0, n1]) rfl ?_
    rw [hV.out, hq.out]
    exact ⟨_, rfl, nod_zero _ _, hB9.out⟩
end Go.Proofs.YtdaidhbmfocodaaGreat

/-
  Package node: Place. Conditions: those that each lemma states.
-/
namespace Go.Proofs.YtdaidhbmfocodaaGreat
open Go.RowKit

set_option maxRecDepth 100000 in
theorem key_guard : Tryz.prog.eqGuardType Tryz.prog.depth 38 = false := by kernel_rfl
set_option maxRecDepth 100000 in
/-- Two keys held against each other, as the walk spells it. -/
theorem key_eq (a b : Ky) (w : World) : (Op.equalIn 10000 38 (kyV a) (kyV b)).run Tryz.prog w = .ok (decide (a = b)) w := by
  have hS : Tryz.prog.underlying 38 = some (.struct (Tryz.prog.fieldsOf 38)) := by kernel_rfl
  have hp : Tryz.prog.stoodInHeld 38 = false := by kernel_rfl
  have u3 := Tryz.underlying5
  have u4 := Tryz.underlying36
  have a3 := Tryz.isAgg5
  have z3 := Tryz.sizeOf5
  have a4 := Tryz.isAgg36
  have z4 := Tryz.sizeOf36
  obtain ⟨a1, a2, a3⟩ := a
  obtain ⟨b1, b2, b3⟩ := b
  have h : a1 = b1 ↔ (a1.toNat : Int) = b1.toNat := ⟨fun h => by rw [h], fun h => UInt8.toNat.inj (by omega)⟩
  simp only [Prod.mk.injEq, h]
  unfold kyV
  rw [show (10000 : Nat) = 9999 + 1 from rfl, run_equalIn_agg w 9999 38 _ _ hS hp]
  simp only [Program.fieldsOf, Tryz.underlying38]
  go_simp
  by_cases h1 : (a1.toNat : Int) = b1.toNat <;> by_cases h2 : a2 = b2 <;> by_cases h3 : a3 = b3 <;> simp [h1, h2, h3]

end Go.Proofs.YtdaidhbmfocodaaGreat

/-
  Package node: Same. Conditions: those that each lemma states.
-/
namespace Go.Proofs.YtdaidhbmfocodaaGreat
open Go.RowKit

def sameIs (xs ys : List It) : Bool := decide (xs = ys)

end Go.Proofs.YtdaidhbmfocodaaGreat

/-
  What nodes and their blocks tell of one another, plain. Layer 6's law helper alive. Conditions: those that each lemma states.
-/
namespace Go.Proofs.YtdaidhbmfocodaaGreat
open Go.RowKit

structure InN (n : Nd) : Prop where
  lv : In64 n.1
  it : ∀ x ∈ n.2, InI x
theorem Nod.inN {ok : Addr → Prop} {w : World} {v : Value} {n : Nd} (h : Nod ok w v n) : InN n := by
  obtain ⟨A, c, _, h1, _, _, h2⟩ := h.open
  refine ⟨h1, fun x hx => ?_⟩
  obtain ⟨k, hk⟩ := List.mem_iff_getElem?.1 hx
  obtain ⟨_, _, _, _, _, _, _, _, _, hi⟩ := its_at h2 hk
  exact hi
theorem noughts_zeros {b : List UInt8} (h : noughtsB b = true) : b = zeros b.length := by
  simp only [noughtsB, List.all_eq_true, beq_iff_eq] at h
  exact List.eq_replicate_iff.2 ⟨rfl, h⟩
theorem told_parts (n : Nd) : toldN n = [78, UInt8.ofNat n.1.toNat, UInt8.ofNat n.2.length] ++ itsB n.2 := rfl
/-- What is read is written so. -/
theorem blkN_read {b : List UInt8} (h : reN b = 0) : mayN (reV b) = true ∧ blkN (reV b) = b ∧ InN (reV b) := by
  have hoe : oe b = 0 := by
    unfold reN at h
    by_cases e : oe b = 0
    · exact e
    · rw [if_neg e] at h; exact absurd h e
  have hrd : rdN (ob b) = true := by
    unfold reN at h
    rw [if_pos hoe] at h
    cases e : rdN (ob b) with
    | true => rfl
    | false => rw [e] at h; cases h
  obtain ⟨e1, e2⟩ := reN_good hoe hrd
  obtain ⟨hlen, hfits, hob, h124⟩ := oe_zeroN hoe
  rw [e2]
  obtain ⟨bd, hbd⟩ : ∃ bd, ob b = bd := ⟨_, rfl⟩
  rw [hbd] at hrd h124 ⊢
  unfold rdN at hrd
  simp only [Bool.and_eq_true, decide_eq_true_eq] at hrd
  obtain ⟨h78, hs, hm, hn⟩ := hrd
  cases hc : cutTo (bd.drop 3) (manyN bd) with
  | none => rw [hc] at hs; cases hs
  | some p =>
    obtain ⟨l, r⟩ := p
    have hL : cutL (bd.drop 3) (manyN bd) = l := by simp [cutL, hc]
    have hR : cutR (bd.drop 3) (manyN bd) = r := by simp [cutR, hc]
    obtain ⟨c1, c2, c3⟩ := cutTo_bytes hc
    rw [hR] at hn
    have hnd : ndN bd = (lvlN bd, l) := by rw [ndN, hL]
    have hin : InN (ndN bd) := by
      rw [hnd]
      exact ⟨lvlN_in bd, fun x hx => (c3 x hx).2⟩
    refine ⟨hm, ?_, hin⟩
    have hsplit : bd = [78, bd[1]?.getD 0, bd[2]?.getD 0] ++ bd.drop 3 := by
      match bd, h124, h78 with
      | x :: y :: z :: q, _, h78 =>
        simp at h78
        simp [h78]
    have hT : toldN (ndN bd) = [78, bd[1]?.getD 0, bd[2]?.getD 0] ++ itsB l := by
      rw [hnd, told_parts, c2]
      have e1 : UInt8.ofNat (lvlN bd).toNat = bd[1]?.getD 0 := by simp [lvlN]
      have e2 : UInt8.ofNat (manyN bd) = bd[2]?.getD 0 := by simp [manyN]
      show [78, UInt8.ofNat (lvlN bd).toNat, UInt8.ofNat (manyN bd)] ++ itsB l = _
      rw [e1, e2]
    have hbody : bd = toldN (ndN bd) ++ r := by
      rw [hT, List.append_assoc, ← c1]
      exact hsplit
    have hpad : padN (toldN (ndN bd)) = bd := by
      have hl2 : (toldN (ndN bd)).length + r.length = 124 := by
        have := congrArg List.length hbody
        rw [List.length_append, h124] at this
        omega
      rw [padN, show 124 - (toldN (ndN bd)).length = r.length by omega, ← noughts_zeros hn]
      exact hbody.symm
    show sealN (toldN (ndN bd)) = b
    have hs : sealN (toldN (ndN bd)) = sealN bd := by
      unfold sealN
      rw [hpad, padN_full h124]
    rw [hs, ← hbd, hob]
    exact seal_back hlen hfits
/-! ### alive -/
end Go.Proofs.YtdaidhbmfocodaaGreat

/-
  Trees, plain: which may be, their items, what is found in them. Conditions: those that each lemma states.
-/
namespace Go.Proofs.YtdaidhbmfocodaaGreat
open Go.RowKit

/-! ### Which trees may be -/
def keyZ : Ky := (0, 0, 0)
/-- The Refs of a leaf's items are referred tb. -/
def leafO (s : Rm) (l : List It) : Bool := l.all fun x => decide (x.2.1 = 0) || decide (s.2.1[x.2.1.toNat]?.getD 0 ≠ 0)
/-- Each of some items, by its Ref, its key, and the next one's key (or a bound). -/
def itsO (f : Int → Ky → Ky → Bool → Bool) : List It → Ky → Bool → Bool
  | [], _, _ => true
  | [x], tb, ends => f x.2.1 x.1 tb ends
  | x :: y :: r, tb, ends => f x.2.1 x.1 y.1 true && itsO f (y :: r) tb ends
/-- The first key, and the last one ahead of a bound. -/
def headO (l : List It) (k tb : Ky) (ends : Bool) : Bool := (match l[0]? with | none => false | some x => decide (x.1 = k)) && (!ends || (match l.getLast? with | none => false | some y => lessK y.1 tb))
noncomputable def rightO (s : Rm) : Nat → Int → Ky → Ky → Bool → Bool
  | 0, a, k, tb, ends => (decide (rmE s a = 0) && decide ((rmV s a).1 = 0)) && (headO (rmV s a).2 k tb ends && leafO s (rmV s a).2)
  | l + 1, a, k, tb, ends => (decide (rmE s a = 0) && decide ((rmV s a).1 = ((l + 1 : Nat) : Int))) && (headO (rmV s a).2 k tb ends && itsO (rightO s l) (rmV s a).2 tb ends)
noncomputable def innerO (s : Rm) (n : Nd) (tb : Ky) (ends : Bool) : Bool := match n.1.toNat with
  | 0 => leafO s n.2
  | l + 1 => itsO (rightO s l) n.2 tb ends
noncomputable def treeO (s : Rm) (a : Int) : Bool := decide (rmE s a = 0) && innerO s (rmV s a) keyZ false
noncomputable def fnH (s : Rm) (a : Int) : Int := if treeO s a then (rmV s a).1 + 1 else -1
noncomputable def ckE (s : Rm) (a : Int) : Int := if asE s a = 0 then (if treeO s a then 0 else 8) else asE s a
noncomputable def ckH (s : Rm) (a : Int) : Int := if ckE s a = 0 then (rmV s a).1 + 1 else 0

/-! ### Items, and what is found -/
noncomputable def itsT (s : Rm) : Nat → Int → List It
  | 0, a => (rmV s a).2
  | l + 1, a => (rmV s a).2.flatMap fun x => itsT s l x.2.1
noncomputable def oneO (s : Rm) : Nat → Int → Ky → Option It
  | 0, a, k => (rmV s a).2.reverse.find? fun x => decide (x.1 = k)
  | l + 1, a, k => ((rmV s a).2.reverse.find? fun x => !lessK k x.1).bind fun x => oneO s l x.2.1 k
/-- The items of a tree; the one of a key. -/
noncomputable def allO (s : Rm) (a : Int) : List It := itsT s (rmV s a).1.toNat a
noncomputable def theO (s : Rm) (a : Int) (k : Ky) : Option It := oneO s (rmV s a).1.toNat a k

def Up (l : List It) : Prop := l.Pairwise fun x y => lessK x.1 y.1 = true
theorem rm_may {s : Rm} {a : Int} (h : rmE s a = 0) : mayN (rmV s a) = true ∧ asE s a = 0 := by
  by_cases ha : asE s a = 0
  · obtain ⟨k, _, _, _, _, _, _, hE, hV, _⟩ := as_read ha
    rw [hE] at h
    rw [hV]
    exact ⟨(blkN_read h).1, ha⟩
  · rw [(rm_bad ha).1] at h
    exact absurd h ha
theorem up_may {n : Nd} (h : mayN n = true) : Up n.2 := by
  rw [Up, List.pairwise_iff_getElem]
  intro i j hi hj hij
  exact mayN_rises h hij (List.getElem?_eq_getElem hi) (List.getElem?_eq_getElem hj)
theorem up_first {x : It} {l : List It} (h : Up (x :: l)) : ∀ y ∈ x :: l, y.1 = x.1 ∨ lessK x.1 y.1 = true := fun y hy => by
  rcases List.mem_cons.1 hy with rfl | hy
  · exact .inl rfl
  · exact .inr ((List.pairwise_cons.1 h).1 y hy)
theorem up_last {l : List It} {z : It} {tb : Ky} (h : Up l) (hl : l.getLast? = some z) (hz : lessK z.1 tb = true) : ∀ y ∈ l, lessK y.1 tb = true := fun y hy => by
  obtain ⟨r, rfl⟩ := List.getLast?_eq_some_iff.1 hl
  rcases List.mem_append.1 hy with hy | hy
  · exact less_trans ((List.pairwise_append.1 h).2.2 y hy z (by simp)) hz
  · rw [List.mem_singleton.1 hy]
    exact hz
theorem head_of {l : List It} {k tb : Ky} {ends : Bool} (h : headO l k tb ends = true) : ∃ x r, l = x :: r ∧ x.1 = k ∧ (ends = true → ∃ z, l.getLast? = some z ∧ lessK z.1 tb = true) := by
  unfold headO at h
  rw [Bool.and_eq_true] at h
  obtain ⟨h1, h2⟩ := h
  cases l with
  | nil => simp at h1
  | cons x r =>
    refine ⟨x, r, rfl, by simpa using h1, fun he => ?_⟩
    rw [he] at h2
    cases hz : (x :: r).getLast? with
    | none => rw [hz] at h2; simp at h2
    | some z => rw [hz] at h2; exact ⟨z, rfl, by simpa using h2⟩

/-- What a part of a tree has: items that rise, from a first key on, ahead of a bound. -/
structure Part (M : List It) (k tb : Ky) (ends : Bool) (N : Nat) : Prop where
  first : ∃ x r, M = x :: r ∧ x.1 = k
  up : Up M
  bound : ends = true → ∀ y ∈ M, lessK y.1 tb = true
  few : M.length ≤ N
theorem Part.ge {M : List It} {k tb : Ky} {ends : Bool} {N : Nat} (h : Part M k tb ends N) : ∀ y ∈ M, y.1 = k ∨ lessK k y.1 = true := by
  obtain ⟨x, r, rfl, rfl⟩ := h.first
  exact up_first h.up
theorem part_its {f : Int → Ky → Ky → Bool → Bool} {g : Int → List It} {N : Nat} (hf : ∀ a k tb ends, f a k tb ends = true → Part (g a) k tb ends N) : ∀ (L : List It) (tb : Ky) (ends : Bool), L ≠ [] → itsO f L tb ends = true →
    ∃ x r, L = x :: r ∧ Part (L.flatMap fun x => g x.2.1) x.1 tb ends (N * L.length)
  | [], _, _, h, _ => absurd rfl h
  | [x], tb, ends, _, h => by
    refine ⟨x, [], rfl, ?_⟩
    have := hf _ _ _ _ h
    simpa using this
  | x :: y :: r, tb, ends, _, h => by
    refine ⟨x, y :: r, rfl, ?_⟩
    unfold itsO at h
    rw [Bool.and_eq_true] at h
    have hx := hf _ _ _ _ h.1
    obtain ⟨y', r', e, hy⟩ := part_its hf (y :: r) tb ends (by simp) h.2
    cases e
    have e2 : (x :: y :: r).flatMap (fun x => g x.2.1) = g x.2.1 ++ (y :: r).flatMap fun x => g x.2.1 := List.flatMap_cons
    rw [e2]
    have hb := hx.bound rfl
    have hlt : ∀ p ∈ g x.2.1, ∀ q ∈ (y :: r).flatMap (fun x => g x.2.1), lessK p.1 q.1 = true := fun p hp q hq => by
      rcases hy.ge q hq with e | e
      · rw [e]; exact hb p hp
      · exact less_trans (hb p hp) e
    refine ⟨?_, ?_, fun he p hp => ?_, ?_⟩
    · obtain ⟨z, q, ez, kz⟩ := hx.first
      exact ⟨z, _, by rw [ez]; rfl, kz⟩
    · exact List.pairwise_append.2 ⟨hx.up, hy.up, hlt⟩
    · rcases List.mem_append.1 hp with hp | hp
      · obtain ⟨z, q, ez, kz⟩ := hy.first
        have hz := hlt p hp z (by rw [ez]; simp)
        exact less_trans hz (hy.bound he z (by rw [ez]; simp))
      · exact hy.bound he p hp
    · have h1 := hx.few
      have h2 := hy.few
      rw [List.length_append]
      have e3 : N * (x :: y :: r).length = N + N * (y :: r).length := by rw [List.length_cons, Nat.mul_succ, Nat.add_comm]
      omega
theorem right_of {s : Rm} {l : Nat} {a : Int} {k tb : Ky} {ends : Bool} (h : rightO s l a k tb ends = true) : rmE s a = 0 ∧ (rmV s a).1 = l ∧ headO (rmV s a).2 k tb ends = true ∧ (match l with | 0 => leafO s (rmV s a).2 | l' + 1 => itsO (rightO s l') (rmV s a).2 tb ends) = true := by
  cases l with
  | zero =>
    simp only [rightO, Bool.and_eq_true, decide_eq_true_eq] at h
    exact ⟨h.1.1, h.1.2, h.2.1, h.2.2⟩
  | succ l =>
    simp only [rightO, Bool.and_eq_true, decide_eq_true_eq] at h
    exact ⟨h.1.1, h.1.2, h.2.1, h.2.2⟩
theorem right_part (s : Rm) : ∀ (l : Nat) (a : Int) (k tb : Ky) (ends : Bool), rightO s l a k tb ends = true → Part (itsT s l a) k tb ends (5 ^ (l + 1))
  | 0, a, k, tb, ends, h => by
    obtain ⟨h1, h2, h3, h4⟩ := right_of h
    obtain ⟨hm, _⟩ := rm_may h1
    obtain ⟨x, r, e, ek, hz⟩ := head_of h3
    refine ⟨⟨x, r, e, ek⟩, up_may hm, fun he => ?_, ?_⟩
    · obtain ⟨z, e1, e2⟩ := hz he
      exact up_last (up_may hm) e1 e2
    · exact (mayN_of hm).1.2.2.1
  | l + 1, a, k, tb, ends, h => by
    obtain ⟨h1, h2, h3, h4⟩ := right_of h
    obtain ⟨hm, _⟩ := rm_may h1
    obtain ⟨x, r, e, ek, hz⟩ := head_of h3
    obtain ⟨x', r', e', hp⟩ := part_its (right_part s l) (rmV s a).2 tb ends (by rw [e]; simp) h4
    rw [e] at e'
    cases e'
    rw [ek] at hp
    refine ⟨hp.first, hp.up, hp.bound, Nat.le_trans hp.few ?_⟩
    have h5 := (mayN_of hm).1.2.2.1
    rw [Nat.pow_succ 5 (l + 1)]
    exact Nat.mul_le_mul_left _ h5

/-! ### What is found -/
theorem find_rev {p : It → Bool} (x : It) (l : List It) : (x :: l).reverse.find? p = match l.reverse.find? p with | some y => some y | none => if p x then some x else none := by
  rw [List.reverse_cons, List.find?_append]
  cases l.reverse.find? p with
  | some y => rfl
  | none =>
    simp only [Option.none_or, List.find?_cons, List.find?_nil]
    cases p x <;> rfl
theorem find_none {p : It → Bool} {l : List It} (h : ∀ x ∈ l, p x = false) : l.reverse.find? p = none := by
  rw [List.find?_eq_none]
  intro x hx
  rw [h x (List.mem_reverse.1 hx)]
  simp
/-- The last one whose key is not behind. -/
theorem down_its {f : Int → Ky → Ky → Bool → Bool} {g : Int → List It} {N : Nat} (hf : ∀ a k tb ends, f a k tb ends = true → Part (g a) k tb ends N) : ∀ (L : List It) (tb : Ky) (ends : Bool), Up L → itsO f L tb ends = true → ∀ x ∈ L.flatMap (fun x => g x.2.1),
    ∃ y ∈ L, x ∈ g y.2.1 ∧ (L.reverse.find? fun z => !lessK x.1 z.1) = some y ∧ ∃ t e, f y.2.1 y.1 t e = true
  | [], _, _, _, _, x, hx => by simp at hx
  | [y], tb, ends, _, h, x, hx => by
    have hx' : x ∈ g y.2.1 := by simpa using hx
    refine ⟨y, by simp, hx', ?_, tb, ends, h⟩
    have hp := hf _ _ _ _ h
    have : lessK x.1 y.1 = false := by
      rcases hp.ge x hx' with e | e
      · rw [e]; exact less_self _
      · exact less_anti e
    simp [this]
  | y :: z :: r, tb, ends, hu, h, x, hx => by
    unfold itsO at h
    rw [Bool.and_eq_true] at h
    have hy := hf _ _ _ _ h.1
    have e2 : (y :: z :: r).flatMap (fun x => g x.2.1) = g y.2.1 ++ (z :: r).flatMap fun x => g x.2.1 := List.flatMap_cons
    rw [e2] at hx
    rw [find_rev]
    rcases List.mem_append.1 hx with hx | hx
    · have hb := hy.bound rfl x hx
      have hge : lessK x.1 y.1 = false := by
        rcases hy.ge x hx with e | e
        · rw [e]; exact less_self _
        · exact less_anti e
      have hno : (z :: r).reverse.find? (fun w => !lessK x.1 w.1) = none := find_none fun w hw => by
        rcases up_first (List.pairwise_cons.1 hu).2 w hw with e | e
        · rw [e, hb]; rfl
        · rw [less_trans hb e]; rfl
      refine ⟨y, by simp, hx, ?_, _, _, h.1⟩
      rw [hno]
      simp [hge]
    · obtain ⟨w, hw, h1, h2, h3⟩ := down_its hf (z :: r) tb ends (List.pairwise_cons.1 hu).2 h.2 x hx
      exact ⟨w, List.mem_cons_of_mem _ hw, h1, by rw [h2], h3⟩
theorem leaf_found {l : List It} (hu : Up l) {x : It} (hx : x ∈ l) : (l.reverse.find? fun y => decide (y.1 = x.1)) = some x := by
  induction l with
  | nil => simp at hx
  | cons y r ih =>
    rw [find_rev]
    rcases List.mem_cons.1 hx with rfl | hx
    · have hno : r.reverse.find? (fun y => decide (y.1 = x.1)) = none := find_none fun z hz => by
        have h1 := (List.pairwise_cons.1 hu).1 z hz
        have : z.1 ≠ x.1 := fun e => by rw [e, less_self] at h1; cases h1
        simpa using this
      rw [hno]
      simp
    · rw [ih (List.pairwise_cons.1 hu).2 hx]
theorem right_found (s : Rm) : ∀ (l : Nat) (a : Int) (k tb : Ky) (ends : Bool), rightO s l a k tb ends = true → ∀ x ∈ itsT s l a, oneO s l a x.1 = some x
  | 0, a, k, tb, ends, h, x, hx => leaf_found (up_may (rm_may (right_of h).1).1) hx
  | l + 1, a, k, tb, ends, h, x, hx => by
    obtain ⟨h1, h2, h3, h4⟩ := right_of h
    obtain ⟨y, hy, h5, h6, t, e, h7⟩ := down_its (right_part s l) (rmV s a).2 tb ends (up_may (rm_may h1).1) h4 x hx
    unfold oneO
    rw [h6]
    exact right_found s l y.2.1 y.1 t e h7 x h5

/-! ### A tree that may be -/
theorem tree_of {s : Rm} {a : Int} (h : treeO s a = true) : rmE s a = 0 ∧ asE s a = 0 ∧ mayN (rmV s a) = true ∧ 0 ≤ (rmV s a).1 ∧ (rmV s a).1 < 6 ∧ innerO s (rmV s a) keyZ false = true := by
  simp only [treeO, Bool.and_eq_true, decide_eq_true_eq] at h
  obtain ⟨hm, ha⟩ := rm_may h.1
  exact ⟨h.1, ha, hm, (mayN_of hm).1.1, (mayN_of hm).1.2.1, h.2⟩
/-- What a tree that may be has. -/
theorem tree_all {s : Rm} {a : Int} (h : treeO s a = true) : Up (allO s a) ∧ (allO s a).length ≤ 15625 ∧ (∀ x ∈ allO s a, theO s a x.1 = some x) := by
  obtain ⟨h1, _, hm, l0, l6, hi⟩ := tree_of h
  unfold allO theO
  unfold innerO at hi
  have hl : (rmV s a).1.toNat ≤ 5 := by omega
  generalize hl0 : (rmV s a).1.toNat = l at hi hl ⊢
  cases l with
  | zero =>
    refine ⟨up_may hm, Nat.le_trans (mayN_of hm).1.2.2.1 (by decide), fun x hx => leaf_found (up_may hm) hx⟩
  | succ l =>
    have hne : (rmV s a).2 ≠ [] := fun e => by
      have := (mayN_of hm).1.2.2.2 (by omega)
      rw [e] at this
      simp at this
    obtain ⟨x, r, e, hp⟩ := part_its (right_part s l) (rmV s a).2 keyZ false hne hi
    refine ⟨hp.up, Nat.le_trans hp.few ?_, fun x hx => ?_⟩
    · have h5 := (mayN_of hm).1.2.2.1
      have hpw : 5 ^ (l + 1) ≤ 5 ^ 5 := Nat.pow_le_pow_right (by decide) (by omega)
      have := Nat.mul_le_mul hpw h5
      omega
    · obtain ⟨y, hy, h5, h6, t, e, h7⟩ := down_its (right_part s l) (rmV s a).2 keyZ false (up_may hm) hi x hx
      unfold oneO
      rw [h6]
      exact right_found s l y.2.1 y.1 t e h7 x h5
/-! ### As loops go -/
theorem leaf_take {s : Rm} {l : List It} {i : Nat} {x : It} (hx : l[i]? = some x) : leafO s (l.take (i + 1)) = (leafO s (l.take i) && (decide (x.2.1 = 0) || decide (s.2.1[x.2.1.toNat]?.getD 0 ≠ 0))) := by
  have hk := (List.getElem?_eq_some_iff.1 hx).1
  have hg : l[i] = x := (List.getElem?_eq_some_iff.1 hx).2
  rw [← List.take_append_getElem hk, hg]
  simp [leafO]
theorem leaf_bad {s : Rm} {l : List It} {i : Nat} (h : leafO s (l.take i) = false) : leafO s l = false := by
  cases e : leafO s l with
  | false => rfl
  | true =>
    unfold leafO at e h
    rw [List.all_eq_true] at e
    rw [← h]
    symm
    rw [List.all_eq_true]
    exact fun x hx => e x (List.mem_of_mem_take hx)
/-- The bound of an item, and whether there is one. -/
def nxO (r : List It) (tb : Ky) : Ky := match r with | [] => tb | y :: _ => y.1
def bxO (r : List It) (ends : Bool) : Bool := match r with | [] => ends | _ :: _ => true
theorem its_cons (f : Int → Ky → Ky → Bool → Bool) (x : It) (r : List It) (tb : Ky) (ends : Bool) : itsO f (x :: r) tb ends = (f x.2.1 x.1 (nxO r tb) (bxO r ends) && itsO f r tb ends) := by
  cases r with
  | nil => simp [itsO, nxO, bxO]
  | cons y r => rfl
theorem its_drop (f : Int → Ky → Ky → Bool → Bool) {l : List It} {i : Nat} {x : It} (hx : l[i]? = some x) (tb : Ky) (ends : Bool) : itsO f (l.drop i) tb ends = (f x.2.1 x.1 (nxO (l.drop (i + 1)) tb) (bxO (l.drop (i + 1)) ends) && itsO f (l.drop (i + 1)) tb ends) := by
  have hk := (List.getElem?_eq_some_iff.1 hx).1
  have hg : l[i] = x := (List.getElem?_eq_some_iff.1 hx).2
  rw [List.drop_eq_getElem_cons hk, hg, its_cons]
theorem nx_some {l : List It} {i : Nat} {y : It} (hy : l[i]? = some y) (tb : Ky) (ends : Bool) : nxO (l.drop i) tb = y.1 ∧ bxO (l.drop i) ends = true := by
  have hk := (List.getElem?_eq_some_iff.1 hy).1
  have hg : l[i] = y := (List.getElem?_eq_some_iff.1 hy).2
  rw [List.drop_eq_getElem_cons hk, hg]
  exact ⟨rfl, rfl⟩
theorem nx_none {l : List It} {i : Nat} (h : l.length ≤ i) (tb : Ky) (ends : Bool) : nxO (l.drop i) tb = tb ∧ bxO (l.drop i) ends = ends := by
  rw [List.drop_of_length_le h]
  exact ⟨rfl, rfl⟩
end Go.Proofs.YtdaidhbmfocodaaGreat

/-
  Nodes made and left, plain: what is counted, what is left, and what follows. Conditions: those that each lemma states.
-/
namespace Go.Proofs.YtdaidhbmfocodaaGreat
open Go.RowKit

/-! ### Refs, counted -/
/-- Refs that are 0, or of a block. -/
def refsOk (l : List It) : Prop := ∀ x ∈ l, x.2.1 = 0 ∨ (8 ≤ x.2.1 ∧ x.2.1 < 256)
theorem refs_may {n : Nd} (h : mayN n = true) : refsOk n.2 := fun x hx => by
  obtain ⟨i, hi⟩ := List.getElem?_of_mem hx
  have hk := (List.getElem?_eq_some_iff.1 hi).1
  simp only [mayN, Bool.and_eq_true, List.all_eq_true] at h
  have h1 := h.2 i (by simpa using hk)
  simp only [okAt, hi, okP, Bool.and_eq_true] at h1
  exact (mayI_of h1.1.1).1
theorem nat_zero {x : UInt8} : x.toNat = 0 ↔ x = 0 := ⟨fun h => UInt8.toNat_inj.1 (by rw [h]; rfl), fun h => by rw [h]; rfl⟩
/-! ### To make -/
/-! ### To leave -/
/-- No count is more than it was. -/
structure LeT (u t : List UInt8) : Prop where
  len : u.length = t.length
  le : ∀ i : Nat, (u[i]?.getD 0).toNat ≤ (t[i]?.getD 0).toNat
theorem LeT.refl (t : List UInt8) : LeT t t := ⟨rfl, fun _ => Nat.le_refl _⟩
theorem LeT.trans {a b c : List UInt8} (h : LeT a b) (h' : LeT b c) : LeT a c := ⟨h.len.trans h'.len, fun i => Nat.le_trans (h.le i) (h'.le i)⟩
theorem LeT.may {u t : List UInt8} (h : LeT u t) (hm : mayT t = true) : mayT u = true :=
  mayT_yes (by rw [h.len]; exact mayT_len hm) fun j hj => by
    have h1 := h.le j
    rw [mayT_at hm hj] at h1
    exact nat_zero.1 (by simpa using h1)
/-! ### What follows -/
end Go.Proofs.YtdaidhbmfocodaaGreat

/-
  Package room: Same, New. Conditions: those that each lemma states.
-/
namespace Go.Proofs.YtdaidhbmfocodaaGreat
open Go.RowKit

def sameR (a b : Rm) : Bool := sameB a.1 b.1 && decide (a.2.1 = b.2.1) && decide (a.2.2 = b.2.2)
theorem sameR_refl (a : Rm) : sameR a a = true := by simp [sameR, sameB]
end Go.Proofs.YtdaidhbmfocodaaGreat

/-
  The document's answers of layer 8: May, Check, asked, Same, New, All, Free. Conditions: those that each lemma states.
-/
namespace Go.Proofs.YtdaidhbmfocodaaGreat
open Go.RowKit

theorem refMayT_by (v : Value) (t : List UInt8) (w : World) (h : rBy (Old w) w [v] t) : Calls Tryz.prog 80 #[v] w fun e w' => e = .returned (.bool (mayT t)) ∧ w = w' := by
  obtain ⟨A, c, rfl, l1, m1, hb⟩ := rBy_byt (B := w.heap.size) (fun _ h => h) h
  exact refMayT_any A t.length c t (Lib.hid rfl) l1 m1 w hb

set_option maxRecDepth 100000 in
set_option maxHeartbeats 2000000 in
theorem refMayR_any (v : Value) (s : Rm) (w : World) (h : Sto (Old w) w v s) : Calls Tryz.prog 53 #[v] w fun e w' => e = .returned (.bool (mayR s)) ∧ Below w.heap.size w w' := by
  obtain ⟨A, ca, B, cb, N, cn, L, cl, w1, rfl, hw1, f, hsz, hB, D, NN, LL⟩ := box_sto h
  clear h
  obtain ⟨k0, k1, k2, k3, _, kg⟩ := four_cells f
  replace hsz := Lib.hid hsz
  obtain ⟨p, hp⟩ : ∃ p, mayB s.1 = p := ⟨_, rfl⟩
  obtain ⟨q, hq⟩ : ∃ q, mayT s.2.1 = q := ⟨_, rfl⟩
  obtain ⟨r, hr⟩ : ∃ r, mayT s.2.2 = r := ⟨_, rfl⟩
  have hR : Hid (mayR s = (p && q && r)) := Lib.hid (by rw [mayR, hp, hq, hr])
  replace hp := Lib.hid hp
  replace hq := Lib.hid hq
  replace hr := Lib.hid hr
  cases p with
  | false =>
    go_enter Tryz.func53, Tryz.ntmps53
    go_upto_region 1 with fail
    clear hw1
    go_wp2_with fail
    with_reducible refine (may_any _ s.1 _ D.out).mono ?_
    rintro e w2 ⟨rfl, hb2⟩
    rw [hp.out]
    go_wp2_with fail
    go_ret
    exact ⟨ret_bool (by rw [hR.out]; rfl), hB.trans (hb2.mono hB.size)⟩
  | true =>
    cases q
    all_goals
      go_enter Tryz.func53, Tryz.ntmps53
      go_upto_region 1 with fail
      clear hw1
      go_wp2_with fail
      with_reducible refine (may_any _ s.1 _ D.out).mono ?_
      rintro e w2 ⟨rfl, hb2⟩
      rw [hp.out]
      replace k2 := (hb2.cell (p := ⟨w.heap.size, 2, none⟩) kg).trans k2
      replace k3 := (hb2.cell (p := ⟨w.heap.size, 3, none⟩) kg).trans k3
      have N2 := Lib.hid (stab_by.old NN.out hb2)
      have L2 := Lib.hid (stab_by.old LL.out hb2)
      replace hb2 := Lib.hid (hB.trans (hb2.mono hB.size))
      go_wp2_with fail
      with_reducible refine (refMayT_by _ s.2.1 _ N2.out).mono ?_
      rintro e w3 ⟨rfl, rfl⟩
      rw [hq.out]
      go_wp2_with fail
    · go_ret
      exact ⟨ret_bool (by rw [hR.out]; rfl), hb2.out⟩
    · with_reducible refine (refMayT_by _ s.2.2 _ L2.out).mono ?_
      rintro e w3 ⟨rfl, rfl⟩
      rw [hr.out]
      go_wp2_with fail
      go_ret
      exact ⟨ret_bool (by rw [hR.out]; cases r <;> rfl), hb2.out⟩

set_option maxRecDepth 100000 in
set_option maxHeartbeats 4000000 in
theorem refSameR_any (v u : Value) (s o : Rm) (w : World) (h : Sto (Old w) w v s) (hu : Sto (Old w) w u o) :
    Calls Tryz.prog 18 #[v, u] w fun e w' => e = .returned (.bool (sameR s o)) ∧ Below w.heap.size w w' := by
  obtain ⟨A, ca, B, cb, N, cn, L, cl, rfl, _, _, _⟩ := h.open
  obtain ⟨A', ca', B', cb', N', cn', L', cl', rfl, _, _, _⟩ := hu.open
  obtain ⟨w1, hw1, f1, f2, hsz, hB⟩ : ∃ w1, (w.alloc (.cells #[.slice A s.1.1.length ca, .slice B s.1.2.length cb, .slice N s.2.1.length cn, .slice L s.2.2.length cl] 29)).alloc (.cells #[.slice A' o.1.1.length ca', .slice B' o.1.2.length cb', .slice N' o.2.1.length cn', .slice L' o.2.2.length cl'] 29) = w1 ∧
      w1.heap[w.heap.size]? = some (.cells #[.slice A s.1.1.length ca, .slice B s.1.2.length cb, .slice N s.2.1.length cn, .slice L s.2.2.length cl] 29 (0, 0)) ∧ w1.heap[w.heap.size + 1]? = some (.cells #[.slice A' o.1.1.length ca', .slice B' o.1.2.length cb', .slice N' o.2.1.length cn', .slice L' o.2.2.length cl'] 29 (0, 0)) ∧ w1.heap.size = w.heap.size + 2 ∧ Below w.heap.size w w1 := by
    refine ⟨_, rfl, alloc_block (heap_alloc_new _ _), ?_, by simp, ((Below.refl _ w).alloc (Nat.le_refl _) _).alloc (by simp) _⟩
    have := heap_alloc_new (w.alloc (.cells #[.slice A s.1.1.length ca, .slice B s.1.2.length cb, .slice N s.2.1.length cn, .slice L s.2.2.length cl] 29)) (.cells #[.slice A' o.1.1.length ca', .slice B' o.1.2.length cb', .slice N' o.2.1.length cn', .slice L' o.2.2.length cl'] 29)
    rwa [World.size_alloc] at this
  have H := Lib.hid (h.below hB)
  have U := Lib.hid (hu.below hB)
  clear h hu
  obtain ⟨k0, k1, k2, k3, _, kg⟩ := four_cells f1
  obtain ⟨j0, j1, j2, j3, _, jg⟩ := four_cells f2
  replace hsz := Lib.hid hsz
  replace f1 := Lib.hid f1
  replace f2 := Lib.hid f2
  obtain ⟨p, hp⟩ : ∃ p, sameB s.1 o.1 = p := ⟨_, rfl⟩
  obtain ⟨q, hq⟩ : ∃ q, (s.2.1 == o.2.1) = q := ⟨_, rfl⟩
  obtain ⟨r, hr⟩ : ∃ r, (s.2.2 == o.2.2) = r := ⟨_, rfl⟩
  have hR : Hid (sameR s o = (p && q && r)) := Lib.hid (by rw [sameR, hp, ← hq, ← hr, beq_dec, beq_dec])
  replace hp := Lib.hid hp
  cases p with
  | false =>
    go_enter Tryz.func18, Tryz.ntmps18
    go_upto_region 1 with fail
    clear hw1
    go_wp2_with fail
    with_reducible refine (refSame_any _ _ s.1 o.1 _ H.out.parts.1 U.out.parts.1).mono ?_
    rintro e w2 ⟨rfl, hb2⟩
    rw [hp.out]
    replace hb2 := Lib.hid (hB.trans (hb2.mono hB.size))
    go_wp2_with fail
    go_ret
    exact ⟨ret_bool (by rw [hR.out]; rfl), hb2.out⟩
  | true =>
    cases q
    all_goals
      go_enter Tryz.func18, Tryz.ntmps18
      go_upto_region 1 with fail
      clear hw1
      go_wp2_with fail
      with_reducible refine (refSame_any _ _ s.1 o.1 _ H.out.parts.1 U.out.parts.1).mono ?_
      rintro e w2 ⟨rfl, hb2⟩
      rw [hp.out]
      replace k2 := (hb2.cell (p := ⟨w.heap.size, 2, none⟩) kg).trans k2
      replace k3 := (hb2.cell (p := ⟨w.heap.size, 3, none⟩) kg).trans k3
      replace j2 := (hb2.cell (p := ⟨w.heap.size + 1, 2, none⟩) jg).trans j2
      replace j3 := (hb2.cell (p := ⟨w.heap.size + 1, 3, none⟩) jg).trans j3
      have s1 := rBy_str0 (H.out.below hb2).parts.2.1
      have s2 := rBy_str0 (U.out.below hb2).parts.2.1
      have s3 := rBy_str0 (H.out.below hb2).parts.2.2
      have s4 := rBy_str0 (U.out.below hb2).parts.2.2
      replace hb2 := Lib.hid (hB.trans (hb2.mono hB.size))
      go_wp2_with fail
      go_ret
      exact ⟨ret_bool (by rw [hR.out]; first | rfl | simp), hb2.out⟩

end Go.Proofs.YtdaidhbmfocodaaGreat

/-
  The document's answers of layer 6: May, Check. Conditions: those that each lemma states.
-/
namespace Go.Proofs.YtdaidhbmfocodaaGreat
open Go.RowKit

set_option maxRecDepth 100000 in
set_option maxHeartbeats 8000000 in
theorem refMayN_any (v : Value) (n : Nd) (w : World) (h : Nod (Old w) w v n) : Calls Tryz.prog 106 #[v] w fun e w' => e = .returned (.bool (mayN n)) ∧ Below w.heap.size w w' := by
  obtain ⟨A, c, rfl, hin, l1, m1, hA⟩ := h.open
  have hbad0 := Lib.hid (fun hh => mayN_shape (n := n) hh)
  have hbad1 : Hid (∀ k, k < n.2.length → okAt n k = false → mayN n = false) := Lib.hid fun k hk hh => mayN_at hk hh
  have hgood := Lib.hid (fun hh h2 => mayN_mk (n := n) hh h2)
  have HA := Lib.hid hA
  clear h hA
  obtain ⟨m, hm⟩ : ∃ m, n.2.length = m := ⟨_, rfl⟩
  obtain ⟨l, hl⟩ : ∃ l, n.1 = l := ⟨_, rfl⟩
  rw [hm] at l1 hbad0 hbad1 hgood HA ⊢
  rw [hl] at hbad0 hgood hin ⊢
  obtain ⟨i1, i2⟩ := hin
  replace hm := Lib.hid hm
  replace hl := Lib.hid hl
  obtain ⟨w0, hw0, b0, hs0, hB0⟩ := box_pair' w (.int .i64 l) (.slice A m c) 57
  obtain ⟨f1, f2, _, lt0⟩ := two_cells b0
  replace hB0 := Lib.hid hB0
  replace b0 := Lib.hid b0
  replace hs0 := Lib.hid hs0
  by_cases h1 : l < 0
  · have hr := Lib.hid (hbad0.out (by omega))
    go_enter Tryz.func106, Tryz.ntmps106
    go_upto_region 1 with fail
    clear hw0
    go_wp2_with fail
    go_ret
    exact ⟨ret_bool hr.out.symm, hB0.out⟩
  by_cases h2 : 6 ≤ l
  · have hr := Lib.hid (hbad0.out (by omega))
    go_enter Tryz.func106, Tryz.ntmps106
    go_upto_region 1 with fail
    clear hw0
    go_wp2_with fail
    go_ret
    exact ⟨ret_bool hr.out.symm, hB0.out⟩
  by_cases h3 : 5 < m
  · have hr := Lib.hid (hbad0.out (by omega))
    have h3' : (5 : Int) < m := by omega
    go_enter Tryz.func106, Tryz.ntmps106
    go_upto_region 1 with fail
    clear hw0
    go_wp2_with fail
    go_ret
    exact ⟨ret_bool hr.out.symm, hB0.out⟩
  have h3' : ¬ (5 : Int) < m := by omega
  by_cases h4 : 0 < l ∧ m = 0
  · have hr := Lib.hid (hbad0.out (by omega))
    obtain ⟨h4a, h4b⟩ := h4
    have h4c : ((m : Int) == 0) = true := by simp; omega
    replace h4b := Lib.hid h4b
    go_enter Tryz.func106, Tryz.ntmps106
    go_upto_region 1 with fail
    clear hw0
    go_wp2_with fail
    go_ret
    exact ⟨ret_bool hr.out.symm, hB0.out⟩
  have hgood2 := Lib.hid (hgood.out (by omega))
  have hB := Lib.hid (fun wr (hb : Below w0.heap.size w0 wr) => hB0.out.trans (hb.mono hB0.out.size))
  clear hgood hbad0
  go_enter Tryz.func106, Tryz.ntmps106
  go_upto_region 1 with fail
  clear hw0
  go_cut [29] from 5 to 29 (fun c wx => c = .bool false ∧ w0 = wx)
  case first =>
    rcases (by omega : l ≤ 0 ∨ (0 < l ∧ m ≠ 0)) with h5 | ⟨h5, h6⟩
    · have h5' : ¬ (0 : Int) < l := by omega
      replace h4 := Lib.hid h4
      go_wp2_with fail
      go_meet
      exact ⟨rfl, rfl⟩
    · have h6' : ((m : Int) == 0) = false := by simp; omega
      replace h6 := Lib.hid h6
      replace h4 := Lib.hid h4
      go_wp2_with fail
      go_meet
      exact ⟨rfl, rfl⟩
  case rest =>
  obtain ⟨rfl, rfl⟩ := hcut
  replace h4 := Lib.hid h4
  go_wp2_with fail
  go_loopw [3] (fun i wr => ∃ k : Nat, k ≤ m ∧ i = .int .i64 k ∧ (∀ j, j < k → okAt n j = true) ∧ Below w0.heap.size w0 wr) (fun i _ => m - (intOf i).toNat)
  case atStart => exact ⟨0, by omega, rfl, fun j hj => by omega, Below.refl _ _⟩
  case round =>
    obtain ⟨k, hk, rfl, ha, hb⟩ := hrel
    replace ha := Lib.hid ha
    replace hb := Lib.hid hb
    have p1 := (hb.out.cell (p := ⟨w.heap.size, 0, none⟩) lt0).trans f1
    have p2 := (hb.out.cell (p := ⟨w.heap.size, 1, none⟩) lt0).trans f2
    by_cases hlt : k < m
    case neg =>
      have hfin := Lib.hid (hgood2.out fun i hi => ha.out i (by omega))
      have BF := Lib.hid (hB.out _ hb.out)
      go_wp2_with fail
      go_ret
      exact ⟨ret_bool hfin.out.symm, BF.out⟩
    obtain ⟨x, hx⟩ : ∃ x, n.2[k]? = some x := ⟨_, List.getElem?_eq_getElem (by rw [hm.out]; exact hlt)⟩
    obtain ⟨ad, E, ce, rfl, q1, q2, hinx, FX⟩ := its_old HA.out hx
    obtain ⟨⟨z0, z1, z2, z3, z4⟩, hIx⟩ := FX wr (hB.out _ hb.out)
    obtain ⟨w2, hw2, g0, g1, g2, g3, g4, hs2, hB2, _⟩ := box_five wr (.int .u8 (x.1.1.toNat : Int)) (.int .u32 x.1.2.1) (.int .u32 x.1.2.2) (.int .i64 x.2.1) (.slice E x.2.2.length ce) 52
    have lt2 : wr.heap.size < w2.heap.size := by omega
    have B2 := Lib.hid (hb.out.trans (hB2.mono hb.out.size))
    have HI : Hid (∀ W, Below w2.heap.size w2 W → Itm (Old W) W (.agg #[.int .u8 (x.1.1.toNat : Int), .int .u32 x.1.2.1, .int .u32 x.1.2.2, .int .i64 x.2.1, .slice E x.2.2.length ce]) x) := Lib.hid fun W hW => (hIx.below hB2).below hW
    have HX : Hid (∀ W, Below w2.heap.size w2 W → W.cell? ⟨wr.heap.size, 3, none⟩ = some (.int .i64 x.2.1) ∧ W.cell? ⟨wr.heap.size, 4, none⟩ = some (.slice E x.2.2.length ce)) := Lib.hid fun W hW => ⟨(hW.cell (p := ⟨wr.heap.size, 3, none⟩) lt2).trans g3, (hW.cell (p := ⟨wr.heap.size, 4, none⟩) lt2).trans g4⟩
    have HX0 : Hid (∀ W, Below w2.heap.size w2 W → W.cell? ⟨wr.heap.size, 0, none⟩ = some (.int .u8 (x.1.1.toNat : Int)) ∧ W.cell? ⟨wr.heap.size, 1, none⟩ = some (.int .u32 x.1.2.1) ∧ W.cell? ⟨wr.heap.size, 2, none⟩ = some (.int .u32 x.1.2.2)) := Lib.hid fun W hW => ⟨(hW.cell (p := ⟨wr.heap.size, 0, none⟩) lt2).trans g0, (hW.cell (p := ⟨wr.heap.size, 1, none⟩) lt2).trans g1, (hW.cell (p := ⟨wr.heap.size, 2, none⟩) lt2).trans g2⟩
    have HP : Hid (∀ W, Below w2.heap.size w2 W → W.cell? ⟨w.heap.size, 0, none⟩ = some (.int .i64 l) ∧ W.cell? ⟨w.heap.size, 1, none⟩ = some (.slice (some ad) m c)) := Lib.hid fun W hW => ⟨((B2.out.trans (hW.mono B2.out.size)).cell (p := ⟨w.heap.size, 0, none⟩) lt0).trans f1, ((B2.out.trans (hW.mono B2.out.size)).cell (p := ⟨w.heap.size, 1, none⟩) lt0).trans f2⟩
    replace hx := Lib.hid hx
    replace hs2 := Lib.hid hs2
    have hbk := Lib.hid (hbad1.out k hlt)
    have hstep : Hid (okAt n k = true → ∀ j, j < k + 1 → okAt n j = true) := Lib.hid fun h j hj => by
      rcases Nat.lt_or_ge j k with h1 | h1
      · exact ha.out j h1
      · obtain rfl : j = k := by omega
        exact h
    clear FX hIx hinx hB2
    go_upto_region 7 with fail
    clear hw2 z0 z1 z2 z3 z4 g0 g1 g2 g3 g4 p1 p2
    rcases bool_two (mayI x) with hmx | hmx
    · have hr := Lib.hid (hbk.out (okAt_noP hx.out (by rw [okP, hmx]; rfl)))
      replace hmx := Lib.hid hmx
      refine wp_region_fx (by kernel_rfl) (fun W => Below w2.heap.size w2 W) (fun _ => none) (fun i => match i with
        | 1 => some (.bool false)
        | 16 => some (.bool false)
        | _ => none) (by kernel_rfl) (Below.refl _ _).drew (fun w w' h hb => h.trans (hb.mono h.size)) (fun j φ x W W' hp => by cases hp) ?_
      repeat (first
        | (refine wpAs_skip rfl ?_; simp only [Act.put, List.setIfInBounds_toArray, List.set_cons_zero, List.set_cons_succ])
        | (refine wpAs_pure (v := ?_) rfl rfl ?_ ?_; rotate_left; (intro W hC hE; clear hE; (obtain ⟨r0, r1, r2⟩ := HX0.out W hC; obtain ⟨r3, r4⟩ := HX.out W hC); clear hC; go_simp; done); simp only [Act.put, List.setIfInBounds_toArray, List.set_cons_zero, List.set_cons_succ])
        | (refine wpAs_pure (v := ?_) rfl rfl ?_ ?_; rotate_left; (intro W hC hE; clear hE; (obtain ⟨r0, r1, r2⟩ := HX0.out W hC; obtain ⟨r3, r4⟩ := HX.out W hC); clear hC; go_simp; with_reducible rfl); simp only [Act.put, List.setIfInBounds_toArray, List.set_cons_zero, List.set_cons_succ]))
      refine wpAs_fixed rfl rfl rfl ?_ ?_
      · intro W hC hE
        refine does_enter (f := 133) (args := #[.agg #[.int .u8 (x.1.1.toNat : Int), .int .u32 x.1.2.1, .int .u32 x.1.2.2, .int .i64 x.2.1, .slice E x.2.2.length ce]]) ?_ ?_
        · go_simp
        · refine (refMayI_any _ x W (HI.out W hC)).mono ?_
          (rintro e W' ⟨rfl, hg⟩; rw [hmx.out])
          exact ⟨_, rfl, rfl, hg⟩
      simp only [Act.put, List.setIfInBounds_toArray, List.set_cons_zero, List.set_cons_succ]
      iterate 1 (first
        | (refine wpAs_skip rfl ?_; simp only [Act.put, List.setIfInBounds_toArray, List.set_cons_zero, List.set_cons_succ])
        | (refine wpAs_pure (v := ?_) rfl rfl ?_ ?_; rotate_left; (intro W hC hE; clear hE; skip; clear hC; go_simp; with_reducible rfl); simp only [Act.put, List.setIfInBounds_toArray, List.set_cons_zero, List.set_cons_succ]))
      refine wpAs_pure_jump (v := .bool true) 15 rfl rfl rfl ?_ (by kernel_rfl) ?_
      · intro W hC hE
        clear hE hC
        first
          | (go_simp; done)
          | (go_simp; simp; omega)
          | (go_simp; simp_all; done)
      simp only [skipN, Act.put, List.drop_succ_cons, List.drop_zero, List.setIfInBounds_toArray, List.set_cons_zero, List.set_cons_succ]
      iterate 1 (first
        | (refine wpAs_skip rfl ?_; simp only [Act.put, List.setIfInBounds_toArray, List.set_cons_zero, List.set_cons_succ])
        | (refine wpAs_pure (v := ?_) rfl rfl ?_ ?_; rotate_left; (intro W hC hE; clear hE; skip; clear hC; go_simp; with_reducible rfl); simp only [Act.put, List.setIfInBounds_toArray, List.set_cons_zero, List.set_cons_succ]))
      refine wpAs_pure_jump (v := .bool true) 14 rfl rfl rfl ?_ (by kernel_rfl) ?_
      · intro W hC hE
        clear hE hC
        first
          | (go_simp; done)
          | (go_simp; simp; omega)
          | (go_simp; simp_all; done)
      simp only [skipN, Act.put, List.drop_succ_cons, List.drop_zero, List.setIfInBounds_toArray, List.set_cons_zero, List.set_cons_succ]
      iterate 1 (first
        | (refine wpAs_skip rfl ?_; simp only [Act.put, List.setIfInBounds_toArray, List.set_cons_zero, List.set_cons_succ])
        | (refine wpAs_pure (v := ?_) rfl rfl ?_ ?_; rotate_left; (intro W hC hE; clear hE; skip; clear hC; go_simp; with_reducible rfl); simp only [Act.put, List.setIfInBounds_toArray, List.set_cons_zero, List.set_cons_succ]))
      refine wpAs_end fun W hC hE => ?_
      have BF := Lib.hid (hB.out _ (B2.out.trans (hC.mono B2.out.size)))
      clear hE hC
      go_wp2_with fail
      go_ret
      exact ⟨ret_bool hr.out.symm, BF.out⟩
    replace hmx := Lib.hid hmx
    rcases (by rcases k with _ | j; exact Or.inl rfl; exact Or.inr ⟨j, rfl⟩ : k = 0 ∨ ∃ j, k = j + 1) with hk0 | ⟨j, hkj⟩
    · have kz : ¬ (0 : Int) < (k : Int) := by omega
      have hsucc := Lib.hid (show okAt n k = okP n.1 x by subst hk0; exact okAt_zero hx.out)
      replace hk0 := Lib.hid hk0
      refine wp_region_fx (by kernel_rfl) (fun W => Below w2.heap.size w2 W) (fun _ => none) (fun i => match i with
        | 1 => some (.bool true)
        | 16 => some (.bool true)
        | _ => none) (by kernel_rfl) (Below.refl _ _).drew (fun w w' h hb => h.trans (hb.mono h.size)) (fun j φ x W W' hp => by cases hp) ?_
      repeat (first
        | (refine wpAs_skip rfl ?_; simp only [Act.put, List.setIfInBounds_toArray, List.set_cons_zero, List.set_cons_succ])
        | (refine wpAs_pure (v := ?_) rfl rfl ?_ ?_; rotate_left; (intro W hC hE; clear hE; (obtain ⟨r0, r1, r2⟩ := HX0.out W hC; obtain ⟨r3, r4⟩ := HX.out W hC); clear hC; go_simp; done); simp only [Act.put, List.setIfInBounds_toArray, List.set_cons_zero, List.set_cons_succ])
        | (refine wpAs_pure (v := ?_) rfl rfl ?_ ?_; rotate_left; (intro W hC hE; clear hE; (obtain ⟨r0, r1, r2⟩ := HX0.out W hC; obtain ⟨r3, r4⟩ := HX.out W hC); clear hC; go_simp; with_reducible rfl); simp only [Act.put, List.setIfInBounds_toArray, List.set_cons_zero, List.set_cons_succ]))
      refine wpAs_fixed rfl rfl rfl ?_ ?_
      · intro W hC hE
        refine does_enter (f := 133) (args := #[.agg #[.int .u8 (x.1.1.toNat : Int), .int .u32 x.1.2.1, .int .u32 x.1.2.2, .int .i64 x.2.1, .slice E x.2.2.length ce]]) ?_ ?_
        · go_simp
        · refine (refMayI_any _ x W (HI.out W hC)).mono ?_
          (rintro e W' ⟨rfl, hg⟩; rw [hmx.out])
          exact ⟨_, rfl, rfl, hg⟩
      simp only [Act.put, List.setIfInBounds_toArray, List.set_cons_zero, List.set_cons_succ]
      iterate 4 (first
        | (refine wpAs_skip rfl ?_; simp only [Act.put, List.setIfInBounds_toArray, List.set_cons_zero, List.set_cons_succ])
        | (refine wpAs_pure (v := ?_) rfl rfl ?_ ?_; rotate_left; (intro W hC hE; clear hE; skip; clear hC; go_simp; with_reducible rfl); simp only [Act.put, List.setIfInBounds_toArray, List.set_cons_zero, List.set_cons_succ]))
      refine wpAs_pure_jump (v := .bool false) 11 rfl rfl rfl ?_ (by kernel_rfl) ?_
      · intro W hC hE
        clear hE hC
        first
          | (go_simp; done)
          | (go_simp; simp; omega)
          | (go_simp; simp_all; done)
      simp only [skipN, Act.put, List.drop_succ_cons, List.drop_zero, List.setIfInBounds_toArray, List.set_cons_zero, List.set_cons_succ]
      iterate 2 (first
        | (refine wpAs_skip rfl ?_; simp only [Act.put, List.setIfInBounds_toArray, List.set_cons_zero, List.set_cons_succ])
        | (refine wpAs_pure (v := ?_) rfl rfl ?_ ?_; rotate_left; (intro W hC hE; clear hE; skip; clear hC; go_simp; with_reducible rfl); simp only [Act.put, List.setIfInBounds_toArray, List.set_cons_zero, List.set_cons_succ]))
      iterate 4 (first
        | (refine wpAs_skip rfl ?_; simp only [Act.put, List.setIfInBounds_toArray, List.set_cons_zero, List.set_cons_succ])
        | (refine wpAs_pure (v := ?_) rfl rfl ?_ ?_; rotate_left; (intro W hC hE; clear hE; (obtain ⟨p3, p4⟩ := HP.out W hC); clear hC; go_simp; with_reducible rfl); simp only [Act.put, List.setIfInBounds_toArray, List.set_cons_zero, List.set_cons_succ]))
      by_cases h7 : l ≤ 0
      · have h7' : ¬ (0 : Int) < l := by omega
        have hall := Lib.hid (hstep.out (by rw [hsucc.out, okP, hmx.out, hl.out]; simp [h7]))
        refine wpAs_pure_jump (v := .bool false) 9 rfl rfl rfl ?_ (by kernel_rfl) ?_
        · intro W hC hE
          clear hE hC
          first
            | (go_simp; done)
            | (go_simp; simp; omega)
            | (go_simp; simp_all; done)
        simp only [skipN, Act.put, List.drop_succ_cons, List.drop_zero, List.setIfInBounds_toArray, List.set_cons_zero, List.set_cons_succ]
        iterate 2 (first
          | (refine wpAs_skip rfl ?_; simp only [Act.put, List.setIfInBounds_toArray, List.set_cons_zero, List.set_cons_succ])
          | (refine wpAs_pure (v := ?_) rfl rfl ?_ ?_; rotate_left; (intro W hC hE; clear hE; skip; clear hC; go_simp; with_reducible rfl); simp only [Act.put, List.setIfInBounds_toArray, List.set_cons_zero, List.set_cons_succ]))
        refine wpAs_end fun W hC hE => ?_
        have BW := Lib.hid (B2.out.trans (hC.mono B2.out.size))
        clear hE hC
        go_wp2_with fail
        go_roundw
        case rel => exact ⟨k + 1, by omega, by go_num, hall.out, BW.out⟩
        case measure => simp [intOf]; omega
      · have h7' : (0 : Int) < l := by omega
        refine wpAs_pure_jump (v := .bool true) 0 rfl rfl rfl ?_ (by kernel_rfl) ?_
        · intro W hC hE
          clear hE hC
          first
            | (go_simp; done)
            | (go_simp; simp; omega)
            | (go_simp; simp_all; done)
        simp only [skipN, Act.put, List.drop_zero, List.setIfInBounds_toArray, List.set_cons_zero, List.set_cons_succ]
        iterate 3 (first
          | (refine wpAs_skip rfl ?_; simp only [Act.put, List.setIfInBounds_toArray, List.set_cons_zero, List.set_cons_succ])
          | (refine wpAs_pure (v := ?_) rfl rfl ?_ ?_; rotate_left; (intro W hC hE; clear hE; (obtain ⟨p3, p4⟩ := HP.out W hC; obtain ⟨r3, r4⟩ := HX.out W hC); clear hC; go_simp; with_reducible rfl); simp only [Act.put, List.setIfInBounds_toArray, List.set_cons_zero, List.set_cons_succ]))
        by_cases h8 : x.2.1 = 0
        · have h8' : (x.2.1 == 0) = true := by simpa using h8
          have hr := Lib.hid (hbk.out (okAt_noP hx.out (by rw [okP, hmx.out, hl.out, refersI]; simp [h8]; omega)))
          replace h8 := Lib.hid h8
          refine wpAs_pure_jump (v := .bool true) 4 rfl rfl rfl ?_ (by kernel_rfl) ?_
          · intro W hC hE
            clear hE hC
            first
              | (go_simp; done)
              | (go_simp; simp; omega)
              | (go_simp; simp_all; done)
          simp only [skipN, Act.put, List.drop_succ_cons, List.drop_zero, List.setIfInBounds_toArray, List.set_cons_zero, List.set_cons_succ]
          iterate 3 (first
            | (refine wpAs_skip rfl ?_; simp only [Act.put, List.setIfInBounds_toArray, List.set_cons_zero, List.set_cons_succ])
            | (refine wpAs_pure (v := ?_) rfl rfl ?_ ?_; rotate_left; (intro W hC hE; clear hE; skip; clear hC; go_simp; with_reducible rfl); simp only [Act.put, List.setIfInBounds_toArray, List.set_cons_zero, List.set_cons_succ]))
          refine wpAs_end fun W hC hE => ?_
          have BF := Lib.hid (hB.out _ (B2.out.trans (hC.mono B2.out.size)))
          clear hE hC
          go_wp2_with fail
          go_ret
          exact ⟨ret_bool hr.out.symm, BF.out⟩
        · have h8' : (x.2.1 == 0) = false := by simpa using h8
          by_cases h9 : x.2.2.length = 0
          · have h9' : ¬ (0 : Int) < (x.2.2.length : Int) := by omega
            have hall := Lib.hid (hstep.out (by rw [hsucc.out, okP, hmx.out, refersI]; simp [h8, h9]))
            replace h8 := Lib.hid h8
            replace h9 := Lib.hid h9
            refine wpAs_pure_jump (v := .bool false) 0 rfl rfl rfl ?_ (by kernel_rfl) ?_
            · intro W hC hE
              clear hE hC
              first
                | (go_simp; done)
                | (go_simp; simp; omega)
                | (go_simp; simp_all; done)
            simp only [skipN, Act.put, List.drop_zero, List.setIfInBounds_toArray, List.set_cons_zero, List.set_cons_succ]
            iterate 7 (first
              | (refine wpAs_skip rfl ?_; simp only [Act.put, List.setIfInBounds_toArray, List.set_cons_zero, List.set_cons_succ])
              | (refine wpAs_pure (v := ?_) rfl rfl ?_ ?_; rotate_left; (intro W hC hE; clear hE; (obtain ⟨r3, r4⟩ := HX.out W hC); clear hC; go_simp; with_reducible rfl); simp only [Act.put, List.setIfInBounds_toArray, List.set_cons_zero, List.set_cons_succ]))
            refine wpAs_end fun W hC hE => ?_
            have BW := Lib.hid (B2.out.trans (hC.mono B2.out.size))
            clear hE hC
            go_wp2_with fail
            go_roundw
            case rel => exact ⟨k + 1, by omega, by go_num, hall.out, BW.out⟩
            case measure => simp [intOf]; omega
          · have h9' : (0 : Int) < (x.2.2.length : Int) := by omega
            have hr := Lib.hid (hbk.out (okAt_noP hx.out (by rw [okP, hmx.out, hl.out, refersI]; simp [h9]; omega)))
            replace h8 := Lib.hid h8
            replace h9 := Lib.hid h9
            refine wpAs_pure_jump (v := .bool false) 0 rfl rfl rfl ?_ (by kernel_rfl) ?_
            · intro W hC hE
              clear hE hC
              first
                | (go_simp; done)
                | (go_simp; simp; omega)
                | (go_simp; simp_all; done)
            simp only [skipN, Act.put, List.drop_zero, List.setIfInBounds_toArray, List.set_cons_zero, List.set_cons_succ]
            iterate 7 (first
              | (refine wpAs_skip rfl ?_; simp only [Act.put, List.setIfInBounds_toArray, List.set_cons_zero, List.set_cons_succ])
              | (refine wpAs_pure (v := ?_) rfl rfl ?_ ?_; rotate_left; (intro W hC hE; clear hE; (obtain ⟨r3, r4⟩ := HX.out W hC); clear hC; go_simp; with_reducible rfl); simp only [Act.put, List.setIfInBounds_toArray, List.set_cons_zero, List.set_cons_succ]))
            refine wpAs_end fun W hC hE => ?_
            have BF := Lib.hid (hB.out _ (B2.out.trans (hC.mono B2.out.size)))
            clear hE hC
            go_wp2_with fail
            go_ret
            exact ⟨ret_bool hr.out.symm, BF.out⟩
    · obtain ⟨y, hy⟩ : ∃ y, n.2[j]? = some y := ⟨_, List.getElem?_eq_getElem (by rw [hm.out]; omega)⟩
      obtain ⟨ad', E', ce', e', _, _, _, FY⟩ := its_old HA.out hy
      have e'' := Option.some.inj e'
      subst e''
      clear e'
      have FYY := Lib.hid fun W (hW : Below w2.heap.size w2 W) => (FY W ((hB.out _ B2.out).trans (hW.mono (hB.out _ B2.out).size))).1
      have hs0 := okAt_succ (n := n) (k := j) (x := x) (p := y) (by rw [← hkj]; exact hx.out) hy
      rw [← hkj] at hs0
      have hj1 : (k : Int) - 1 = (j : Int) := by omega
      have hwj : IntKind.i64.wrap (j : Int) = (j : Int) := IntWalk.i64_in _ (by omega)
      have hj0 : (0 : Int) ≤ (j : Int) := by omega
      have kpos : (0 : Int) < (k : Int) := by omega
      have hjm : (j : Int) < (m : Int) := by omega
      replace hy := Lib.hid hy
      replace hkj := Lib.hid hkj
      clear FY
      rcases bool_two (lessK y.1 x.1) with hs | hs
      · have hr := Lib.hid (hbk.out (by rw [hs0, hs]; simp))
        replace hs := Lib.hid hs
        replace hs0 := Lib.hid hs0
        refine wp_region_fx (by kernel_rfl) (fun W => Below w2.heap.size w2 W) (fun _ => none) (fun i => match i with
          | 1 => some (.bool true)
          | 16 => some (.bool false)
          | _ => none) (by kernel_rfl) (Below.refl _ _).drew (fun w w' h hb => h.trans (hb.mono h.size)) (fun j φ x W W' hp => by cases hp) ?_
        repeat (first
          | (refine wpAs_skip rfl ?_; simp only [Act.put, List.setIfInBounds_toArray, List.set_cons_zero, List.set_cons_succ])
          | (refine wpAs_pure (v := ?_) rfl rfl ?_ ?_; rotate_left; (intro W hC hE; clear hE; (obtain ⟨r0, r1, r2⟩ := HX0.out W hC; obtain ⟨r3, r4⟩ := HX.out W hC); clear hC; go_simp; done); simp only [Act.put, List.setIfInBounds_toArray, List.set_cons_zero, List.set_cons_succ])
          | (refine wpAs_pure (v := ?_) rfl rfl ?_ ?_; rotate_left; (intro W hC hE; clear hE; (obtain ⟨r0, r1, r2⟩ := HX0.out W hC; obtain ⟨r3, r4⟩ := HX.out W hC); clear hC; go_simp; with_reducible rfl); simp only [Act.put, List.setIfInBounds_toArray, List.set_cons_zero, List.set_cons_succ]))
        refine wpAs_fixed rfl rfl rfl ?_ ?_
        · intro W hC hE
          refine does_enter (f := 133) (args := #[.agg #[.int .u8 (x.1.1.toNat : Int), .int .u32 x.1.2.1, .int .u32 x.1.2.2, .int .i64 x.2.1, .slice E x.2.2.length ce]]) ?_ ?_
          · go_simp
          · refine (refMayI_any _ x W (HI.out W hC)).mono ?_
            (rintro e W' ⟨rfl, hg⟩; rw [hmx.out])
            exact ⟨_, rfl, rfl, hg⟩
        simp only [Act.put, List.setIfInBounds_toArray, List.set_cons_zero, List.set_cons_succ]
        iterate 4 (first
          | (refine wpAs_skip rfl ?_; simp only [Act.put, List.setIfInBounds_toArray, List.set_cons_zero, List.set_cons_succ])
          | (refine wpAs_pure (v := ?_) rfl rfl ?_ ?_; rotate_left; (intro W hC hE; clear hE; skip; clear hC; go_simp; with_reducible rfl); simp only [Act.put, List.setIfInBounds_toArray, List.set_cons_zero, List.set_cons_succ]))
        refine wpAs_pure_jump (v := .bool true) 0 rfl rfl rfl ?_ (by kernel_rfl) ?_
        · intro W hC hE
          clear hE hC
          first
            | (go_simp; done)
            | (go_simp; simp; omega)
            | (go_simp; simp_all; done)
        simp only [skipN, Act.put, List.drop_zero, List.setIfInBounds_toArray, List.set_cons_zero, List.set_cons_succ]
        iterate 9 (first
          | (refine wpAs_skip rfl ?_; simp only [Act.put, List.setIfInBounds_toArray, List.set_cons_zero, List.set_cons_succ])
          | (refine wpAs_pure (v := ?_) rfl rfl ?_ ?_; rotate_left; (intro W hC hE; clear hE; (obtain ⟨p3, p4⟩ := HP.out W hC; obtain ⟨y0, y1, y2, y3, y4⟩ := FYY.out W hC; obtain ⟨r0, r1, r2⟩ := HX0.out W hC); clear hC; go_simp; with_reducible rfl); simp only [Act.put, List.setIfInBounds_toArray, List.set_cons_zero, List.set_cons_succ]))
        refine wpAs_fixed rfl rfl rfl ?_ ?_
        · intro W hC hE
          refine does_enter (f := 56) (args := #[kyV y.1, kyV x.1]) ?_ ?_
          · go_simp
          · refine (refLess_any y.1 x.1 W).mono ?_
            (rintro e W' ⟨rfl, hg⟩; rw [hs.out])
            exact ⟨_, rfl, rfl, hg⟩
        simp only [Act.put, List.setIfInBounds_toArray, List.set_cons_zero, List.set_cons_succ]
        iterate 3 (first
          | (refine wpAs_skip rfl ?_; simp only [Act.put, List.setIfInBounds_toArray, List.set_cons_zero, List.set_cons_succ])
          | (refine wpAs_pure (v := ?_) rfl rfl ?_ ?_; rotate_left; (intro W hC hE; clear hE; skip; clear hC; go_simp; with_reducible rfl); simp only [Act.put, List.setIfInBounds_toArray, List.set_cons_zero, List.set_cons_succ]))
        refine wpAs_pure_jump (v := .bool true) 14 rfl rfl rfl ?_ (by kernel_rfl) ?_
        · intro W hC hE
          clear hE hC
          first
            | (go_simp; done)
            | (go_simp; simp; omega)
            | (go_simp; simp_all; done)
        simp only [skipN, Act.put, List.drop_succ_cons, List.drop_zero, List.setIfInBounds_toArray, List.set_cons_zero, List.set_cons_succ]
        iterate 1 (first
          | (refine wpAs_skip rfl ?_; simp only [Act.put, List.setIfInBounds_toArray, List.set_cons_zero, List.set_cons_succ])
          | (refine wpAs_pure (v := ?_) rfl rfl ?_ ?_; rotate_left; (intro W hC hE; clear hE; skip; clear hC; go_simp; with_reducible rfl); simp only [Act.put, List.setIfInBounds_toArray, List.set_cons_zero, List.set_cons_succ]))
        refine wpAs_end fun W hC hE => ?_
        have BF := Lib.hid (hB.out _ (B2.out.trans (hC.mono B2.out.size)))
        clear hE hC
        go_wp2_with fail
        go_ret
        exact ⟨ret_bool hr.out.symm, BF.out⟩
      · have hsucc := Lib.hid (show okAt n k = okP n.1 x by rw [hs0, hs]; simp)
        replace hs := Lib.hid hs
        replace hs0 := Lib.hid hs0
        refine wp_region_fx (by kernel_rfl) (fun W => Below w2.heap.size w2 W) (fun _ => none) (fun i => match i with
          | 1 => some (.bool true)
          | 16 => some (.bool true)
          | _ => none) (by kernel_rfl) (Below.refl _ _).drew (fun w w' h hb => h.trans (hb.mono h.size)) (fun j φ x W W' hp => by cases hp) ?_
        repeat (first
          | (refine wpAs_skip rfl ?_; simp only [Act.put, List.setIfInBounds_toArray, List.set_cons_zero, List.set_cons_succ])
          | (refine wpAs_pure (v := ?_) rfl rfl ?_ ?_; rotate_left; (intro W hC hE; clear hE; (obtain ⟨r0, r1, r2⟩ := HX0.out W hC; obtain ⟨r3, r4⟩ := HX.out W hC); clear hC; go_simp; done); simp only [Act.put, List.setIfInBounds_toArray, List.set_cons_zero, List.set_cons_succ])
          | (refine wpAs_pure (v := ?_) rfl rfl ?_ ?_; rotate_left; (intro W hC hE; clear hE; (obtain ⟨r0, r1, r2⟩ := HX0.out W hC; obtain ⟨r3, r4⟩ := HX.out W hC); clear hC; go_simp; with_reducible rfl); simp only [Act.put, List.setIfInBounds_toArray, List.set_cons_zero, List.set_cons_succ]))
        refine wpAs_fixed rfl rfl rfl ?_ ?_
        · intro W hC hE
          refine does_enter (f := 133) (args := #[.agg #[.int .u8 (x.1.1.toNat : Int), .int .u32 x.1.2.1, .int .u32 x.1.2.2, .int .i64 x.2.1, .slice E x.2.2.length ce]]) ?_ ?_
          · go_simp
          · refine (refMayI_any _ x W (HI.out W hC)).mono ?_
            (rintro e W' ⟨rfl, hg⟩; rw [hmx.out])
            exact ⟨_, rfl, rfl, hg⟩
        simp only [Act.put, List.setIfInBounds_toArray, List.set_cons_zero, List.set_cons_succ]
        iterate 4 (first
          | (refine wpAs_skip rfl ?_; simp only [Act.put, List.setIfInBounds_toArray, List.set_cons_zero, List.set_cons_succ])
          | (refine wpAs_pure (v := ?_) rfl rfl ?_ ?_; rotate_left; (intro W hC hE; clear hE; skip; clear hC; go_simp; with_reducible rfl); simp only [Act.put, List.setIfInBounds_toArray, List.set_cons_zero, List.set_cons_succ]))
        refine wpAs_pure_jump (v := .bool true) 0 rfl rfl rfl ?_ (by kernel_rfl) ?_
        · intro W hC hE
          clear hE hC
          first
            | (go_simp; done)
            | (go_simp; simp; omega)
            | (go_simp; simp_all; done)
        simp only [skipN, Act.put, List.drop_zero, List.setIfInBounds_toArray, List.set_cons_zero, List.set_cons_succ]
        iterate 9 (first
          | (refine wpAs_skip rfl ?_; simp only [Act.put, List.setIfInBounds_toArray, List.set_cons_zero, List.set_cons_succ])
          | (refine wpAs_pure (v := ?_) rfl rfl ?_ ?_; rotate_left; (intro W hC hE; clear hE; (obtain ⟨p3, p4⟩ := HP.out W hC; obtain ⟨y0, y1, y2, y3, y4⟩ := FYY.out W hC; obtain ⟨r0, r1, r2⟩ := HX0.out W hC); clear hC; go_simp; with_reducible rfl); simp only [Act.put, List.setIfInBounds_toArray, List.set_cons_zero, List.set_cons_succ]))
        refine wpAs_fixed rfl rfl rfl ?_ ?_
        · intro W hC hE
          refine does_enter (f := 56) (args := #[kyV y.1, kyV x.1]) ?_ ?_
          · go_simp
          · refine (refLess_any y.1 x.1 W).mono ?_
            (rintro e W' ⟨rfl, hg⟩; rw [hs.out])
            exact ⟨_, rfl, rfl, hg⟩
        simp only [Act.put, List.setIfInBounds_toArray, List.set_cons_zero, List.set_cons_succ]
        iterate 3 (first
          | (refine wpAs_skip rfl ?_; simp only [Act.put, List.setIfInBounds_toArray, List.set_cons_zero, List.set_cons_succ])
          | (refine wpAs_pure (v := ?_) rfl rfl ?_ ?_; rotate_left; (intro W hC hE; clear hE; skip; clear hC; go_simp; with_reducible rfl); simp only [Act.put, List.setIfInBounds_toArray, List.set_cons_zero, List.set_cons_succ]))
        iterate 4 (first
          | (refine wpAs_skip rfl ?_; simp only [Act.put, List.setIfInBounds_toArray, List.set_cons_zero, List.set_cons_succ])
          | (refine wpAs_pure (v := ?_) rfl rfl ?_ ?_; rotate_left; (intro W hC hE; clear hE; (obtain ⟨p3, p4⟩ := HP.out W hC); clear hC; go_simp; with_reducible rfl); simp only [Act.put, List.setIfInBounds_toArray, List.set_cons_zero, List.set_cons_succ]))
        by_cases h7 : l ≤ 0
        · have h7' : ¬ (0 : Int) < l := by omega
          have hall := Lib.hid (hstep.out (by rw [hsucc.out, okP, hmx.out, hl.out]; simp [h7]))
          refine wpAs_pure_jump (v := .bool false) 9 rfl rfl rfl ?_ (by kernel_rfl) ?_
          · intro W hC hE
            clear hE hC
            first
              | (go_simp; done)
              | (go_simp; simp; omega)
              | (go_simp; simp_all; done)
          simp only [skipN, Act.put, List.drop_succ_cons, List.drop_zero, List.setIfInBounds_toArray, List.set_cons_zero, List.set_cons_succ]
          iterate 2 (first
            | (refine wpAs_skip rfl ?_; simp only [Act.put, List.setIfInBounds_toArray, List.set_cons_zero, List.set_cons_succ])
            | (refine wpAs_pure (v := ?_) rfl rfl ?_ ?_; rotate_left; (intro W hC hE; clear hE; skip; clear hC; go_simp; with_reducible rfl); simp only [Act.put, List.setIfInBounds_toArray, List.set_cons_zero, List.set_cons_succ]))
          refine wpAs_end fun W hC hE => ?_
          have BW := Lib.hid (B2.out.trans (hC.mono B2.out.size))
          clear hE hC
          go_wp2_with fail
          go_roundw
          case rel => exact ⟨k + 1, by omega, by go_num, hall.out, BW.out⟩
          case measure => simp [intOf]; omega
        · have h7' : (0 : Int) < l := by omega
          refine wpAs_pure_jump (v := .bool true) 0 rfl rfl rfl ?_ (by kernel_rfl) ?_
          · intro W hC hE
            clear hE hC
            first
              | (go_simp; done)
              | (go_simp; simp; omega)
              | (go_simp; simp_all; done)
          simp only [skipN, Act.put, List.drop_zero, List.setIfInBounds_toArray, List.set_cons_zero, List.set_cons_succ]
          iterate 3 (first
            | (refine wpAs_skip rfl ?_; simp only [Act.put, List.setIfInBounds_toArray, List.set_cons_zero, List.set_cons_succ])
            | (refine wpAs_pure (v := ?_) rfl rfl ?_ ?_; rotate_left; (intro W hC hE; clear hE; (obtain ⟨p3, p4⟩ := HP.out W hC; obtain ⟨r3, r4⟩ := HX.out W hC); clear hC; go_simp; with_reducible rfl); simp only [Act.put, List.setIfInBounds_toArray, List.set_cons_zero, List.set_cons_succ]))
          by_cases h8 : x.2.1 = 0
          · have h8' : (x.2.1 == 0) = true := by simpa using h8
            have hr := Lib.hid (hbk.out (okAt_noP hx.out (by rw [okP, hmx.out, hl.out, refersI]; simp [h8]; omega)))
            replace h8 := Lib.hid h8
            refine wpAs_pure_jump (v := .bool true) 4 rfl rfl rfl ?_ (by kernel_rfl) ?_
            · intro W hC hE
              clear hE hC
              first
                | (go_simp; done)
                | (go_simp; simp; omega)
                | (go_simp; simp_all; done)
            simp only [skipN, Act.put, List.drop_succ_cons, List.drop_zero, List.setIfInBounds_toArray, List.set_cons_zero, List.set_cons_succ]
            iterate 3 (first
              | (refine wpAs_skip rfl ?_; simp only [Act.put, List.setIfInBounds_toArray, List.set_cons_zero, List.set_cons_succ])
              | (refine wpAs_pure (v := ?_) rfl rfl ?_ ?_; rotate_left; (intro W hC hE; clear hE; skip; clear hC; go_simp; with_reducible rfl); simp only [Act.put, List.setIfInBounds_toArray, List.set_cons_zero, List.set_cons_succ]))
            refine wpAs_end fun W hC hE => ?_
            have BF := Lib.hid (hB.out _ (B2.out.trans (hC.mono B2.out.size)))
            clear hE hC
            go_wp2_with fail
            go_ret
            exact ⟨ret_bool hr.out.symm, BF.out⟩
          · have h8' : (x.2.1 == 0) = false := by simpa using h8
            by_cases h9 : x.2.2.length = 0
            · have h9' : ¬ (0 : Int) < (x.2.2.length : Int) := by omega
              have hall := Lib.hid (hstep.out (by rw [hsucc.out, okP, hmx.out, refersI]; simp [h8, h9]))
              replace h8 := Lib.hid h8
              replace h9 := Lib.hid h9
              refine wpAs_pure_jump (v := .bool false) 0 rfl rfl rfl ?_ (by kernel_rfl) ?_
              · intro W hC hE
                clear hE hC
                first
                  | (go_simp; done)
                  | (go_simp; simp; omega)
                  | (go_simp; simp_all; done)
              simp only [skipN, Act.put, List.drop_zero, List.setIfInBounds_toArray, List.set_cons_zero, List.set_cons_succ]
              iterate 7 (first
                | (refine wpAs_skip rfl ?_; simp only [Act.put, List.setIfInBounds_toArray, List.set_cons_zero, List.set_cons_succ])
                | (refine wpAs_pure (v := ?_) rfl rfl ?_ ?_; rotate_left; (intro W hC hE; clear hE; (obtain ⟨r3, r4⟩ := HX.out W hC); clear hC; go_simp; with_reducible rfl); simp only [Act.put, List.setIfInBounds_toArray, List.set_cons_zero, List.set_cons_succ]))
              refine wpAs_end fun W hC hE => ?_
              have BW := Lib.hid (B2.out.trans (hC.mono B2.out.size))
              clear hE hC
              go_wp2_with fail
              go_roundw
              case rel => exact ⟨k + 1, by omega, by go_num, hall.out, BW.out⟩
              case measure => simp [intOf]; omega
            · have h9' : (0 : Int) < (x.2.2.length : Int) := by omega
              have hr := Lib.hid (hbk.out (okAt_noP hx.out (by rw [okP, hmx.out, hl.out, refersI]; simp [h9]; omega)))
              replace h8 := Lib.hid h8
              replace h9 := Lib.hid h9
              refine wpAs_pure_jump (v := .bool false) 0 rfl rfl rfl ?_ (by kernel_rfl) ?_
              · intro W hC hE
                clear hE hC
                first
                  | (go_simp; done)
                  | (go_simp; simp; omega)
                  | (go_simp; simp_all; done)
              simp only [skipN, Act.put, List.drop_zero, List.setIfInBounds_toArray, List.set_cons_zero, List.set_cons_succ]
              iterate 7 (first
                | (refine wpAs_skip rfl ?_; simp only [Act.put, List.setIfInBounds_toArray, List.set_cons_zero, List.set_cons_succ])
                | (refine wpAs_pure (v := ?_) rfl rfl ?_ ?_; rotate_left; (intro W hC hE; clear hE; (obtain ⟨r3, r4⟩ := HX.out W hC); clear hC; go_simp; with_reducible rfl); simp only [Act.put, List.setIfInBounds_toArray, List.set_cons_zero, List.set_cons_succ]))
              refine wpAs_end fun W hC hE => ?_
              have BF := Lib.hid (hB.out _ (B2.out.trans (hC.mono B2.out.size)))
              clear hE hC
              go_wp2_with fail
              go_ret
              exact ⟨ret_bool hr.out.symm, BF.out⟩

end Go.Proofs.YtdaidhbmfocodaaGreat

/-
  The document's answers of layer 6: told, Block, Write. Conditions: those that each lemma states.
-/
namespace Go.Proofs.YtdaidhbmfocodaaGreat
open Go.RowKit

set_option maxRecDepth 100000 in
set_option maxHeartbeats 4000000 in
theorem refTold_ok (v : Value) (n : Nd) (w : World) (h : Nod (Old w) w v n) (hm : mayN n = true) :
    Calls Tryz.prog 108 #[v] w fun e w' => ∃ u, e = .returned u ∧ rBy (New w.heap.size w') w' [u] (toldN n) ∧ Below w.heap.size w w' := by
  obtain ⟨A, c, rfl, hin, l1, m1, hA⟩ := h.open
  obtain ⟨w1, hw1, b0, hs0, hB0⟩ := box_pair' w (.int .i64 n.1) (.slice A n.2.length c) 57
  obtain ⟨f1, f2, _, lt1⟩ := two_cells b0
  have HA := Lib.hid hA
  have B1 := Lib.hid hB0
  replace hs0 := Lib.hid hs0
  clear h hA hB0 b0 hin
  have hmay := Lib.hid hm
  obtain ⟨⟨s1, s2, s3, _⟩, _⟩ := mayN_of hm
  obtain ⟨m, hmm⟩ : ∃ m, n.2.length = m := ⟨_, rfl⟩
  have hu1 := u8_small s1 (by omega)
  have hu2 := u8_small (l := (n.2.length : Int)) (by omega) (by omega)
  have hhead := Lib.hid (show headN n = [78, UInt8.ofNat n.1.toNat, UInt8.ofNat n.2.length] from rfl)
  rw [Int.toNat_natCast] at hu2
  rw [hmm] at l1 f2 hw1 HA s3 hu2 hhead ⊢
  obtain ⟨l, hl⟩ : ∃ l, n.1 = l := ⟨_, rfl⟩
  rw [hl] at f1 hw1 s1 s2 hu1 hhead ⊢
  replace hl := Lib.hid hl
  replace hmm := Lib.hid hmm
  clear hm
  obtain ⟨w2, hw2, own2, hb2, hs2⟩ := lit_own3 w1 78 (UInt8.ofNat l.toNat) (UInt8.ofNat m) 78 l m rfl hu1.1 hu2.1
  rw [← hhead.out] at own2
  have q1 := hu1.2
  have q2 := hu2.2
  have lt2 : w.heap.size < w2.heap.size := Nat.lt_of_lt_of_le lt1 hb2.size
  have hb2' := Lib.hid hb2
  replace own2 := Lib.hid own2
  replace hu1 := Lib.hid hu1
  replace hu2 := Lib.hid hu2
  replace hs2 := Lib.hid hs2
  clear hb2
  go_enter Tryz.func108, Tryz.ntmps108
  go_upto_region 1 with fail
  clear hw1
  go_upto_region 2 with fail
  clear hw2
  go_wp2_with fail
  go_loopw [3, 4] (fun b i wr => ∃ k : Nat, k ≤ m ∧ i = .int .i64 k ∧ wr.ownsRow w1.heap.size 5 1 b (3 + (itsB (n.2.take k)).length) (u8s (headN n ++ itsB (n.2.take k))) ∧ Below w1.heap.size w1 wr) (fun _ i _ => m - (intOf i).toNat)
  case atStart => exact ⟨0, by omega, rfl, by simpa [itsB] using own2.out, hb2'.out⟩
  case round =>
    obtain ⟨k, hk, rfl, hown, hb⟩ := hrel
    replace hb := Lib.hid hb
    have h63 := itsB_take_len hmay.out k
    obtain ⟨B, cb, rfl, c1, c2, hby⟩ := own_byt hown
    have BF := Lib.hid (B1.out.trans (hb.out.mono B1.out.size))
    have p4 := (hb.out.cell (p := ⟨w.heap.size, 1, none⟩) lt1).trans f2
    by_cases hlt : k < m
    case neg =>
      have hkm : Hid (n.2.take k = n.2) := Lib.hid (List.take_of_length_le (by rw [hmm.out]; omega))
      rw [hkm.out] at hown c1 ⊢
      have hfin := Lib.hid (show rBy (New w.heap.size wr) wr [.slice B (3 + (itsB n.2).length) cb] (toldN n) from stab_by.mono (own_by hown) B1.out.size)
      obtain ⟨q, hq⟩ : ∃ q, 3 + (itsB n.2).length = q := ⟨_, rfl⟩
      rw [hq] at hfin c1 ⊢
      clear hown hq hby
      go_wp2_with fail
      go_ret
      exact ⟨_, rfl, hfin.out, BF.out⟩
    obtain ⟨x, hx⟩ : ∃ x, n.2[k]? = some x := ⟨_, List.getElem?_eq_getElem (by rw [hmm.out]; exact hlt)⟩
    obtain ⟨ad, E, ce, rfl, _, _, hinx, FX⟩ := its_old HA.out hx
    obtain ⟨⟨z0, z1, z2, z3, z4⟩, hIx⟩ := FX wr BF.out
    have HI := Lib.hid hIx
    have hmx := Lib.hid (okP_may (mayN_item hmay.out hx))
    have htk := Lib.hid (itsB_take hx)
    have hlx := Lib.hid (show (itB x).length ≤ 24 by have := (mayI_of hmx.out).2; rw [itB_length]; omega)
    have HO := Lib.hid hown
    have i1 : (0 : Int) ≤ (k : Int) := by omega
    have i2 : (k : Int) < (m : Int) := by omega
    replace hx := Lib.hid hx
    clear FX hinx hIx hown hby
    unfold itV at *
    go_wp2_with fail
    with_reducible refine (refBytes_ok _ x _ HI.out hmx.out).mono ?_
    rintro e4 w4 ⟨u, rfl, hu, hb4⟩
    obtain ⟨U, cu, rfl, _, _, hyu⟩ := rBy_byt (B := w4.heap.size) (fun p hp => hp.2.1) hu
    have B4 := hb.out.trans (hb4.mono hb.out.size)
    obtain ⟨v5, w5, hr5, o5, ba5⟩ := app_own_byt _ (3 + (itsB (n.2.take k)).length) (itB x).length cu _ (itB x) U w1.heap.size w4 (own_below HO.out hb4) hyu rfl (by have := hlx.out; omega) B4.size
    have B5 := Lib.hid (B4.trans ba5)
    have H5 := Lib.hid hr5
    have o5' := Lib.hid (show w5.ownsRow w1.heap.size 5 1 v5 (3 + (itsB (n.2.take (k + 1))).length) (u8s (headN n ++ itsB (n.2.take (k + 1)))) by
      rw [htk.out, List.length_append, ← List.append_assoc, ← Nat.add_assoc]
      exact o5)
    clear hu hb4 hyu hr5 o5 ba5 B4
    go_wp2_with (at_builtin; refine wpList_append_run rfl _ _ _ rfl rfl rfl H5.out ?_; clear H5)
    go_roundw
    case rel => exact ⟨k + 1, by omega, by go_num, o5'.out, B5.out⟩
    case measure => simp [intOf]; omega

end Go.Proofs.YtdaidhbmfocodaaGreat

/-
  The document's answers of layer 6: same (bytes with noughts behind); what a block tells, plain. Conditions: those that each lemma states.
-/
namespace Go.Proofs.YtdaidhbmfocodaaGreat
open Go.RowKit

def samAt (b t : List UInt8) (i : Nat) : Bool := if i < t.length then b[i]?.getD 0 == t[i]?.getD 0 else b[i]?.getD 0 == 0
def samB (b t : List UInt8) : Bool := (List.range b.length).all (samAt b t) && decide (t.length ≤ b.length)
theorem samB_no {b t : List UInt8} {k : Nat} (hk : k < b.length) (h : samAt b t k = false) : samB b t = false := by
  cases e : samB b t with
  | false => rfl
  | true =>
    simp only [samB, Bool.and_eq_true, List.all_eq_true] at e
    have := e.1 k (by simpa using hk)
    rw [h] at this
    cases this
theorem samB_end {b t : List UInt8} (h : ∀ k, k < b.length → samAt b t k = true) : samB b t = decide (t.length ≤ b.length) := by
  have : (List.range b.length).all (samAt b t) = true := by
    rw [List.all_eq_true]
    exact fun x hx => h x (by simpa using hx)
  rw [samB, this, Bool.true_and]
theorem samB_of {b t : List UInt8} (h : samB b t = true) : ∃ r, noughtsB r = true ∧ b = t ++ r := by
  simp only [samB, Bool.and_eq_true, List.all_eq_true, decide_eq_true_eq] at h
  obtain ⟨h1, h2⟩ := h
  have h3 : ∀ i, i < b.length → samAt b t i = true := fun i hi => h1 i (by simpa using hi)
  refine ⟨b.drop t.length, ?_, ?_⟩
  · unfold noughtsB
    rw [List.all_eq_true]
    intro x hx
    obtain ⟨j, hj⟩ := List.mem_iff_getElem?.1 hx
    rw [List.getElem?_drop] at hj
    have := h3 (t.length + j) (List.getElem?_eq_some_iff.1 hj).1
    unfold samAt at this
    rw [if_neg (by omega), hj] at this
    simpa using this
  · apply List.ext_getElem?
    intro i
    rcases Nat.lt_or_ge i t.length with hi | hi
    · rw [List.getElem?_append_left hi]
      have := h3 i (by omega)
      unfold samAt at this
      rw [if_pos hi, List.getElem?_eq_getElem hi, List.getElem?_eq_getElem (show i < b.length by omega)] at this
      rw [List.getElem?_eq_getElem hi, List.getElem?_eq_getElem (show i < b.length by omega)]
      simpa using this
    · rw [List.getElem?_append_right hi, List.getElem?_drop]
      congr 1
      omega
theorem samB_mk {t r : List UInt8} (h : noughtsB r = true) : samB (t ++ r) t = true := by
  have h2 : ∀ i, samAt (t ++ r) t i = true := fun i => by
    unfold samAt
    split
    · rename_i hi
      rw [List.getElem?_append_left hi]
      simp
    · rename_i hi
      rw [List.getElem?_append_right (by omega), noughts_zeros h]
      unfold zeros
      rw [List.getElem?_replicate]
      split <;> simp
  rw [samB_end fun i _ => h2 i]
  simp

set_option maxRecDepth 100000 in
set_option maxHeartbeats 4000000 in
theorem refSamN_any (A B : Option Addr) (n c m d : Nat) (b t : List UInt8) (hn : Hid (b.length = n)) (hm : Hid (t.length = m)) (l1 : n ≤ c) (m1 : c ≤ 9223372036854775807) (_ : m ≤ d) (_ : d ≤ 9223372036854775807) (w : World) (hb : Byt w w.heap.size A b) (ht : Byt w w.heap.size B t) :
    Calls Tryz.prog 107 #[.slice A n c, .slice B m d] w fun e w' => e = .returned (.bool (samB b t)) ∧ Below w.heap.size w w' := by
  have HB := Lib.hid hb
  have HT := Lib.hid ht
  clear hb ht
  have hdef := Lib.hid (fun (k : Nat) (hk : k < b.length) (h : samAt b t k = false) => samB_no hk h)
  have hend := Lib.hid (fun h => samB_end (b := b) (t := t) h)
  go_enter Tryz.func107, Tryz.ntmps107
  go_wp2_with fail
  go_loopw [5] (fun i wr => ∃ k : Nat, k ≤ n ∧ i = .int .i64 k ∧ (∀ j, j < k → samAt b t j = true) ∧ Below w.heap.size w wr) (fun i _ => n - (intOf i).toNat)
  case atStart => exact ⟨0, by omega, rfl, fun j hj => by omega, Below.refl _ _⟩
  case round =>
    obtain ⟨k, hk, rfl, ha, hbw⟩ := hrel
    replace ha := Lib.hid ha
    replace hbw := Lib.hid hbw
    by_cases hlt : k < n
    · obtain ⟨ad, rfl, _, hc⟩ := (HB.out.below hbw.out) (by rw [hn.out]; omega)
      replace hc := hc k (by rw [hn.out]; exact hlt)
      have hbad := Lib.hid (hdef.out k (by rw [hn.out]; exact hlt))
      have hstep : Hid (samAt b t k = true → ∀ j, j < k + 1 → samAt b t j = true) := Lib.hid fun h j hj => by
        rcases Nat.lt_or_ge j k with h1 | h1
        · exact ha.out j h1
        · obtain rfl : j = k := by omega
          exact h
      have hat : samAt b t k = if k < t.length then b[k]?.getD 0 == t[k]?.getD 0 else b[k]?.getD 0 == 0 := rfl
      rw [hm.out] at hat
      have i1 : (0 : Int) ≤ (k : Int) := by omega
      have i2 : (k : Int) < (n : Int) := by omega
      obtain ⟨x, hx⟩ : ∃ x, b[k]?.getD 0 = x := ⟨_, rfl⟩
      rw [hx] at hc hat
      replace hx := Lib.hid hx
      by_cases hkm : k < m
      · obtain ⟨bd, rfl, _, hc2⟩ := (HT.out.below hbw.out) (by rw [hm.out]; omega)
        replace hc2 := hc2 k (by rw [hm.out]; exact hkm)
        obtain ⟨y, hy⟩ : ∃ y, t[k]?.getD 0 = y := ⟨_, rfl⟩
        rw [hy] at hc2 hat
        replace hy := Lib.hid hy
        rw [if_pos hkm] at hat
        have i3 : (k : Int) < (m : Int) := by omega
        by_cases e : x = y
        · have hall := Lib.hid (hstep.out (by rw [hat, e]; simp))
          clear hat
          subst e
          have he : ((x.toNat : Int) != (x.toNat : Int)) = false := by simp
          go_wp2_with fail
          have i5 : decide (m ≤ k) = false := by simp; omega
          go_quiet (fail)
          go_wp2_with fail
          go_roundw
          case rel => exact ⟨k + 1, by omega, by go_num, hall.out, below_drewN hbw.out _⟩
          case measure => simp [intOf]; omega
        · have he : ((x.toNat : Int) != (y.toNat : Int)) = true := by
            have : x.toNat ≠ y.toNat := fun h => e (UInt8.toNat.inj h)
            simp
            omega
          have hr := Lib.hid (hbad.out (by rw [hat]; simpa using e))
          replace e := Lib.hid e
          clear hat
          go_wp2_with fail
          go_quiet (fail)
          go_wp2_with fail
          go_ret
          exact ⟨ret_bool hr.out.symm, below_drewN hbw.out _⟩
      · rw [if_neg hkm] at hat
        have i3 : ¬ (k : Int) < (m : Int) := by omega
        have i4 : (m : Int) ≤ (k : Int) := by omega
        by_cases e : x = 0
        · have he : ((x.toNat : Int) != 0) = false := by rw [e]; rfl
          have hall := Lib.hid (hstep.out (by rw [hat, e]; rfl))
          replace e := Lib.hid e
          clear hat
          go_wp2_with fail
          go_quiet (fail)
          go_wp2_with fail
          go_roundw
          case rel => exact ⟨k + 1, by omega, by go_num, hall.out, below_drewN hbw.out _⟩
          case measure => simp [intOf]; omega
        · have he : ((x.toNat : Int) != 0) = true := by
            have : x.toNat ≠ 0 := fun h => e (UInt8.toNat.inj h)
            simp
            omega
          have hr := Lib.hid (hbad.out (by rw [hat]; simpa using e))
          replace e := Lib.hid e
          clear hat
          go_wp2_with fail
          go_quiet (fail)
          go_wp2_with fail
          go_ret
          exact ⟨ret_bool hr.out.symm, below_drewN hbw.out _⟩
    · have hr := Lib.hid (hend.out fun j hj => ha.out j (by have := hn.out; omega))
      rw [hn.out, hm.out] at hr
      by_cases h9 : m ≤ n
      · have i3 : (m : Int) ≤ (n : Int) := by omega
        have hr2 := Lib.hid (show samB b t = true by rw [hr.out]; simpa using h9)
        go_wp2_with fail
        go_ret
        exact ⟨ret_bool hr2.out.symm, hbw.out⟩
      · have i3 : ¬ (m : Int) ≤ (n : Int) := by omega
        have hr2 := Lib.hid (show samB b t = false by rw [hr.out]; simpa using h9)
        go_wp2_with fail
        go_ret
        exact ⟨ret_bool hr2.out.symm, hbw.out⟩

/-! ### What the document's reading takes for a node -/
def capN (bd : List UInt8) : Nat := min (manyN bd) 6
def ndR (bd : List UInt8) : Nd := (lvlN bd, cutL (bd.drop 3) (capN bd))
def rdR (bd : List UInt8) : Bool := (cutTo (bd.drop 3) (capN bd)).isSome && (mayN (ndR bd) && samB bd (toldN (ndR bd)))
theorem rdR_eq {bd : List UInt8} (h124 : bd.length = 124) : rdR bd = rdN bd ∧ (rdR bd = true → ndR bd = ndN bd) := by
  by_cases hm : manyN bd ≤ 6
  · have hc : capN bd = manyN bd := by unfold capN; omega
    have hnd : ndR bd = ndN bd := by unfold ndR ndN; rw [hc]
    refine ⟨?_, fun _ => hnd⟩
    unfold rdR rdN
    rw [hnd, hc]
    cases hct : cutTo (bd.drop 3) (manyN bd) with
    | none => simp
    | some p =>
      obtain ⟨l, r⟩ := p
      have hL : cutL (bd.drop 3) (manyN bd) = l := by simp [cutL, hct]
      have hR : cutR (bd.drop 3) (manyN bd) = r := by simp [cutR, hct]
      obtain ⟨c1, c2, _⟩ := cutTo_bytes hct
      rw [hR]
      have hT : toldN (ndN bd) = [78, bd[1]?.getD 0, bd[2]?.getD 0] ++ itsB l := by
        rw [ndN, hL, told_parts, c2]
        have e1 : UInt8.ofNat (lvlN bd).toNat = bd[1]?.getD 0 := by simp [lvlN]
        have e2 : UInt8.ofNat (manyN bd) = bd[2]?.getD 0 := by simp [manyN]
        show [78, UInt8.ofNat (lvlN bd).toNat, UInt8.ofNat (manyN bd)] ++ itsB l = _
        rw [e1, e2]
      have hsplit : bd = [bd[0]?.getD 0, bd[1]?.getD 0, bd[2]?.getD 0] ++ bd.drop 3 := by
        match bd, h124 with
        | x :: y :: z :: q, _ => simp
      have key : samB bd (toldN (ndN bd)) = (decide (bd[0]?.getD 0 = 78) && noughtsB r) := by
        rw [Bool.eq_iff_iff, Bool.and_eq_true, decide_eq_true_iff]
        constructor
        · intro h
          obtain ⟨r', hr', e⟩ := samB_of h
          rw [hT] at e
          have h0 : bd[0]?.getD 0 = 78 := by rw [e]; rfl
          refine ⟨h0, ?_⟩
          have h1 : bd.drop 3 = itsB l ++ r' := by rw [e]; rfl
          rw [c1] at h1
          have := List.append_cancel_left h1
          rw [this]
          exact hr'
        · rintro ⟨h0, hr⟩
          have e : bd = toldN (ndN bd) ++ r := by
            rw [hT, List.append_assoc, ← c1, ← h0]
            exact hsplit
          have := samB_mk (t := toldN (ndN bd)) hr
          rwa [← e] at this
      rw [key]
      cases decide (bd[0]?.getD 0 = 78) <;> cases noughtsB r <;> cases mayN (ndN bd) <;> rfl
  · have hc : capN bd = 6 := by unfold capN; omega
    have h1 : rdR bd = false := by
      unfold rdR
      rw [hc]
      cases hct : cutTo (bd.drop 3) 6 with
      | none => rfl
      | some p =>
        obtain ⟨l, r⟩ := p
        have hL : cutL (bd.drop 3) 6 = l := by simp [cutL, hct]
        obtain ⟨_, c2, _⟩ := cutTo_bytes hct
        have : mayN (ndR bd) = false := mayN_shape (fun hh => by
          have := hh.2.2.1
          rw [ndR, hc, hL] at this
          simp only at this
          omega)
        rw [this]
        rfl
    have h2 : rdN bd = false := by
      unfold rdN
      cases hct : cutTo (bd.drop 3) (manyN bd) with
      | none => simp
      | some p =>
        obtain ⟨l, r⟩ := p
        have hL : cutL (bd.drop 3) (manyN bd) = l := by simp [cutL, hct]
        obtain ⟨_, c2, _⟩ := cutTo_bytes hct
        have : mayN (ndN bd) = false := mayN_shape (fun hh => by
          have := hh.2.2.1
          rw [ndN, hL] at this
          simp only at this
          omega)
        rw [this]
        simp
    exact ⟨by rw [h1, h2], fun h => by rw [h1] at h; cases h⟩
end Go.Proofs.YtdaidhbmfocodaaGreat

/-
  The document's answers of layer 6: Read. Conditions: those that each lemma states.
-/
namespace Go.Proofs.YtdaidhbmfocodaaGreat
open Go.RowKit

theorem reN_ref {b : List UInt8} (h : oe b = 0) : reN b = (if rdR (ob b) then 0 else 8) ∧ reV b = (if rdR (ob b) then ndR (ob b) else zeroN) := by
  obtain ⟨_, _, _, h124⟩ := oe_zeroN h
  obtain ⟨e1, e2⟩ := rdR_eq h124
  cases e : rdR (ob b) with
  | true => exact ⟨(reN_good h (by rw [← e1, e])).1, by rw [(reN_good h (by rw [← e1, e])).2, ← e2 e]; rfl⟩
  | false => exact ⟨(reN_bad h (by rw [← e1, e])).1, (reN_bad h (by rw [← e1, e])).2⟩

set_option maxRecDepth 100000 in
set_option maxHeartbeats 8000000 in
theorem refReadN_any (v : Value) (b : List UInt8) (w : World) (h : rBy (Old w) w [v] b) :
    Calls Tryz.prog 82 #[v] w fun e w' => ∃ u, e = .returned (.tuple #[u, .int .i64 (reN b)]) ∧ Nod (New w.heap.size w') w' u (reV b) ∧ Below w.heap.size w w' := by
  obtain ⟨A, c, rfl, l1, m1, hy⟩ := rBy_byt (B := w.heap.size) (fun p hp => hp) h
  obtain ⟨n, hn⟩ : ∃ n, b.length = n := ⟨_, rfl⟩
  rw [hn] at l1 ⊢
  replace hn := Lib.hid hn
  obtain ⟨w0, hw0, b0, hs0, hB0⟩ := box_pair' w (.int .i64 0) (.slice none 0 0) 57
  have lt0 : w.heap.size < w0.heap.size := by omega
  have HB0 := Lib.hid hB0
  have HY := Lib.hid ((hy.below hB0).more hB0.size)
  have hzero : Hid (∀ (er : Int) (W : World), reN b = er ∧ reV b = zeroN → Below w0.heap.size w0 W → ∃ W9, (W.setCell ⟨w.heap.size, 0, none⟩ (.int .i64 0)).setCell ⟨w.heap.size, 1, none⟩ (.slice none 0 0) = W9 ∧ W9.cell? ⟨w.heap.size, 0, none⟩ = some (.int .i64 0) ∧ W9.cell? ⟨w.heap.size, 1, none⟩ = some (.slice none 0 0) ∧ (∀ o, W.frozen? ⟨w.heap.size, o, none⟩ = false) ∧ W.cell? ⟨w.heap.size, 0, none⟩ = some (.int .i64 0) ∧ W.cell? ⟨w.heap.size, 1, none⟩ = some (.slice none 0 0) ∧
      (∃ u, Ending.returned (.tuple #[.agg #[.int .i64 0, .slice none 0 0], .int .i64 er]) = .returned (.tuple #[u, .int .i64 (reN b)]) ∧ Nod (New w.heap.size W9) W9 u (reV b) ∧ Below w.heap.size w W9)) := Lib.hid fun er W hre hW => by
    have bW := (hW.block w.heap.size lt0).trans b0
    obtain ⟨W9, e9, g9, gr9, gs9⟩ := put_two (u := .int .i64 0) (v := .slice none 0 0) bW
    obtain ⟨k0, k1, kf, _⟩ := two_cells g9
    obtain ⟨y0, y1, yf, _⟩ := two_cells bW
    have hBW := HB0.out.trans (hW.mono HB0.out.size)
    exact ⟨W9, e9, k0, k1, yf, y0, y1, _, by rw [hre.1], by rw [hre.2]; exact nod_zero _ _, hBW.grown gr9 hBW.size (fun q e => by cases e; omega)⟩
  replace b0 := Lib.hid b0
  replace hw0 := Lib.hid hw0
  clear hB0 hs0 h hy
  go_enter Tryz.func82, Tryz.ntmps82
  go_upto_region 1 with fail
  rw [hw0.out]
  clear hw0
  go_wp2_with fail
  with_reducible refine (openRef_any A n c b hn l1 m1 _ HY.out).mono ?_
  rintro e1 w1 ⟨v1, rfl, ho1, hb1⟩
  have B1 := Lib.hid hb1
  have hBW1 := Lib.hid (show w.heap.size ≤ w1.heap.size from Nat.le_trans (Nat.le_of_lt lt0) hb1.size)
  obtain ⟨er, hoe⟩ : ∃ er, oe b = er := ⟨_, rfl⟩
  rw [hoe]
  by_cases h0 : er = 0
  case neg =>
    have t0 : (er != 0) = true := by simpa using h0
    obtain ⟨W9, e9, k0, k1, yf, y0, y1, hfin⟩ := hzero.out er w1 (by rw [← hoe]; exact reN_open (by rw [hoe]; exact h0)) B1.out
    replace hfin := Lib.hid hfin
    replace h0 := Lib.hid h0
    replace hoe := Lib.hid hoe
    clear ho1 hb1
    go_wp2_with fail
    exact bodyPost_ret (v := .tuple #[.agg #[.int .i64 0, .slice none 0 0], .int .i64 er]) (by simp [results, Tryz.results82, go_sem, k0, k1]) rfl hfin.out
  subst h0
  obtain ⟨hlen, hfits, hob, hl124⟩ := oe_zeroN hoe
  have hre := reN_ref hoe
  have hr1 := own_by ho1
  obtain ⟨bd, hbd⟩ : ∃ bd, ob b = bd := ⟨_, rfl⟩
  rw [hbd] at hr1 hre hl124
  have HZ : Hid (∀ W, rdR bd = false → Below w0.heap.size w0 W → _) := Lib.hid (fun W h hW => hzero.out 8 W (by rw [hre.1, hre.2, h]; exact ⟨rfl, rfl⟩) hW)
  have HG : Hid (rdR bd = true → reN b = 0 ∧ reV b = ndR bd) := Lib.hid (fun h => by rw [hre.1, hre.2, h]; exact ⟨rfl, rfl⟩)
  replace hbd := Lib.hid hbd
  obtain ⟨Q, cq, rfl, n1, n2, hcell⟩ := rBy_open hr1
  rw [hl124] at n1 hcell hr1 ⊢
  obtain ⟨ad, rfl, hn0, hc0⟩ := hcell 0 (by omega)
  obtain ⟨_, e, hn1', hc1⟩ := hcell 1 (by omega)
  cases e
  obtain ⟨_, e, hn2', hc2⟩ := hcell 2 (by omega)
  cases e
  have z0 : w1.cell? ad = some (.int .u8 ((bd[0]?.getD 0).toNat : Int)) := by simpa [Addr.add] using hc0
  have z1 : w1.cell? ⟨ad.block, ad.off + 1, none⟩ = some (.int .u8 ((bd[1]?.getD 0).toNat : Int)) := by simpa [Addr.add] using hc1
  have z2 : w1.cell? ⟨ad.block, ad.off + 2, none⟩ = some (.int .u8 ((bd[2]?.getD 0).toNat : Int)) := by simpa [Addr.add] using hc2
  have ltb : ad.block < w1.heap.size := World.block_lt_of_cell? _ _ z0
  have hbody := Lib.hid (stab_by.drop hr1)
  have hrest := rBy_rest hbody.out 3 (by omega)
  have had3 : ad.add 3 = ⟨ad.block, ad.off + 3, none⟩ := by simp [Addr.add]
  rw [had3] at hrest
  replace hrest : Hid (rBy (Old w1) w1 [.slice (some ⟨ad.block, ad.off + 3, none⟩) 121 (cq - 3)] (bd.drop 3)) := Lib.hid hrest
  have hl := Lib.hid hl124
  replace hoe := Lib.hid hoe
  clear hre hfits hob hlen hc0 hc1 hc2 hn0 hn1' hn2' ho1 hb1 hcell hl124 hzero hr1 z0
  have hrd : Hid (rdR bd = ((cutTo (bd.drop 3) (capN bd)).isSome && (mayN (ndR bd) && samB bd (toldN (ndR bd))))) := Lib.hid rfl
  obtain ⟨lv, hlv⟩ : ∃ lv, lvlN bd = lv := ⟨_, rfl⟩
  have hlin := lvlN_in bd
  rw [hlv] at hlin
  have z1' : w1.cell? ⟨ad.block, ad.off + 1, none⟩ = some (.int .u8 lv) := by rw [← hlv]; exact z1
  have hlw : IntKind.i64.wrap lv = lv := IntWalk.i64_in _ ⟨hlin.1, hlin.2⟩
  obtain ⟨mn, hmn⟩ : ∃ m, manyN bd = m := ⟨_, rfl⟩
  have hmlt := manyN_lt bd
  rw [hmn] at hmlt
  have hcap := Lib.hid (show capN bd = min mn 6 by rw [← hmn]; rfl)
  have z2' : w1.cell? ⟨ad.block, ad.off + 2, none⟩ = some (.int .u8 (mn : Int)) := by rw [← hmn]; exact z2
  have hwm : IntKind.i64.wrap (mn : Int) = (mn : Int) := IntWalk.i64_in _ (by omega)
  replace hmn := Lib.hid hmn
  replace hlv := Lib.hid hlv
  replace hlin := Lib.hid hlin
  obtain ⟨w2, hw2, g2, hs2, hB2⟩ := box_pair' w1 (.int .i64 lv) (.slice none 0 0) 57
  obtain ⟨e20, e21, e22, lt2⟩ := two_cells g2
  obtain ⟨w3, hw3, g3, gr3, gs3⟩ := put_snd (u := .slice none 0 0) g2
  have hB3 := Lib.hid (hB2.grown gr3 hB2.size (fun q e => by cases e; omega))
  have s23 := Lib.hid gs3
  replace g3 := Lib.hid g3
  replace hs2 := Lib.hid hs2
  have c3 : ¬ cq = 3 := by omega
  have c4 : (3 : Int) ≤ cq := by omega
  clear z1 z2 gr3 gs3
  go_upto_region 5 with fail
  clear hw2 hw3 e20 e21 e22 z1'
  go_wp2_with fail
  go_loopw [7, 8] (fun q i wr => ∃ (k : Nat) (l : List It) (r : List UInt8) (A1 : Option Addr) (c1 : Nat), k ≤ min mn 6 ∧ i = .int .i64 k ∧ l.length = k ∧ cutTo (bd.drop 3) k = some (l, r) ∧ rBy (Old w1) w1 [q] r ∧ wr.heap[w1.heap.size]? = some (.cells #[.int .i64 lv, .slice A1 k c1] 57 (0, 0)) ∧ RowOf rIt 5 52 w3.heap.size wr A1 c1 l ∧ Below w1.heap.size w1 wr ∧ w3.heap.size ≤ wr.heap.size) (fun _ i _ => 7 - (intOf i).toNat)
  case atStart => exact ⟨0, [], bd.drop 3, none, 0, by omega, rfl, rfl, rfl, hrest.out, g3.out, RowOf.nil _ _ _ _ _, hB3.out, Nat.le_refl _⟩
  case round =>
    obtain ⟨k, l, r, A1, c1, hk, rfl, hll, hcut, hq, hz, hrow, hb, hsz⟩ := hrel
    obtain ⟨r2, r3, r4, r5⟩ := two_cells hz
    have y2 := (hb.cell (p := ⟨ad.block, ad.off + 2, none⟩) ltb).trans z2'
    replace hrow := Lib.hid hrow
    replace hcut := Lib.hid hcut
    replace hll := Lib.hid hll
    have hz' := Lib.hid hz
    replace hb := Lib.hid hb
    obtain ⟨R0, cr, rfl, n3, n4, _⟩ := id (rBy_open hq)
    obtain ⟨nq, hnq⟩ : ∃ n, r.length = n := ⟨_, rfl⟩
    rw [hnq] at n3 hq ⊢
    replace hnq := Lib.hid hnq
    replace hq := Lib.hid hq
    have hqr := Lib.hid (stab_by.old hq.out hb.out)
    have BR := Lib.hid (B1.out.trans (hb.out.mono B1.out.size))
    clear hz
    by_cases hlt : k < mn ∧ k ≤ 5
    case neg =>
      have hcapk : capN bd = k := by rw [hcap.out]; omega
      by_cases hlt1 : k < mn
      · have i1 : (k : Int) < mn := by omega
        have i2 : ¬ (k : Int) ≤ 5 := by omega
        have hL := Lib.hid (show cutL (bd.drop 3) (capN bd) = l by rw [hcapk]; simp [cutL, hcut.out])
        have hsome := Lib.hid (show (cutTo (bd.drop 3) (capN bd)).isSome = true by rw [hcapk, hcut.out]; rfl)
        have hnd := Lib.hid (show ndR bd = (lv, l) by rw [ndR, hL.out, hlv.out])
        have hN0 : Nod (New w3.heap.size wr) wr (.agg #[.int .i64 lv, .slice A1 k c1]) (lv, l) := ⟨_, rfl, hlin.out, by
          have h1 := hrow.out.rel stab_it
          rwa [hll.out] at h1⟩
        have HN0 := Lib.hid hN0
        replace hcapk := Lib.hid hcapk
        clear hN0
        go_wp2_with fail
        with_reducible refine (refMayN_any _ (lv, l) _ HN0.out.drop).mono ?_
        rintro e5 w5 ⟨rfl, hb5⟩
        have B5 := Lib.hid (BR.out.trans (hb5.mono BR.out.size))
        have HN5 := Lib.hid (HN0.out.new (Nat.le_refl _) hb5)
        have t2 := (hb5.cell (p := ⟨w1.heap.size, 0, none⟩) r5).trans r2
        have t3 := (hb5.cell (p := ⟨w1.heap.size, 1, none⟩) r5).trans r3
        have t5 : w1.heap.size < w5.heap.size := Nat.lt_of_lt_of_le r5 hb5.size
        have C5 := Lib.hid (hb.out.trans (hb5.mono hb.out.size))
        clear hb5 r2 r3 r4 y2
        rcases bool_two (mayN (lv, l)) with hm | hm
        · obtain ⟨W9, e9, k0, k1, yf, u0, u1, hfin⟩ := HZ.out w5 (by rw [hrd.out, hnd.out, hm]; simp) B5.out
          replace hfin := Lib.hid hfin
          rw [hm]
          replace hm := Lib.hid hm
          go_wp2_with fail
          exact bodyPost_ret (v := .tuple #[.agg #[.int .i64 0, .slice none 0 0], .int .i64 8]) (by simp [results, Tryz.results82, go_sem, k0, k1]) rfl hfin.out
        rw [hm]
        have hm' := Lib.hid hm
        clear hm
        go_wp2_with fail
        with_reducible refine (refTold_ok _ (lv, l) _ HN5.out.drop hm'.out).mono ?_
        rintro e6 w6 ⟨u6, rfl, hu6, hb6⟩
        obtain ⟨U, cu, rfl, g6, g6', hyu⟩ := rBy_byt (B := w6.heap.size) (fun p hp => hp.2.1) hu6
        obtain ⟨tl, htl⟩ : ∃ q, (toldN (lv, l)).length = q := ⟨_, rfl⟩
        rw [htl] at g6 ⊢
        replace htl := Lib.hid htl
        have B6 := Lib.hid (B5.out.trans (hb6.mono B5.out.size))
        have C6 := Lib.hid (C5.out.trans (hb6.mono C5.out.size))
        have HN6 := Lib.hid (HN5.out.new (Nat.le_refl _) hb6)
        have s2 := (hb6.cell (p := ⟨w1.heap.size, 0, none⟩) t5).trans t2
        have s3 := (hb6.cell (p := ⟨w1.heap.size, 1, none⟩) t5).trans t3
        have s5 : w1.heap.size < w6.heap.size := Nat.lt_of_lt_of_le t5 hb6.size
        have HYU := Lib.hid hyu
        have HYB : Hid (Byt w6 w6.heap.size (some ad) bd) := Lib.hid (by
          obtain ⟨_, _, e, _, _, h⟩ := rBy_byt (B := w6.heap.size) (fun p hp => hp) (stab_by.old hbody.out C6.out)
          rw [hl.out] at e
          cases e
          exact h)
        clear hu6 hb6 hyu t2 t3 t5
        go_wp2_with fail
        with_reducible refine (refSamN_any (some ad) U 124 cq tl cu bd (toldN (lv, l)) hl htl n1 n2 g6 g6' _ HYB.out HYU.out).mono ?_
        rintro e7 w7 ⟨rfl, hb7⟩
        have B7 := Lib.hid (B6.out.trans (hb7.mono B6.out.size))
        have HN7 := Lib.hid (HN6.out.new (Nat.le_refl _) hb7)
        have t2 := (hb7.cell (p := ⟨w1.heap.size, 0, none⟩) s5).trans s2
        have t3 := (hb7.cell (p := ⟨w1.heap.size, 1, none⟩) s5).trans s3
        clear hb7 s2 s3
        rcases bool_two (samB bd (toldN (lv, l))) with hz | hz
        · obtain ⟨W9, e9, k0, k1, yf, u0, u1, hfin⟩ := HZ.out w7 (by rw [hrd.out, hnd.out, hz]; simp) B7.out
          replace hfin := Lib.hid hfin
          rw [hz]
          replace hz := Lib.hid hz
          go_wp2_with fail
          exact bodyPost_ret (v := .tuple #[.agg #[.int .i64 0, .slice none 0 0], .int .i64 8]) (by simp [results, Tryz.results82, go_sem, k0, k1]) rfl hfin.out
        · have hgood := Lib.hid (HG.out (by rw [hrd.out, hnd.out, hz, hm'.out, hsome.out]; rfl))
          have bW := (B7.out.block w.heap.size lt0).trans b0.out
          obtain ⟨W9, e9, g9, gr9, gs9⟩ := put_two (u := .int .i64 lv) (v := .slice A1 k c1) bW
          obtain ⟨k0, k1, kf, _⟩ := two_cells g9
          obtain ⟨u0, u1, yf, _⟩ := two_cells bW
          have hBW := HB0.out.trans (B7.out.mono HB0.out.size)
          have hlt3 : w.heap.size < w3.heap.size := Nat.lt_of_lt_of_le lt0 (Nat.le_trans B1.out.size hB3.out.size)
          have hfin : Hid (Nod (New w.heap.size W9) W9 (.agg #[.int .i64 lv, .slice A1 k c1]) (reV b) ∧ Below w.heap.size w W9) := Lib.hid ⟨by
            rw [hgood.out.2, hnd.out]
            exact (HN7.out.grown gr9 (fun q e => by cases e; exact hlt3)).map fun p v hp hc => ⟨⟨Nat.le_trans (Nat.le_of_lt hlt3) hp.1, hp.2⟩, hc⟩, hBW.grown gr9 hBW.size (fun q e => by cases e; omega)⟩
          rw [hz]
          replace hz := Lib.hid hz
          replace bW := Lib.hid bW
          replace g9 := Lib.hid g9
          clear gr9
          go_wp2_with fail
          exact bodyPost_ret (v := .tuple #[.agg #[.int .i64 lv, .slice A1 k c1], .int .i64 0]) (by simp [results, Tryz.results82, go_sem, k0, k1]) rfl ⟨_, by rw [hgood.out.1], hfin.out.1, hfin.out.2⟩
      · have i1 : ¬ (k : Int) < mn := by omega
        have hL := Lib.hid (show cutL (bd.drop 3) (capN bd) = l by rw [hcapk]; simp [cutL, hcut.out])
        have hsome := Lib.hid (show (cutTo (bd.drop 3) (capN bd)).isSome = true by rw [hcapk, hcut.out]; rfl)
        have hnd := Lib.hid (show ndR bd = (lv, l) by rw [ndR, hL.out, hlv.out])
        have hN0 : Nod (New w3.heap.size wr) wr (.agg #[.int .i64 lv, .slice A1 k c1]) (lv, l) := ⟨_, rfl, hlin.out, by
          have h1 := hrow.out.rel stab_it
          rwa [hll.out] at h1⟩
        have HN0 := Lib.hid hN0
        replace hcapk := Lib.hid hcapk
        clear hN0
        go_wp2_with fail
        with_reducible refine (refMayN_any _ (lv, l) _ HN0.out.drop).mono ?_
        rintro e5 w5 ⟨rfl, hb5⟩
        have B5 := Lib.hid (BR.out.trans (hb5.mono BR.out.size))
        have HN5 := Lib.hid (HN0.out.new (Nat.le_refl _) hb5)
        have t2 := (hb5.cell (p := ⟨w1.heap.size, 0, none⟩) r5).trans r2
        have t3 := (hb5.cell (p := ⟨w1.heap.size, 1, none⟩) r5).trans r3
        have t5 : w1.heap.size < w5.heap.size := Nat.lt_of_lt_of_le r5 hb5.size
        have C5 := Lib.hid (hb.out.trans (hb5.mono hb.out.size))
        clear hb5 r2 r3 r4 y2
        rcases bool_two (mayN (lv, l)) with hm | hm
        · obtain ⟨W9, e9, k0, k1, yf, u0, u1, hfin⟩ := HZ.out w5 (by rw [hrd.out, hnd.out, hm]; simp) B5.out
          replace hfin := Lib.hid hfin
          rw [hm]
          replace hm := Lib.hid hm
          go_wp2_with fail
          exact bodyPost_ret (v := .tuple #[.agg #[.int .i64 0, .slice none 0 0], .int .i64 8]) (by simp [results, Tryz.results82, go_sem, k0, k1]) rfl hfin.out
        rw [hm]
        have hm' := Lib.hid hm
        clear hm
        go_wp2_with fail
        with_reducible refine (refTold_ok _ (lv, l) _ HN5.out.drop hm'.out).mono ?_
        rintro e6 w6 ⟨u6, rfl, hu6, hb6⟩
        obtain ⟨U, cu, rfl, g6, g6', hyu⟩ := rBy_byt (B := w6.heap.size) (fun p hp => hp.2.1) hu6
        obtain ⟨tl, htl⟩ : ∃ q, (toldN (lv, l)).length = q := ⟨_, rfl⟩
        rw [htl] at g6 ⊢
        replace htl := Lib.hid htl
        have B6 := Lib.hid (B5.out.trans (hb6.mono B5.out.size))
        have C6 := Lib.hid (C5.out.trans (hb6.mono C5.out.size))
        have HN6 := Lib.hid (HN5.out.new (Nat.le_refl _) hb6)
        have s2 := (hb6.cell (p := ⟨w1.heap.size, 0, none⟩) t5).trans t2
        have s3 := (hb6.cell (p := ⟨w1.heap.size, 1, none⟩) t5).trans t3
        have s5 : w1.heap.size < w6.heap.size := Nat.lt_of_lt_of_le t5 hb6.size
        have HYU := Lib.hid hyu
        have HYB : Hid (Byt w6 w6.heap.size (some ad) bd) := Lib.hid (by
          obtain ⟨_, _, e, _, _, h⟩ := rBy_byt (B := w6.heap.size) (fun p hp => hp) (stab_by.old hbody.out C6.out)
          rw [hl.out] at e
          cases e
          exact h)
        clear hu6 hb6 hyu t2 t3 t5
        go_wp2_with fail
        with_reducible refine (refSamN_any (some ad) U 124 cq tl cu bd (toldN (lv, l)) hl htl n1 n2 g6 g6' _ HYB.out HYU.out).mono ?_
        rintro e7 w7 ⟨rfl, hb7⟩
        have B7 := Lib.hid (B6.out.trans (hb7.mono B6.out.size))
        have HN7 := Lib.hid (HN6.out.new (Nat.le_refl _) hb7)
        have t2 := (hb7.cell (p := ⟨w1.heap.size, 0, none⟩) s5).trans s2
        have t3 := (hb7.cell (p := ⟨w1.heap.size, 1, none⟩) s5).trans s3
        clear hb7 s2 s3
        rcases bool_two (samB bd (toldN (lv, l))) with hz | hz
        · obtain ⟨W9, e9, k0, k1, yf, u0, u1, hfin⟩ := HZ.out w7 (by rw [hrd.out, hnd.out, hz]; simp) B7.out
          replace hfin := Lib.hid hfin
          rw [hz]
          replace hz := Lib.hid hz
          go_wp2_with fail
          exact bodyPost_ret (v := .tuple #[.agg #[.int .i64 0, .slice none 0 0], .int .i64 8]) (by simp [results, Tryz.results82, go_sem, k0, k1]) rfl hfin.out
        · have hgood := Lib.hid (HG.out (by rw [hrd.out, hnd.out, hz, hm'.out, hsome.out]; rfl))
          have bW := (B7.out.block w.heap.size lt0).trans b0.out
          obtain ⟨W9, e9, g9, gr9, gs9⟩ := put_two (u := .int .i64 lv) (v := .slice A1 k c1) bW
          obtain ⟨k0, k1, kf, _⟩ := two_cells g9
          obtain ⟨u0, u1, yf, _⟩ := two_cells bW
          have hBW := HB0.out.trans (B7.out.mono HB0.out.size)
          have hlt3 : w.heap.size < w3.heap.size := Nat.lt_of_lt_of_le lt0 (Nat.le_trans B1.out.size hB3.out.size)
          have hfin : Hid (Nod (New w.heap.size W9) W9 (.agg #[.int .i64 lv, .slice A1 k c1]) (reV b) ∧ Below w.heap.size w W9) := Lib.hid ⟨by
            rw [hgood.out.2, hnd.out]
            exact (HN7.out.grown gr9 (fun q e => by cases e; exact hlt3)).map fun p v hp hc => ⟨⟨Nat.le_trans (Nat.le_of_lt hlt3) hp.1, hp.2⟩, hc⟩, hBW.grown gr9 hBW.size (fun q e => by cases e; omega)⟩
          rw [hz]
          replace hz := Lib.hid hz
          replace bW := Lib.hid bW
          replace g9 := Lib.hid g9
          clear gr9
          go_wp2_with fail
          exact bodyPost_ret (v := .tuple #[.agg #[.int .i64 lv, .slice A1 k c1], .int .i64 0]) (by simp [results, Tryz.results82, go_sem, k0, k1]) rfl ⟨_, by rw [hgood.out.1], hfin.out.1, hfin.out.2⟩
    obtain ⟨hlt1, hlt2⟩ := hlt
    have i1 : (k : Int) < mn := by omega
    have i2 : (k : Int) ≤ 5 := by omega
    go_wp2_with fail
    with_reducible refine (refReadI_any _ r _ hqr.out).mono ?_
    rintro e3 w4 ⟨u3, rfl, hu3, hb3⟩
    obtain ⟨D, dc, rfl, hin, _, _, hby⟩ := id hu3.open
    obtain ⟨w5, hw5, s0, s1, s2, s3, s4, hs4, hb4, b4⟩ := box_five w4 (.int .u8 ((itR r).1.1.toNat : Int)) (.int .u32 (itR r).1.2.1) (.int .u32 (itR r).1.2.2) (.int .i64 (itR r).2.1) (.slice D (itR r).2.2.length dc) 52
    have C4 := Lib.hid (hb3.trans (hb4.mono hb3.size))
    have B4 := Lib.hid (hb.out.trans (C4.out.mono hb.out.size))
    have hI4 := Lib.hid (hu3.new (Nat.le_refl _) hb4)
    obtain ⟨x, hx⟩ : ∃ x, itR r = x := ⟨_, rfl⟩
    rw [hx] at hin s0 s1 s2 s3 s4 b4 hI4 hw5 ⊢
    replace hs4 := Lib.hid hs4
    replace hx := Lib.hid hx
    have x3 := (C4.out.cell (p := ⟨w1.heap.size, 1, none⟩) r5).trans r3
    clear hb3 hb4 hu3 hby r2 r3 r4
    unfold itV at *
    go_upto_region 10 with fail
    clear hw5
    rcases bool_ways (okR r) with hok | hok
    · have hE := Lib.hid (show itE r = 8 by simp [itE, hok])
      have hno := Lib.hid (cutTo_none (cutTo_no hcut.out hok) (show k + 1 ≤ capN bd by rw [hcap.out]; omega))
      obtain ⟨W9, e9, k0, k1, yf, u0, u1, hfin⟩ := HZ.out w5 (by rw [hrd.out, hno.out]; rfl) (B1.out.trans (B4.out.mono B1.out.size))
      replace hfin := Lib.hid hfin
      rw [hE.out]
      replace hok := Lib.hid hok
      go_wp2_with fail
      exact bodyPost_ret (v := .tuple #[.agg #[.int .i64 0, .slice none 0 0], .int .i64 8]) (by simp [results, Tryz.results82, go_sem, k0, k1]) rfl hfin.out
    have hE := Lib.hid (show itE r = 0 by simp [itE, hok])
    obtain ⟨m, hm1, hm2, hm3, hm4⟩ := read_itB hok
    have hyes := cutTo_yes hcut.out hok
    rw [hm1, show ((m : Int)).toNat = m by omega, hx.out] at hyes
    have hrl : 12 ≤ nq := by have := okC_yes (okR_fields hok).1; have := hnq.out; omega
    rw [hnq.out] at hm2
    rw [hE.out, hm1]
    replace hyes := Lib.hid hyes
    replace hok := Lib.hid hok
    clear hm1 hm3 hm4
    obtain ⟨w6, hw6, _, _, _, _, _, hs5, hb5, b5⟩ := box_five w5 (.int .u8 (x.1.1.toNat : Int)) (.int .u32 x.1.2.1) (.int .u32 x.1.2.2) (.int .i64 x.2.1) (.slice D x.2.2.length dc) 52
    have C5 := C4.out.trans (hb5.mono C4.out.size)
    have hI5 := hI4.out.new (Nat.le_refl _) hb5
    have hx5 : rBy (NewBut w3.heap.size A1 w6) w6 [.slice D x.2.2.length dc] x.2.2 := by
      obtain ⟨d, e, _, hd⟩ := hI5
      have ed : d = .slice D x.2.2.length dc := by injection e with e; simpa using e.symm
      subst ed
      exact stab_by _ _ _ _ _ _ (fun p v hp hc => ⟨hrow.out.but (Nat.le_refl _) hsz hp, hc⟩) hd
    have row5 := RowOf.below stab_it hrow.out C5
    obtain ⟨A2, c2, w7, hr2, row7, _, ba7⟩ := its_push row5 w5.heap.size x _ 1 k hll.out b5 (by omega) (Nat.le_trans hsz C5.size) hin hx5
    have s23' := s23.out
    have lt12 : w1.heap.size < w3.heap.size := by omega
    have g7 := (ba7.block w1.heap.size lt12).trans ((C5.block w1.heap.size r5).trans hz'.out)
    obtain ⟨w8, hw8, g8, gr8, gs8⟩ := put_snd (u := .slice A2 (k + 1) c2) g7
    have row8 := Lib.hid (RowOf.grown stab_it row7 gr8 (fun q e => by cases e; omega))
    have hb7 : Below w1.heap.size w1 w7 := (hb.out.trans (C5.mono hb.out.size)).trans (ba7.mono (Nat.le_of_lt lt12))
    have hb8 := Lib.hid (hb7.grown gr8 hb7.size (fun q e => by cases e; omega))
    have sz8 := Lib.hid (show w3.heap.size ≤ w8.heap.size by rw [gs8]; exact Nat.le_trans (Nat.le_trans hsz C5.size) ba7.size)
    obtain ⟨y5, y6, y7, y8⟩ := two_cells g7
    have H2 := Lib.hid hr2
    have hll2 := Lib.hid (show (l ++ [x]).length = k + 1 by simp [hll.out])
    obtain ⟨qa, rfl⟩ : ∃ qa, R0 = some qa := by
      obtain ⟨_, _, e, _, _, h4⟩ := rBy_open hq.out
      cases e
      obtain ⟨qa, e, _⟩ := h4 0 (by have := hnq.out; omega)
      exact ⟨qa, e⟩
    have hrest2 := Lib.hid (rBy_rest hq.out m (by rw [hnq.out]; exact hm2))
    have hnil : Hid (m = nq → ∀ ok, rBy ok w1 [.slice (some qa) 0 0] (r.drop m)) := Lib.hid fun e ok => by
      rw [List.drop_of_length_le (by rw [hnq.out]; omega)]
      exact rBy_part0 _ _ _
    replace hs5 := Lib.hid hs5
    replace b5 := Lib.hid b5
    replace hI5 := Lib.hid hI5
    replace g8 := Lib.hid g8
    replace g7 := Lib.hid g7
    clear hr2 row7 gr8 ba7 hb7 gs8 hx5 row5 C5 hb5 hin s23'
    have d1 : (0 : Int) ≤ (m : Int) := by omega
    have d2 : (m : Int) ≤ cr := by omega
    have d3 : (m : Int) ≤ nq := by omega
    by_cases hmc : m = cr
    · go_wp2_with (at_builtin; refine wpList_append_run rfl _ _ _ rfl rfl rfl H2.out ?_; clear H2)
      go_roundw
      case rel => exact ⟨k + 1, l ++ [x], r.drop m, A2, c2, by omega, by go_num, hll2.out, hyes.out, hnil.out (by omega) _, g8.out, row8.out, hb8.out, sz8.out⟩
      case measure => simp [intOf]; omega
    · go_wp2_with (at_builtin; refine wpList_append_run rfl _ _ _ rfl rfl rfl H2.out ?_; clear H2)
      go_roundw
      case rel => exact ⟨k + 1, l ++ [x], r.drop m, A2, c2, by omega, by go_num, hll2.out, hyes.out, hrest2.out, g8.out, row8.out, hb8.out, sz8.out⟩
      case measure => simp [intOf]; omega
end Go.Proofs.YtdaidhbmfocodaaGreat

/-
  The document's answers of layer 8: Read, Node. Conditions: those that each lemma states.
-/
namespace Go.Proofs.YtdaidhbmfocodaaGreat
open Go.RowKit

theorem seen_128 {d : Dk} {k : Nat} (hm : mayB d = true) (hk : k < 256) : (seenD d k).length = 128 := by
  obtain ⟨h1, _, h3, h4⟩ := may_of hm
  unfold seenD
  have e : d.1[k]? = some (d.1[k]'(by omega)) := List.getElem?_eq_getElem _
  refine seenW_length (h3 k _ (by rw [e]; rfl)) fun x hx => ?_
  obtain ⟨i, hi⟩ := List.getElem?_of_mem hx
  exact (h4 i x hi).2.2
set_option maxRecDepth 100000 in
set_option maxHeartbeats 4000000 in
theorem refReadR_ok (v : Value) (s : Rm) (k : Nat) (ha : asE s (k : Int) = 0) (w : World) (h : Sto (Old w) w v s) :
    Calls Tryz.prog 57 #[v, .int .i64 k] w fun e w' => ∃ u, e = .returned (.tuple #[u, .bool (reN (seenD s.1 k) == 0)]) ∧ Nod (New w.heap.size w') w' u (reV (seenD s.1 k)) ∧ Below w.heap.size w w' := by
  obtain ⟨k', hk', hm, h8, h256, -, -, -, -, hx0⟩ := as_read ha
  obtain rfl : k' = k := by omega
  obtain ⟨A, ca, B, cb, N, cn, L, cl, rfl, _, _, _⟩ := h.open
  obtain ⟨w1, hw1, f1, f2, hsz, hB⟩ : ∃ w1, (w.alloc (.cells #[.slice A s.1.1.length ca, .slice B s.1.2.length cb, .slice N s.2.1.length cn, .slice L s.2.2.length cl] 29)).alloc (.cells #[.int .i64 0, .slice none 0 0] 57) = w1 ∧
      w1.heap[w.heap.size]? = some (.cells #[.slice A s.1.1.length ca, .slice B s.1.2.length cb, .slice N s.2.1.length cn, .slice L s.2.2.length cl] 29 (0, 0)) ∧ w1.heap[w.heap.size + 1]? = some (.cells #[.int .i64 0, .slice none 0 0] 57 (0, 0)) ∧ w1.heap.size = w.heap.size + 2 ∧ Below w.heap.size w w1 := by
    refine ⟨_, rfl, alloc_block (heap_alloc_new _ _), ?_, by simp, ((Below.refl _ w).alloc (Nat.le_refl _) _).alloc (by simp) _⟩
    have := heap_alloc_new (w.alloc (.cells #[.slice A s.1.1.length ca, .slice B s.1.2.length cb, .slice N s.2.1.length cn, .slice L s.2.2.length cl] 29)) (.cells #[.int .i64 0, .slice none 0 0] 57)
    rwa [World.size_alloc] at this
  have H := Lib.hid (h.below hB)
  clear h hk'
  obtain ⟨k0, k1, k2, k3, _, kg⟩ := four_cells f1
  obtain ⟨ad, bd, rfl, rfl, hl1, hl2, _, _, had, _, hc⟩ := tables_at hm H.out.parts.2.1 H.out.parts.2.2
  have q1 := (hc k' h256).1
  obtain ⟨x, hx⟩ : ∃ x, s.2.1[k']?.getD 0 = x := ⟨_, rfl⟩
  rw [hx] at q1 hx0
  have t0 := byte_unlike (y := 0) (q := 0) rfl hx0
  have i1 : ¬ (k' : Int) < 8 := by omega
  have i2 : ¬ 256 ≤ (k' : Int) := by omega
  have i3 : k' < s.2.1.length := by omega
  have hk1 : Hid (k' < s.1.1.length) := Lib.hid (by have := (may_of (mayR_of hm).1).1; omega)
  obtain ⟨b, hb⟩ : ∃ b, seenD s.1 k' = b := ⟨_, rfl⟩
  rw [hb]
  obtain ⟨q, hq⟩ : ∃ q, reN b = q := ⟨_, rfl⟩
  obtain ⟨V, hV⟩ : ∃ V, reV b = V := ⟨_, rfl⟩
  rw [hq, hV]
  replace hsz := Lib.hid hsz
  replace f1 := Lib.hid f1
  replace f2 := Lib.hid f2
  replace hx := Lib.hid hx
  replace hl1 := Lib.hid hl1
  replace hl2 := Lib.hid hl2
  replace hb := Lib.hid hb
  replace hq := Lib.hid hq
  replace hV := Lib.hid hV
  clear hc hx0 ha hm
  go_enter Tryz.func57, Tryz.ntmps57
  go_upto_region 1 with fail
  clear hw1
  go_wp2_with fail
  with_reducible refine (refSeen_any _ s.1 k' hk1.out _ H.out.parts.1).mono ?_
  rintro e w2 ⟨u2, rfl, h2, hb2⟩
  rw [hb.out] at h2
  have U2 := Lib.hid (stab_by.old h2 hb2)
  have B2 := Lib.hid (hB.trans (hb2.mono hB.size))
  have F2 := Lib.hid ((hb2.block (w.heap.size + 1) (by rw [hsz.out]; omega)).trans f2.out)
  have s2 : Hid (w.heap.size + 2 ≤ w2.heap.size) := Lib.hid (by have := hb2.size; have := hsz.out; omega)
  clear h2 hb2 k0 k1 k2 k3 kg q1 H
  go_wp2_with fail
  with_reducible refine (refReadN_any _ b _ U2.out).mono ?_
  rintro e w3 ⟨u3, rfl, h3, hb3⟩
  rw [hq.out]
  rw [hV.out] at h3
  obtain ⟨P, pc, rfl, _⟩ := id h3.open
  have F3 := (hb3.block (w.heap.size + 1) (by have := s2.out; omega)).trans F2.out
  obtain ⟨w4, hw4, g4, hs4, hb4⟩ := box_pair' w3 (.int .i64 V.1) (.slice P V.2.length pc) 57
  have F4 := (hb4.block (w.heap.size + 1) (by have := s2.out; have := hb3.size; omega)).trans F3
  have N4 := h3.new (Nat.le_refl _) hb4
  have B4 := B2.out.trans ((hb3.trans (hb4.mono hb3.size)).mono B2.out.size)
  obtain ⟨m0, m1, _, _⟩ := two_cells g4
  obtain ⟨c0, c1, c2, c3⟩ := two_cells F4
  obtain ⟨W9, hW9, g9, gr9, gs9⟩ := put_two (u := .int .i64 V.1) (v := .slice P V.2.length pc) F4
  obtain ⟨n0, n1, _, _⟩ := two_cells g9
  have r2 := s2.out
  have l2 := B2.out.size
  have hfin := Lib.hid (show Nod (New w.heap.size W9) W9 (.agg #[.int .i64 V.1, .slice P V.2.length pc]) V from (N4.grown gr9 (fun q e => by cases e; omega)).new l2 (Below.refl _ _))
  have hB9 := Lib.hid (B4.grown gr9 B4.size (fun q e => by cases e; omega))
  replace F4 := Lib.hid F4
  replace F3 := Lib.hid F3
  replace g4 := Lib.hid g4
  replace g9 := Lib.hid g9
  replace hs4 := Lib.hid hs4
  clear gr9 gs9 N4 h3 hb3 hb4 B4 r2 l2
  go_upto_region 4 with fail
  clear hw4
  go_wp2_with fail
  refine bodyPost_ret (v := .tuple #[.agg #[.int .i64 V.1, .slice P V.2.length pc], .bool (q == 0)]) (by simp [results, Tryz.results57, go_sem, n0, n1]) rfl ?_
  exact ⟨_, rfl, hfin.out, hB9.out⟩

end Go.Proofs.YtdaidhbmfocodaaGreat

/-
  Bytes of the call's own that are turned where they lie; what lies elsewhere stays. Facts on items whose cells lie in a range that does not move. Conditions: those that each lemma states.
-/
namespace Go.Proofs.YtdaidhbmfocodaaGreat
open Go.RowKit

structure Turnt (lo hi : Nat) (w wr : World) : Prop where
  sp : Spoilt lo w wr
  keep : ∀ k, hi ≤ k → wr.heap[k]? = w.heap[k]?
theorem Turnt.refl (lo hi : Nat) (w : World) : Turnt lo hi w w := ⟨Spoilt.refl _ _, fun _ _ => rfl⟩
theorem Turnt.step {lo hi : Nat} {w wr : World} (h : Turnt lo hi w wr) {p : Addr} (hp : lo ≤ p.block) (hp' : p.block < hi) {x : UInt8} (hx : wr.cell? p = some (.int .u8 (x.toNat : Int))) (y : UInt8) : Turnt lo hi w (wr.setCell p (.int .u8 (y.toNat : Int))) :=
  ⟨h.sp.step hp hx y, fun k hk => (Below.heap_setCell wr p _ k (by omega)).trans (h.keep k hk)⟩
theorem Turnt.drew {lo hi : Nat} {w wr : World} (h : Turnt lo hi w wr) : Turnt lo hi w wr.drew := ⟨h.sp.drew, h.keep⟩
theorem Turnt.block {lo hi : Nat} {w wr : World} (h : Turnt lo hi w wr) {k : Nat} (hk : k < lo ∨ hi ≤ k) : wr.heap[k]? = w.heap[k]? := by
  rcases hk with hk | hk
  · exact h.sp.low.block k hk
  · exact h.keep k hk
theorem Turnt.cell {lo hi : Nat} {w wr : World} (h : Turnt lo hi w wr) {p : Addr} (hk : p.block < lo ∨ hi ≤ p.block) : wr.cell? p = w.cell? p := World.cell?_of_block (h.block hk)
/-- Facts whose cells lie in a range that does not move. -/
def OnI (ok : Addr → Prop) (v : Value) (s : It) : World → Prop := fun w => Itm ok w v s
def OnB (ok : Addr → Prop) (v : Value) (xs : List UInt8) : World → Prop := fun w => rBy ok w [v] xs
theorem OnI.old {ok : Addr → Prop} {v : Value} {s : It} {w : World} (h : OnI ok v s w) : Itm (Old w) w v s := Itm.map (fun p _ _ hc => ⟨World.block_lt_of_cell? w p hc, hc⟩) h
theorem OnB.old {ok : Addr → Prop} {v : Value} {xs : List UInt8} {w : World} (h : OnB ok v xs w) : rBy (Old w) w [v] xs := stab_by _ _ _ _ _ _ (fun p _ _ hc => ⟨World.block_lt_of_cell? w p hc, hc⟩) h
/-- Where the bytes of an item of the call's own lie. -/
def In (lo hi : Nat) : Addr → Prop := fun p => lo ≤ p.block ∧ p.block < hi
/-- An item of the call's own whose bytes lie in a range that does not move. -/
def Fz (lo hi : Nat) (w : World) : Addr → Prop := fun p => lo ≤ p.block ∧ p.block < hi ∧ w.frozen? p = false
end Go.Proofs.YtdaidhbmfocodaaGreat

/-
  A bag's facts on nodes; what places tell, plain. Conditions: those that each lemma states.
-/
namespace Go.Proofs.YtdaidhbmfocodaaGreat
open Go.RowKit

theorem bag_node {w w1 : World} {Fs : List (World → Prop)} (h : Bag w Fs) (hb : Below w.heap.size w w1) (a b : Value) : ∃ w', w1.alloc (.cells #[a, b] 57) = w' ∧ Bag w' (Box2 w1.heap.size a b :: Fs) ∧ Below w.heap.size w w' ∧ Below w1.heap.size w1 w' ∧ w1.heap.size < w'.heap.size := by
  obtain ⟨w2, e2, b2, k4, k5⟩ := box_pair' w1 a b 57
  obtain ⟨k1, k2, _, k3⟩ := two_cells b2
  exact ⟨w2, e2, ((h.below hb).below k5).add ⟨k1, k2, k3⟩ (lasts_box _ _ _), hb.trans (k5.mono hb.size), k5, by omega⟩
def OldN (v : Value) (n : Nd) : World → Prop := fun w => Nod (Old w) w v n
theorem lasts_oldN (v : Value) (n : Nd) : Lasts (OldN v n) := fun _ _ h hb => h.below hb
def OldIs (v : Value) (l : List It) : World → Prop := fun w => rIts (Old w) w [v] l
theorem lasts_oldIs (v : Value) (l : List It) : Lasts (OldIs v l) := fun _ _ h hb => stab_its.old h hb

/-! ### Places -/
end Go.Proofs.YtdaidhbmfocodaaGreat

/-
  slices.Chunk at a slice of 256 bytes, in parts of 128. Conditions: those that each lemma states.
-/
namespace Go.Proofs.YtdaidhbmfocodaaGreat
open Go.RowKit Go.Shelf
attribute [local go_sem] Oper.semAt_some

/-- What a round keeps: all that lay below block n₀, and the two boxes from Bs on. -/
def Keeps2 (n₀ Bs : Nat) (A B : World) : Prop := Below n₀ A B ∧ B.cell? ⟨Bs, 0, none⟩ = A.cell? ⟨Bs, 0, none⟩ ∧ B.cell? ⟨Bs + 1, 0, none⟩ = A.cell? ⟨Bs + 1, 0, none⟩
theorem Keeps2.trans {n₀ Bs : Nat} {A B C : World} (h : Keeps2 n₀ Bs A B) (h' : Keeps2 n₀ Bs B C) : Keeps2 n₀ Bs A C := ⟨h.1.trans h'.1, h'.2.1.trans h.2.1, h'.2.2.trans h.2.2⟩
theorem Keeps2.refl (n₀ Bs : Nat) (A : World) : Keeps2 n₀ Bs A A := ⟨Below.refl _ _, rfl, rfl⟩
theorem Keeps2.below {n₀ Bs : Nat} {A B : World} (h : Below n₀ A B) (hB : Bs + 1 < n₀) : Keeps2 n₀ Bs A B := ⟨h, h.cell (p := ⟨Bs, 0, none⟩) (by show Bs < n₀; omega), h.cell (p := ⟨Bs + 1, 0, none⟩) hB⟩
end Go.Proofs.YtdaidhbmfocodaaGreat

/-
  Package count: Write, which ranges over slices.Chunk. Conditions: those that each lemma states.
-/
namespace Go.Proofs.YtdaidhbmfocodaaGreat
open Go.RowKit Go.Shelf
attribute [local go_sem] Oper.semAt_some

/-! ### The two writes, plain -/
theorem block_kept {W W' : World} {row : Option Nat} {g : Nat} {cs : Array Value} {t : TypeId} (h : W.heap[g]? = some (.cells cs t (0, 0))) (hg : W.grownBy W' row) (hrow : ∀ r, row = some r → ∃ o : Obj, W.heap[r]? = some o ∧ o.isCells = false) : W'.heap[g]? = some (.cells cs t (0, 0)) :=
  (grownBy_keeps_cells hg hrow h rfl).trans h
end Go.Proofs.YtdaidhbmfocodaaGreat

/-
  The document's answers of layer 8: Taken. Conditions: those that each lemma states.
-/
namespace Go.Proofs.YtdaidhbmfocodaaGreat
open Go.RowKit

/-- Cells that lie there, but not in block g. -/
def Off (g : Nat) (w : World) : Addr → Prop := fun p => p.block < w.heap.size ∧ p.block ≠ g
theorem off_put {g : Nat} {W W1 : World} {p : Addr} {v : Value} (gr : W.grownBy W1 (some g)) (hp : Off g W p) (hc : W.cell? p = some v) : Off g W1 p ∧ W1.cell? p = some v :=
  ⟨⟨Nat.lt_of_lt_of_le hp.1 gr.size, hp.2⟩, (World.cell?_of_block (gr.block _ hp.1 (by simpa using hp.2))).trans hc⟩
end Go.Proofs.YtdaidhbmfocodaaGreat

/-
  Trees that stay where other blocks are taken, or counts rise; plain. Conditions: those that each lemma states.
-/
namespace Go.Proofs.YtdaidhbmfocodaaGreat
open Go.RowKit

theorem its_mem {f : Int → Ky → Ky → Bool → Bool} : ∀ {l : List It} {tb : Ky} {e : Bool}, itsO f l tb e = true → ∀ x ∈ l, ∃ t e, f x.2.1 x.1 t e = true
  | [], _, _, _, x, hx => by simp at hx
  | y :: r, tb, e, hf, x, hx => by
    rw [its_cons, Bool.and_eq_true] at hf
    rcases List.mem_cons.1 hx with rfl | hx
    · exact ⟨_, _, hf.1⟩
    · exact its_mem hf.2 x hx
end Go.Proofs.YtdaidhbmfocodaaGreat

/-
  Trees by their first and last keys, plain: which may be. Conditions: those that each lemma states.
-/
namespace Go.Proofs.YtdaidhbmfocodaaGreat
open Go.RowKit

/-- Parts side by side: each begins at its item's key and ends ahead of the next one's. -/
def chainO (g : Int → Option (Ky × Ky)) : List It → Option (Ky × Ky)
  | [] => none
  | [x] => (g x.2.1).bind fun p => if p.1 = x.1 then some p else none
  | x :: y :: r => (g x.2.1).bind fun p => (chainO g (y :: r)).bind fun q => if p.1 = x.1 ∧ lessK p.2 y.1 = true then some (p.1, q.2) else none
/-- The first key and the last one of a part of a tree that may be. -/
noncomputable def spanO (s : Rm) : Nat → Int → Option (Ky × Ky)
  | 0, a => if rmE s a = 0 ∧ (rmV s a).1 = 0 ∧ leafO s (rmV s a).2 = true then ((rmV s a).2[0]?).bind fun x => ((rmV s a).2.getLast?).map fun y => (x.1, y.1) else none
  | l + 1, a => if rmE s a = 0 ∧ (rmV s a).1 = ((l + 1 : Nat) : Int) then chainO (spanO s l) (rmV s a).2 else none

def LeK (a b : Ky) : Prop := a = b ∨ lessK a b = true
theorem LeK.lt {a b c : Ky} (h : LeK a b) (h' : lessK b c = true) : lessK a c = true := h.elim (fun e => by rw [e]; exact h') fun h => less_trans h h'
theorem LeK.trans {a b c : Ky} (h : LeK a b) (h' : LeK b c) : LeK a c := h'.elim (fun e => e ▸ h) fun h' => .inr (h.lt h')
theorem chain_first {g : Int → Option (Ky × Ky)} (hg : ∀ a p, g a = some p → LeK p.1 p.2) : ∀ {l : List It} {p : Ky × Ky}, chainO g l = some p → LeK p.1 p.2 ∧ ∃ x r, l = x :: r ∧ p.1 = x.1
  | [], _, h => by cases h
  | [x], p, h => by
    unfold chainO at h
    cases hx : g x.2.1 with
    | none => rw [hx] at h; cases h
    | some q =>
      rw [hx] at h
      have h' : (if q.1 = x.1 then some q else none) = some p := h
      split at h'
      · rename_i e
        cases h'
        exact ⟨hg _ _ hx, x, [], rfl, e⟩
      · cases h'
  | x :: y :: r, p, h => by
    unfold chainO at h
    cases hx : g x.2.1 with
    | none => rw [hx] at h; cases h
    | some q =>
      rw [hx] at h
      cases hc : chainO g (y :: r) with
      | none => rw [hc] at h; cases h
      | some q' =>
        rw [hc] at h
        have h' : (if q.1 = x.1 ∧ lessK q.2 y.1 = true then some (q.1, q'.2) else none) = some p := h
        obtain ⟨i1, y', r', e', i2⟩ := chain_first hg hc
        cases e'
        split at h'
        · rename_i e
          cases h'
          refine ⟨.inr ?_, x, y :: r, rfl, e.1⟩
          have h1 : lessK q.1 y.1 = true := (hg _ _ hx).lt e.2
          rw [← i2] at h1
          exact i1.elim (fun e => e ▸ h1) fun h2 => less_trans h1 h2
        · cases h'
theorem span_le (s : Rm) : ∀ (l : Nat) (a : Int) (p : Ky × Ky), spanO s l a = some p → LeK p.1 p.2
  | 0, a, p, h => by
    unfold spanO at h
    split at h
    · rename_i hc
      have hu := up_may (rm_may hc.1).1
      cases hl : (rmV s a).2 with
      | nil => rw [hl] at h; cases h
      | cons x r =>
        rw [hl] at h hu
        cases hz : (x :: r).getLast? with
        | none => rw [hz] at h; cases h
        | some z =>
          rw [hz] at h
          cases h
          rcases up_first hu z (List.mem_of_getLast? hz) with e | e
          · exact .inl e.symm
          · exact .inr e
    · cases h
  | l + 1, a, p, h => by
    unfold spanO at h
    split at h
    · exact (chain_first (span_le s l) h).1
    · cases h
theorem its_chain {f : Int → Ky → Ky → Bool → Bool} {g : Int → Option (Ky × Ky)} (hle : ∀ a p, g a = some p → LeK p.1 p.2) (hfg : ∀ a k tb e, f a k tb e = true ↔ ∃ t, g a = some (k, t) ∧ (e = true → lessK t tb = true)) : ∀ (l : List It) (tb : Ky) (e : Bool), l ≠ [] →
    (itsO f l tb e = true ↔ ∃ p, chainO g l = some p ∧ (e = true → lessK p.2 tb = true))
  | [], _, _, h => absurd rfl h
  | [x], tb, e, _ => by
    show f x.2.1 x.1 tb e = true ↔ _
    rw [hfg]
    unfold chainO
    constructor
    · rintro ⟨t, h1, h2⟩
      exact ⟨(x.1, t), by rw [h1]; simp, h2⟩
    · rintro ⟨p, h1, h2⟩
      cases hx : g x.2.1 with
      | none => rw [hx] at h1; cases h1
      | some q =>
        rw [hx] at h1
        have h' : (if q.1 = x.1 then some q else none) = some p := h1
        split at h'
        · rename_i e1
          cases h'
          exact ⟨p.2, by rw [← e1], h2⟩
        · cases h'
  | x :: y :: r, tb, e, _ => by
    have ih := its_chain hle hfg (y :: r) tb e (by simp)
    show (f x.2.1 x.1 y.1 true && itsO f (y :: r) tb e) = true ↔ _
    rw [Bool.and_eq_true, hfg, ih]
    constructor
    · rintro ⟨⟨t, h1, h2⟩, p, h3, h4⟩
      refine ⟨(x.1, p.2), ?_, h4⟩
      unfold chainO
      rw [h1, h3]
      simp [h2 rfl]
    · rintro ⟨p, h1, h2⟩
      unfold chainO at h1
      cases hx : g x.2.1 with
      | none => rw [hx] at h1; cases h1
      | some q =>
        rw [hx] at h1
        cases hc : chainO g (y :: r) with
        | none => rw [hc] at h1; cases h1
        | some q' =>
          rw [hc] at h1
          have h' : (if q.1 = x.1 ∧ lessK q.2 y.1 = true then some (q.1, q'.2) else none) = some p := h1
          split at h'
          · rename_i e1
            cases h'
            exact ⟨⟨q.2, by rw [← e1.1], fun _ => e1.2⟩, q', rfl, h2⟩
          · cases h'
/-- A part of a tree that may be, by its first key and its last one. -/
theorem right_span (s : Rm) : ∀ (l : Nat) (a : Int) (k tb : Ky) (e : Bool), rightO s l a k tb e = true ↔ ∃ t, spanO s l a = some (k, t) ∧ (e = true → lessK t tb = true)
  | 0, a, k, tb, e => by
    constructor
    · intro h
      obtain ⟨h1, h2, h3, h4⟩ := right_of h
      obtain ⟨x, r, hl, ek, hz⟩ := head_of h3
      obtain ⟨z, hz1⟩ : ∃ z, (rmV s a).2.getLast? = some z := by
        rw [hl]
        exact ⟨_, List.getLast?_eq_some_getLast (by simp)⟩
      refine ⟨z.1, ?_, fun he => ?_⟩
      · unfold spanO
        rw [if_pos ⟨h1, h2, h4⟩, hz1, show (rmV s a).2[0]? = some x by rw [hl]; rfl, ← ek]
        rfl
      · obtain ⟨z', e1, e2⟩ := hz he
        rw [hz1] at e1
        cases e1
        exact e2
    · rintro ⟨t, h1, h2⟩
      unfold spanO at h1
      split at h1
      · rename_i hc
        unfold rightO
        cases hx : (rmV s a).2[0]? with
        | none => rw [hx] at h1; cases h1
        | some x =>
          cases hz : (rmV s a).2.getLast? with
          | none => rw [hx, hz] at h1; cases h1
          | some z =>
            rw [hx, hz] at h1
            have h1' : (some (x.1, z.1) : Option (Ky × Ky)) = some (k, t) := h1
            simp only [Option.some.injEq, Prod.mk.injEq] at h1'
            have hh : headO (rmV s a).2 k tb e = true := by
              unfold headO
              rw [hx, hz]
              cases e with
              | false => simp [h1'.1]
              | true => simp [h1'.1, h1'.2, h2 rfl]
            rw [hc.1, hc.2.1, hc.2.2, hh]
            decide
      · cases h1
  | l + 1, a, k, tb, e => by
    have hc := its_chain (span_le s l) (fun a k tb e => right_span s l a k tb e) (rmV s a).2 tb e
    constructor
    · intro h
      obtain ⟨h1, h2, h3, h4⟩ := right_of h
      obtain ⟨x, r, hl, ek, _⟩ := head_of h3
      obtain ⟨p, hp, hb⟩ := (hc (by rw [hl]; simp)).1 h4
      obtain ⟨_, x', r', e', hf⟩ := chain_first (span_le s l) hp
      rw [hl] at e'
      cases e'
      refine ⟨p.2, ?_, hb⟩
      unfold spanO
      rw [if_pos ⟨h1, h2⟩, hp, ← ek, ← hf]
    · rintro ⟨t, h1, h2⟩
      unfold spanO at h1
      split at h1
      · rename_i hcond
        obtain ⟨_, x, r, hl, hf⟩ := chain_first (span_le s l) h1
        have hi := (hc (by rw [hl]; simp)).2 ⟨(k, t), h1, h2⟩
        have hh : headO (rmV s a).2 k tb e = true := by
          cases e with
          | false =>
            unfold headO
            rw [hl]
            simp [← hf]
          | true =>
            obtain ⟨x', r', e', hp⟩ := part_its (right_part s l) (rmV s a).2 tb true (by rw [hl]; simp) hi
            obtain ⟨z, hz1⟩ : ∃ z, (rmV s a).2.getLast? = some z := by
              rw [hl]
              exact ⟨_, List.getLast?_eq_some_getLast (by simp)⟩
            -- the last item's own part begins at its key, ahead of the bound
            obtain ⟨t', e2, hf2⟩ := its_mem hi z (List.mem_of_getLast? hz1)
            obtain ⟨y, r2, ey, ky⟩ := (right_part s l _ _ _ _ hf2).first
            have hy := hp.bound rfl y (List.mem_flatMap.2 ⟨z, List.mem_of_getLast? hz1, by rw [ey]; simp⟩)
            rw [ky] at hy
            unfold headO
            rw [hz1, show (rmV s a).2[0]? = some x by rw [hl]; rfl]
            simp [← hf, hy]
        unfold rightO
        rw [hcond.1, hcond.2, hh, hi]
        simp
      · cases h1
/-- Which trees may be: a leaf, or parts side by side. -/
theorem tree_span (s : Rm) (a : Int) : treeO s a = true ↔ rmE s a = 0 ∧ (match (rmV s a).1.toNat with | 0 => leafO s (rmV s a).2 = true | l + 1 => ∃ p, chainO (spanO s l) (rmV s a).2 = some p) := by
  constructor
  · intro h
    obtain ⟨h1, _, hm, l0, _, hi⟩ := tree_of h
    refine ⟨h1, ?_⟩
    unfold innerO at hi
    cases hl : (rmV s a).1.toNat with
    | zero => rw [hl] at hi; exact hi
    | succ l =>
      rw [hl] at hi
      have hne : (rmV s a).2 ≠ [] := fun e => by
        have := (mayN_of hm).1.2.2.2 (by omega)
        rw [e] at this
        simp at this
      obtain ⟨p, hp, _⟩ := (its_chain (span_le s l) (fun a k tb e => right_span s l a k tb e) _ keyZ false hne).1 hi
      exact ⟨p, hp⟩
  · rintro ⟨h1, h2⟩
    unfold treeO
    rw [h1]
    unfold innerO
    cases hl : (rmV s a).1.toNat with
    | zero => rw [hl] at h2; simp only [h2]; rfl
    | succ l =>
      rw [hl] at h2
      obtain ⟨p, hp⟩ := h2
      obtain ⟨_, x, r, e, _⟩ := chain_first (span_le s l) hp
      have := (its_chain (span_le s l) (fun a k tb e => right_span s l a k tb e) (rmV s a).2 keyZ false (by rw [e]; simp)).2 ⟨p, hp, fun h => by cases h⟩
      simp only [this]
      rfl
end Go.Proofs.YtdaidhbmfocodaaGreat

/-
  What is found, as package find and the document go down; parts of a tree by its node; plain. Conditions: those that each lemma states.
-/
namespace Go.Proofs.YtdaidhbmfocodaaGreat
open Go.RowKit

/-! ### From the last one on -/
/-! ### A node of a tree -/
structure AtT (s : Rm) (l : Nat) (a : Int) : Prop where
  ok : rmE s a = 0
  lvl : (rmV s a).1 = (l : Int)
  below : ∀ j, l = j + 1 → ∀ x ∈ (rmV s a).2, ∃ t e, rightO s j x.2.1 x.1 t e = true
theorem AtT.may {s : Rm} {l : Nat} {a : Int} (h : AtT s l a) : mayN (rmV s a) = true := (rm_may h.ok).1
theorem right_at {s : Rm} {l : Nat} {a : Int} {k tb : Ky} {e : Bool} (h : rightO s l a k tb e = true) : AtT s l a := by
  obtain ⟨h1, h2, _, h4⟩ := right_of h
  refine ⟨h1, h2, fun j hj x hx => ?_⟩
  subst hj
  exact its_mem h4 x hx
theorem AtT.down {s : Rm} {j : Nat} {a : Int} (h : AtT s (j + 1) a) {x : It} (hx : x ∈ (rmV s a).2) : AtT s j x.2.1 := by
  obtain ⟨t, e, hr⟩ := h.below j rfl x hx
  exact right_at hr
theorem tree_at {s : Rm} {a : Int} (h : treeO s a = true) : AtT s (rmV s a).1.toNat a := by
  obtain ⟨h1, _, _, l0, _, hi⟩ := tree_of h
  refine ⟨h1, by omega, fun j hj x hx => ?_⟩
  unfold innerO at hi
  rw [hj] at hi
  exact its_mem hi x hx
/-! ### Parts by their nodes -/
noncomputable def spanN (s : Rm) (n : Nd) : Option (Ky × Ky) := match n.1.toNat with
  | 0 => if leafO s n.2 = true then (n.2[0]?).bind fun x => (n.2.getLast?).map fun y => (x.1, y.1) else none
  | l + 1 => chainO (spanO s l) n.2
theorem span_node (s : Rm) (l : Nat) (a : Int) : spanO s l a = if rmE s a = 0 ∧ (rmV s a).1 = (l : Int) then spanN s (rmV s a) else none := by
  cases l with
  | zero =>
    unfold spanO
    by_cases h1 : rmE s a = 0 ∧ (rmV s a).1 = ((0 : Nat) : Int)
    · rw [if_pos h1]
      unfold spanN
      rw [h1.2]
      by_cases h2 : leafO s (rmV s a).2 = true
      · rw [if_pos ⟨h1.1, rfl, h2⟩]
        show _ = if leafO s (rmV s a).2 = true then _ else none
        rw [if_pos h2]
      · rw [if_neg (fun h => h2 h.2.2)]
        show _ = if leafO s (rmV s a).2 = true then _ else none
        rw [if_neg h2]
    · rw [if_neg h1, if_neg (fun h => h1 ⟨h.1, h.2.1⟩)]
  | succ l =>
    unfold spanO
    by_cases h1 : rmE s a = 0 ∧ (rmV s a).1 = ((l + 1 : Nat) : Int)
    · rw [if_pos h1, if_pos h1]
      unfold spanN
      rw [h1.2, show ((l + 1 : Nat) : Int).toNat = l + 1 by omega]
    · rw [if_neg h1, if_neg h1]
theorem span_zero {s : Rm} {n : Nd} {x y : It} {j : Nat} (h : n.1 = 0) (hx : n.2[0]? = some x) (hj : n.2.length = j + 1) (hy : n.2[j]? = some y) : spanN s n = if leafO s n.2 = true then some (x.1, y.1) else none := by
  have hl : n.2.getLast? = some y := by rw [List.getLast?_eq_getElem?, hj]; exact hy
  unfold spanN
  rw [h]
  show (if leafO s n.2 = true then _ else none) = _
  rw [hx, hl]
  rfl
theorem span_succ {s : Rm} {n : Nd} {l : Nat} (h : n.1 = ((l + 1 : Nat) : Int)) : spanN s n = chainO (spanO s l) n.2 := by
  unfold spanN
  rw [h, show ((l + 1 : Nat) : Int).toNat = l + 1 by omega]
/-- The first one. -/
theorem chain_one {g : Int → Option (Ky × Ky)} {l : List It} {x : It} (hx : l[0]? = some x) : chainO g (l.take 1) = (g x.2.1).bind fun p => if p.1 = x.1 then some p else none := by
  cases l with
  | nil => cases hx
  | cons y r =>
    cases hx
    rfl
theorem chain_app {g : Int → Option (Ky × Ky)} (x : It) : ∀ (l : List It), l ≠ [] → chainO g (l ++ [x]) = (chainO g l).bind fun q => (g x.2.1).bind fun p => if p.1 = x.1 ∧ lessK q.2 x.1 = true then some (q.1, p.2) else none
  | [], h => absurd rfl h
  | [y], _ => by
    show (g y.2.1).bind _ = _
    unfold chainO
    cases g y.2.1 with
    | none => rfl
    | some p =>
      show ((chainO g [x]).bind _) = ((if p.1 = y.1 then some p else none) : Option (Ky × Ky)).bind _
      unfold chainO
      cases g x.2.1 with
      | none =>
        by_cases h1 : p.1 = y.1 <;> simp [h1]
      | some q =>
        by_cases h1 : p.1 = y.1 <;> by_cases h2 : q.1 = x.1 <;> by_cases h3 : lessK p.2 x.1 = true <;> simp [h1, h2, h3]
  | y :: z :: r, _ => by
    have ih := chain_app (g := g) x (z :: r) (by simp)
    show (g y.2.1).bind (fun p => (chainO g (z :: r ++ [x])).bind _) = _
    rw [ih]
    conv => rhs; unfold chainO
    cases g y.2.1 with
    | none => rfl
    | some p =>
      cases chainO g (z :: r) with
      | none => rfl
      | some q =>
        cases g x.2.1 with
        | none =>
          by_cases h1 : p.1 = y.1 ∧ lessK p.2 z.1 = true <;> simp [h1]
        | some q' =>
          by_cases h1 : p.1 = y.1 ∧ lessK p.2 z.1 = true <;> by_cases h2 : q'.1 = x.1 ∧ lessK q.2 x.1 = true <;> simp [h1, h2]
theorem chain_take {g : Int → Option (Ky × Ky)} {l : List It} {k : Nat} {x : It} (hx : l[k]? = some x) (hk : 0 < k) : chainO g (l.take (k + 1)) = (chainO g (l.take k)).bind fun q => (g x.2.1).bind fun p => if p.1 = x.1 ∧ lessK q.2 x.1 = true then some (q.1, p.2) else none := by
  have hl := (List.getElem?_eq_some_iff.1 hx).1
  have hg : l[k] = x := (List.getElem?_eq_some_iff.1 hx).2
  rw [← List.take_append_getElem hl, hg]
  exact chain_app x _ fun e => by
    have h0 : (l.take k).length = 0 := by rw [e]; rfl
    rw [List.length_take] at h0
    omega
theorem chain_bad {g : Int → Option (Ky × Ky)} {l : List It} : ∀ {k : Nat}, 0 < k → chainO g (l.take k) = none → chainO g l = none := fun {k} hk h => by
  induction hn : l.length - k generalizing k with
  | zero => rwa [List.take_of_length_le (by omega)] at h
  | succ n ih =>
    obtain ⟨x, hx⟩ : ∃ x, l[k]? = some x := ⟨_, List.getElem?_eq_getElem (by omega)⟩
    exact ih (k := k + 1) (by omega) (by rw [chain_take hx hk, h]; rfl) (by omega)
/-- The first key of a chain. -/
theorem chain_key {g : Int → Option (Ky × Ky)} {l : List It} {x : It} (hx : l[0]? = some x) : ∀ {k : Nat} {q : Ky × Ky}, 0 < k → k ≤ l.length → chainO g (l.take k) = some q → q.1 = x.1 := fun {k} {q} hk hl h => by
  induction k generalizing q with
  | zero => omega
  | succ k ih =>
    by_cases h0 : k = 0
    · subst h0
      rw [chain_one hx] at h
      cases hg : g x.2.1 with
      | none => rw [hg] at h; cases h
      | some p =>
        rw [hg] at h
        have h' : (if p.1 = x.1 then some p else none) = some q := h
        split at h'
        · rename_i e; cases h'; exact e
        · cases h'
    · obtain ⟨y, hy⟩ : ∃ y, l[k]? = some y := ⟨_, List.getElem?_eq_getElem (by omega)⟩
      rw [chain_take hy (by omega)] at h
      cases hc : chainO g (l.take k) with
      | none => rw [hc] at h; cases h
      | some q' =>
        have e := ih (by omega) (by omega) hc
        rw [hc] at h
        cases hg : g y.2.1 with
        | none => rw [hg] at h; cases h
        | some p =>
          rw [hg] at h
          have h' : (if p.1 = y.1 ∧ lessK q'.2 y.1 = true then some (q'.1, p.2) else none) = some q := h
          split at h'
          · cases h'; exact e
          · cases h'
/-- Which trees may be, as package find tells it. -/
noncomputable def standsN (s : Rm) (n : Nd) : Bool := decide (n.2.length = 0) || (spanN s n).isSome
theorem stands_tree {s : Rm} {a : Int} (h : rmE s a = 0) : standsN s (rmV s a) = treeO s a := by
  have hm := (rm_may h).1
  have hsh := (mayN_of hm).1
  have e : treeO s a = true ↔ standsN s (rmV s a) = true := by
    rw [tree_span]
    unfold standsN
    rw [Bool.or_eq_true, decide_eq_true_eq]
    cases hl : (rmV s a).1.toNat with
    | zero =>
      have h0 : (rmV s a).1 = 0 := by omega
      simp only
      by_cases hz : (rmV s a).2.length = 0
      · have : (rmV s a).2 = [] := List.eq_nil_of_length_eq_zero hz
        rw [this]
        simp [h, leafO]
      · obtain ⟨j, hj⟩ : ∃ j, (rmV s a).2.length = j + 1 := ⟨(rmV s a).2.length - 1, by omega⟩
        obtain ⟨x, hx⟩ : ∃ x, (rmV s a).2[0]? = some x := ⟨_, List.getElem?_eq_getElem (by omega)⟩
        obtain ⟨y, hy⟩ : ∃ y, (rmV s a).2[j]? = some y := ⟨_, List.getElem?_eq_getElem (by omega)⟩
        rw [span_zero h0 hx hj hy]
        by_cases h2 : leafO s (rmV s a).2 = true <;> simp [h, h2, hz]
    | succ l =>
      have h1 : (rmV s a).1 = ((l + 1 : Nat) : Int) := by omega
      have hz : ¬ (rmV s a).2.length = 0 := by have := hsh.2.2.2 (by omega); omega
      rw [span_succ h1]
      simp only
      constructor
      · rintro ⟨_, p, hp⟩
        rw [hp]
        exact .inr rfl
      · rintro (h3 | h3)
        · exact absurd h3 hz
        · exact ⟨h, Option.isSome_iff_exists.1 h3⟩
  cases h1 : treeO s a with
  | true => exact e.1 h1
  | false =>
    cases h2 : standsN s (rmV s a) with
    | false => rfl
    | true => rw [e.2 h2] at h1; cases h1
end Go.Proofs.YtdaidhbmfocodaaGreat

/-
  Items between two keys, and the blocks of trees, plain. Conditions: those that each lemma states.
-/
namespace Go.Proofs.YtdaidhbmfocodaaGreat
open Go.RowKit

/-! ### Between two keys -/
def betw (f t : Ky) (x : It) : Bool := !lessK x.1 f && !lessK t x.1
noncomputable def rangeO (s : Rm) (a : Int) (f t : Ky) : List It := (allO s a).filter (betw f t)
noncomputable def raV (s : Rm) (a : Int) (f t : Ky) : List It := if ckE s a = 0 then rangeO s a f t else []
theorem filter_none {p : It → Bool} {L : List It} (h : ∀ x ∈ L, p x = false) : L.filter p = [] := by
  rw [List.filter_eq_nil_iff]
  intro x hx
  rw [h x hx]
  simp
/-! ### The blocks of a tree -/
noncomputable def nodesT (s : Rm) : Nat → Int → List Int
  | 0, a => [a]
  | l + 1, a => a :: (rmV s a).2.flatMap fun x => nodesT s l x.2.1
noncomputable def refsT (s : Rm) : Nat → Int → List Int
  | 0, a => ((rmV s a).2.map fun x => x.2.1).filter fun r => decide (r ≠ 0)
  | l + 1, a => (rmV s a).2.flatMap fun x => refsT s l x.2.1
noncomputable def nodesO (s : Rm) (a : Int) : List Int := nodesT s (rmV s a).1.toNat a
noncomputable def refsO (s : Rm) (a : Int) : List Int := refsT s (rmV s a).1.toNat a
/-- The places that are met, rising, each once. -/
def markO (L : List Int) : List Nat := (List.range 256).filter fun k => decide ((k : Int) ∈ L)
theorem mark_up (L : List Int) : (markO L).Pairwise (· < ·) := List.Pairwise.filter _ List.pairwise_lt_range
theorem mark_in {L : List Int} {k : Nat} : k ∈ markO L ↔ k < 256 ∧ (k : Int) ∈ L := by
  unfold markO
  rw [List.mem_filter, List.mem_range, decide_eq_true_eq]
/-- What a part of a tree tells of its blocks. -/
structure Blk (s : Rm) (l : Nat) (a : Int) (N R : List Int) : Prop where
  root : a ∈ N
  node : ∀ n ∈ N, rmE s n = 0
  sub : ∀ n ∈ N, ∀ x ∈ (rmV s n).2, ((rmV s n).1 ≠ 0 → x.2.1 ∈ N) ∧ ((rmV s n).1 = 0 → x.2.1 ≠ 0 → x.2.1 ∈ R)
  held : ∀ r ∈ R, r ≠ 0 ∧ s.2.1[r.toNat]?.getD 0 ≠ 0 ∧ 8 ≤ r ∧ r < 256
theorem leaf_in {s : Rm} {l : List It} (h : leafO s l = true) {x : It} (hx : x ∈ l) : x.2.1 = 0 ∨ s.2.1[x.2.1.toNat]?.getD 0 ≠ 0 := by
  unfold leafO at h
  rw [List.all_eq_true] at h
  have := h x hx
  simpa using this
theorem may_ref {n : Nd} (h : mayN n = true) {x : It} (hx : x ∈ n.2) : x.2.1 = 0 ∨ (8 ≤ x.2.1 ∧ x.2.1 < 256) := by
  obtain ⟨i, hi⟩ := List.getElem?_of_mem hx
  exact (mayI_of (okP_may (mayN_item h hi))).1
theorem leaf_blk {s : Rm} {a : Int} (h1 : rmE s a = 0) (h2 : (rmV s a).1 = 0) (h3 : leafO s (rmV s a).2 = true) : Blk s 0 a (nodesT s 0 a) (refsT s 0 a) := by
  have hm := (rm_may h1).1
  refine ⟨by simp [nodesT], fun n hn => ?_, fun n hn x hx => ?_, fun r hr => ?_⟩
  · simp only [nodesT, List.mem_singleton] at hn
    subst hn
    exact h1
  · simp only [nodesT, List.mem_singleton] at hn
    subst hn
    refine ⟨fun h => absurd h2 h, fun _ h0 => ?_⟩
    simp only [refsT, List.mem_filter, List.mem_map, decide_eq_true_eq]
    exact ⟨⟨x, hx, rfl⟩, h0⟩
  · simp only [refsT, List.mem_filter, List.mem_map, decide_eq_true_eq] at hr
    obtain ⟨⟨x, hx, rfl⟩, h0⟩ := hr
    rcases may_ref hm hx with e | e
    · exact absurd e h0
    · rcases leaf_in h3 hx with e' | e'
      · exact absurd e' h0
      · exact ⟨h0, e', e.1, e.2⟩
theorem up_blk {s : Rm} {l : Nat} {a : Int} (h1 : rmE s a = 0) (h2 : (rmV s a).1 = ((l + 1 : Nat) : Int)) (h3 : ∀ x ∈ (rmV s a).2, Blk s l x.2.1 (nodesT s l x.2.1) (refsT s l x.2.1)) : Blk s (l + 1) a (nodesT s (l + 1) a) (refsT s (l + 1) a) := by
  refine ⟨by simp [nodesT], fun n hn => ?_, fun n hn x hx => ?_, fun r hr => ?_⟩
  · simp only [nodesT, List.mem_cons, List.mem_flatMap] at hn
    rcases hn with rfl | ⟨y, hy, hn⟩
    · exact h1
    · exact (h3 y hy).node n hn
  · simp only [nodesT, List.mem_cons, List.mem_flatMap] at hn ⊢
    simp only [refsT, List.mem_flatMap]
    rcases hn with rfl | ⟨y, hy, hn⟩
    · exact ⟨fun _ => .inr ⟨x, hx, (h3 x hx).root⟩, fun h => by rw [h2] at h; omega⟩
    · obtain ⟨e1, e2⟩ := (h3 y hy).sub n hn x hx
      exact ⟨fun h => .inr ⟨y, hy, e1 h⟩, fun h h' => ⟨y, hy, e2 h h'⟩⟩
  · simp only [refsT, List.mem_flatMap] at hr
    obtain ⟨y, hy, hr⟩ := hr
    exact (h3 y hy).held r hr
theorem right_blk (s : Rm) : ∀ (l : Nat) (a : Int) (k tb : Ky) (e : Bool), rightO s l a k tb e = true → Blk s l a (nodesT s l a) (refsT s l a)
  | 0, a, k, tb, e, h => by
    obtain ⟨h1, h2, _, h4⟩ := right_of h
    exact leaf_blk h1 h2 h4
  | l + 1, a, k, tb, e, h => by
    obtain ⟨h1, h2, _, h4⟩ := right_of h
    exact up_blk h1 h2 fun x hx => by
      obtain ⟨t', e', hf⟩ := its_mem h4 x hx
      exact right_blk s l _ _ _ _ hf
theorem tree_blk {s : Rm} {a : Int} (h : treeO s a = true) : Blk s (rmV s a).1.toNat a (nodesO s a) (refsO s a) := by
  obtain ⟨h1, _, _, l0, _, hi⟩ := tree_of h
  unfold nodesO refsO
  unfold innerO at hi
  cases hl : (rmV s a).1.toNat with
  | zero =>
    rw [hl] at hi
    exact leaf_blk h1 (by omega) hi
  | succ l =>
    rw [hl] at hi
    exact up_blk h1 (by omega) fun x hx => by
      obtain ⟨t', e', hf⟩ := its_mem hi x hx
      exact right_blk s l _ _ _ _ hf
/-- A node's block is one of those that may be taken, and is counted. -/
theorem node_place {s : Rm} {n : Int} (h : rmE s n = 0) : 8 ≤ n ∧ n < 256 ∧ s.2.1[n.toNat]?.getD 0 ≠ 0 := by
  obtain ⟨k, rfl, _, h8, h256, _, _, _, _, hx⟩ := as_read (rm_may h).2
  exact ⟨by omega, by omega, by rw [show ((k : Int)).toNat = k by omega]; exact hx⟩
end Go.Proofs.YtdaidhbmfocodaaGreat

/-
  No block of a tree is met twice; marks; plain. Conditions: those that each lemma states.
-/
namespace Go.Proofs.YtdaidhbmfocodaaGreat
open Go.RowKit

/-- The first key of a node. -/
noncomputable def fkN (s : Rm) (n : Int) : Option Ky := ((rmV s n).2[0]?).map (·.1)
theorem LeK.not_less {a b : Ky} (h : LeK a b) : lessK b a = false := by
  rcases h with rfl | h
  · exact less_self _
  · exact less_anti h
/-- What the blocks of a part have: first keys from its own on, ahead of a bound; levels. -/
structure Nds (s : Rm) (l : Nat) (N : List Int) (k tb : Ky) (e : Bool) : Prop where
  key : ∀ n ∈ N, ∃ f, fkN s n = some f ∧ LeK k f ∧ (e = true → lessK f tb = true)
  lvl : ∀ n ∈ N, (rmV s n).1 ≤ (l : Int)
  once : N.Nodup
theorem its_nds {s : Rm} {l : Nat} {f : Int → Ky → Ky → Bool → Bool} {g : Int → List Int} (hg : ∀ a, a ∈ g a) (hf : ∀ a k tb e, f a k tb e = true → Nds s l (g a) k tb e) : ∀ (L : List It) (x : It) (r : List It) (tb : Ky) (e : Bool), L = x :: r → itsO f L tb e = true → Nds s l (L.flatMap fun x => g x.2.1) x.1 tb e
  | [x], _, _, tb, e, rfl, h => by
    have := hf _ _ _ _ h
    simpa using this
  | x :: y :: r, _, _, tb, e, rfl, h => by
    unfold itsO at h
    rw [Bool.and_eq_true] at h
    have hx := hf _ _ _ _ h.1
    have hy := its_nds hg hf (y :: r) y r tb e rfl h.2
    have e2 : (x :: y :: r).flatMap (fun x => g x.2.1) = g x.2.1 ++ (y :: r).flatMap fun x => g x.2.1 := List.flatMap_cons
    rw [e2]
    have hyin : y.2.1 ∈ (y :: r).flatMap fun x => g x.2.1 := List.mem_flatMap.2 ⟨y, by simp, hg _⟩
    have hxy : lessK x.1 y.1 = true := by
      obtain ⟨q, _, h1, h2⟩ := hx.key x.2.1 (hg _)
      exact h1.lt (h2 rfl)
    refine ⟨fun n hn => ?_, fun n hn => ?_, ?_⟩
    · rcases List.mem_append.1 hn with hn | hn
      · obtain ⟨q, e1, h1, h2⟩ := hx.key n hn
        refine ⟨q, e1, h1, fun he => ?_⟩
        obtain ⟨q', _, h3, h4⟩ := hy.key y.2.1 hyin
        exact less_trans (h2 rfl) (h3.lt (h4 he))
      · obtain ⟨q, e1, h1, h2⟩ := hy.key n hn
        exact ⟨q, e1, LeK.trans (.inr hxy) h1, h2⟩
    · rcases List.mem_append.1 hn with hn | hn
      · exact hx.lvl n hn
      · exact hy.lvl n hn
    · refine List.nodup_append.2 ⟨hx.once, hy.once, fun a ha b hb e => ?_⟩
      subst e
      obtain ⟨q, e1, _, h2⟩ := hx.key a ha
      obtain ⟨q', e1', h1', _⟩ := hy.key a hb
      rw [e1] at e1'
      cases e1'
      have := h1'.not_less
      rw [h2 rfl] at this
      cases this
theorem node_self (s : Rm) : ∀ (l : Nat) (a : Int), a ∈ nodesT s l a
  | 0, a => by simp [nodesT]
  | l + 1, a => by simp [nodesT]
theorem right_nds (s : Rm) : ∀ (l : Nat) (a : Int) (k tb : Ky) (e : Bool), rightO s l a k tb e = true → Nds s l (nodesT s l a) k tb e
  | 0, a, k, tb, e, h => by
    obtain ⟨h1, h2, h3, _⟩ := right_of h
    obtain ⟨x, r, ex, ek, hz⟩ := head_of h3
    have hu := up_may (rm_may h1).1
    refine ⟨fun n hn => ?_, fun n hn => ?_, by simp [nodesT]⟩
    · simp only [nodesT, List.mem_singleton] at hn
      subst hn
      refine ⟨k, by rw [fkN, ex, ← ek]; rfl, .inl rfl, fun he => ?_⟩
      obtain ⟨z, e1, e2⟩ := hz he
      have := up_last hu e1 e2 x (by rw [ex]; simp)
      rwa [ek] at this
    · simp only [nodesT, List.mem_singleton] at hn
      subst hn
      omega
  | l + 1, a, k, tb, e, h => by
    obtain ⟨h1, h2, h3, h4⟩ := right_of h
    obtain ⟨x, r, ex, ek, hz⟩ := head_of h3
    have hu := up_may (rm_may h1).1
    have hn := its_nds (node_self s l) (right_nds s l) (rmV s a).2 x r tb e ex h4
    have hno : a ∉ (rmV s a).2.flatMap fun x => nodesT s l x.2.1 := fun ha => by
      have := hn.lvl a ha
      omega
    refine ⟨fun n hn' => ?_, fun n hn' => ?_, ?_⟩
    · simp only [nodesT, List.mem_cons] at hn'
      rcases hn' with rfl | hn'
      · refine ⟨k, by rw [fkN, ex, ← ek]; rfl, .inl rfl, fun he => ?_⟩
        obtain ⟨z, e1, e2⟩ := hz he
        have := up_last hu e1 e2 x (by rw [ex]; simp)
        rwa [ek] at this
      · rw [← ek]
        exact hn.key n hn'
    · simp only [nodesT, List.mem_cons] at hn'
      rcases hn' with rfl | hn'
      · omega
      · have := hn.lvl n hn'
        omega
    · exact List.nodup_cons.2 ⟨hno, hn.once⟩
/-- The blocks of a tree: no one twice. -/
theorem tree_once {s : Rm} {a : Int} (h : treeO s a = true) : (nodesO s a).Nodup := by
  obtain ⟨h1, _, hm, l0, _, hi⟩ := tree_of h
  unfold nodesO
  unfold innerO at hi
  cases hl : (rmV s a).1.toNat with
  | zero => simp [nodesT]
  | succ l =>
    rw [hl] at hi
    have hne : (rmV s a).2 ≠ [] := fun e => by
      have := (mayN_of hm).1.2.2.2 (by omega)
      rw [e] at this
      simp at this
    obtain ⟨x, r, ex⟩ := List.exists_cons_of_ne_nil hne
    have hn := its_nds (node_self s l) (right_nds s l) (rmV s a).2 x r keyZ false ex hi
    have hno : a ∉ (rmV s a).2.flatMap fun x => nodesT s l x.2.1 := fun ha => by
      have := hn.lvl a ha
      omega
    exact List.nodup_cons.2 ⟨hno, hn.once⟩

/-! ### Marks -/
/-- One more at each place of a row. -/
def addL : List Int → List Int → List Int
  | N, [] => N
  | N, a :: r => addL (N.set a.toNat (N[a.toNat]?.getD 0 + 1)) r
theorem addL_app : ∀ (L M N : List Int), addL N (L ++ M) = addL (addL N L) M
  | [], _, _ => rfl
  | _ :: r, M, _ => addL_app r M _
theorem addL_len : ∀ (L N : List Int), (addL N L).length = N.length
  | [], _ => rfl
  | a :: r, N => by
    unfold addL
    rw [addL_len r]
    simp
theorem addL_get : ∀ (L N : List Int) (k : Nat), (∀ a ∈ L, 0 ≤ a ∧ a < (N.length : Int)) → (addL N L)[k]?.getD 0 = N[k]?.getD 0 + (L.count (k : Int) : Int)
  | [], N, k, _ => by simp [addL]
  | a :: r, N, k, h => by
    obtain ⟨h1, h2⟩ := h a List.mem_cons_self
    unfold addL
    rw [addL_get r _ k (fun b hb => by simpa using h b (List.mem_cons_of_mem _ hb)), List.count_cons]
    by_cases e : a = (k : Int)
    · subst e
      have hk : k < N.length := by omega
      rw [show ((k : Int)).toNat = k by omega, List.getElem?_set_self hk]
      simp
      omega
    · have : a.toNat ≠ k := by omega
      rw [List.getElem?_set_ne this]
      simp [e]
/-- The places with marks. -/
theorem add_marks {L N : List Int} (hN : N.length = 256) (h0 : ∀ k : Nat, N[k]?.getD 0 = 0) (h : ∀ a ∈ L, 0 ≤ a ∧ a < 256) : ((List.range 256).filter fun k => decide (0 < (addL N L)[k]?.getD 0)) = markO L := by
  unfold markO
  refine List.filter_congr fun k _ => ?_
  rw [addL_get L N k (by rw [hN]; exact h), h0 k]
  have e : (0 : Int) < 0 + (L.count (k : Int) : Int) ↔ (k : Int) ∈ L := by
    rw [← List.count_pos_iff (a := (k : Int))]
    omega
  simp only [e]
end Go.Proofs.YtdaidhbmfocodaaGreat

/-
  The document's leaf, and package find's held. Conditions: those that each lemma states.
-/
namespace Go.Proofs.YtdaidhbmfocodaaGreat
open Go.RowKit

/-- A Ref of a leaf's item, looked up. -/
theorem leaf_ref {s : Rm} {l : List It} {i : Nat} {x : It} {r : Nat} {y : UInt8} (hx : l[i]? = some x) (hr : x.2.1 = (r : Int)) (h0 : r ≠ 0) (hy : s.2.1[r]?.getD 0 = y) : leafO s (l.take (i + 1)) = (leafO s (l.take i) && decide (y ≠ 0)) := by
  rw [leaf_take hx, hr]
  have : ¬ ((r : Nat) : Int) = 0 := by omega
  rw [decide_eq_false this, Bool.false_or, show ((r : Nat) : Int).toNat = r by omega, hy]
theorem leaf_none {s : Rm} {l : List It} {i : Nat} {x : It} (hx : l[i]? = some x) (hr : x.2.1 = 0) : leafO s (l.take (i + 1)) = leafO s (l.take i) := by
  rw [leaf_take hx, hr]
  simp

/-- The first item of a row. -/
theorem its_first {w : World} {A : Option Addr} {n c : Nat} {xs : List It} {s : It} (h : rIts (Old w) w [.slice A n c] xs) (hk : xs[0]? = some s) :
    ∃ ad E ce, A = some ad ∧ InI s ∧ ∀ W, Below w.heap.size w W → At5 W ad s (.slice E s.2.2.length ce) ∧ Itm (Old W) W (itV s (.slice E s.2.2.length ce)) s := by
  obtain ⟨ad, E, ce, e, _, _, h1, F⟩ := its_old h hk
  have e0 : ad.add (0 * 5) = ad := by simp [Addr.add]
  rw [e0] at F
  exact ⟨ad, E, ce, e, h1, F⟩

set_option maxRecDepth 100000 in
set_option maxHeartbeats 4000000 in
theorem refLeaf_any (v u : Value) (s : Rm) (hm : mayR s = true) (n : Nd) (hn : mayN n = true) (w : World) (h : Sto (Old w) w v s) (hu : Nod (Old w) w u n) :
    Calls Tryz.prog 102 #[v, u] w fun e w' => e = .returned (.bool (leafO s n.2)) ∧ Below w.heap.size w w' := by
  have hrf := Lib.hid (refs_may hn)
  have hls := Lib.hid (mayT_len (mayR_of hm).2.1)
  obtain ⟨A, ca, B, cb, N, cn, L, cl, rfl, _⟩ := id h.open
  obtain ⟨I, ci, rfl, -, -, -, hI⟩ := id hu.open
  obtain ⟨lw, hlw⟩ : ∃ q, n.1 = q := ⟨_, rfl⟩
  obtain ⟨l, hl⟩ : ∃ q, n.2 = q := ⟨_, rfl⟩
  obtain ⟨m, hlm⟩ : ∃ q, l.length = q := ⟨_, rfl⟩
  rw [hl] at hrf
  rw [hl, hlm] at hI
  rw [hl, hlw, hlm]
  have hm5 : m ≤ 5 := by
    have := (mayN_of hn).1.2.2.1
    rw [hl, hlm] at this
    exact this
  obtain ⟨ad, ld, rfl, rfl, -, -, -, -, had, -, hc⟩ := tables_at hm h.parts.2.1 h.parts.2.2
  have HG0 : Bag w [OldIs (.slice I m ci) l, OldR (.agg #[.slice A s.1.1.length ca, .slice B s.1.2.length cb, .slice (some ad) s.2.1.length cn, .slice (some ld) s.2.2.length cl]) s] := ((Bag.nil w).add (F := OldR _ s) h (lasts_oldR _ _)).add (F := OldIs _ l) hI (lasts_oldIs _ _)
  obtain ⟨w0, hw0, hg0, hB0, _, hs0⟩ := bag_four HG0 (Below.refl _ _) (.slice A s.1.1.length ca) (.slice B s.1.2.length cb) (.slice (some ad) s.2.1.length cn) (.slice (some ld) s.2.2.length cl) 29
  obtain ⟨w1, hw1, hg1, hB1, _, hs1⟩ := bag_node hg0 (Below.refl _ _) (.int .i64 lw) (.slice I m ci)
  have HG := Lib.hid hg1
  have BB := Lib.hid (hB0.trans (hB1.mono hB0.size))
  have cS : Hid (∀ j, j < 256 → ∀ W, Below w1.heap.size w1 W → W.cell? (ad.add j) = some (.int .u8 ((s.2.1[j]?.getD 0).toNat : Int))) := Lib.hid fun j hj W hW =>
    ((BB.out.trans (hW.mono BB.out.size)).cell (by rw [add_block]; exact had)).trans (hc j hj).1
  replace hs1 := Lib.hid hs1
  replace hs0 := Lib.hid hs0
  replace hlw := Lib.hid hlw
  replace hl := Lib.hid hl
  replace hlm := Lib.hid hlm
  clear HG0 hg1 hg0 h hu hB1 hB0 hc hI
  go_enter Tryz.func102, Tryz.ntmps102
  go_upto_region 1 with fail
  clear hw1 hw0
  go_wp2_with fail
  go_loopw [5] (fun vi wr => ∃ k : Nat, k ≤ m ∧ vi = .int .i64 k ∧ leafO s (l.take k) = true ∧ Below w1.heap.size w1 wr) (fun vi _ => m - (intOf vi).toNat)
  case atStart => exact ⟨0, by omega, rfl, rfl, Below.refl _ _⟩
  case round =>
    obtain ⟨k, hk, rfl, hE, hbr⟩ := hrel
    have HR := Lib.hid (HG.out.below hbr)
    have BR := Lib.hid (BB.out.trans (hbr.mono BB.out.size))
    obtain ⟨y0, y1, _⟩ := HR.out.at 0 rfl
    by_cases hlt : k < m
    case neg =>
      have hf : Hid (leafO s l = true) := Lib.hid (by rw [← hE, List.take_of_length_le (by rw [hlm.out]; omega)])
      clear hE hbr
      go_wp2_with fail
      go_ret
      exact ⟨ret_bool hf.out.symm, BR.out⟩
    obtain ⟨x, hx⟩ : ∃ x, l[k]? = some x := ⟨_, List.getElem?_eq_getElem (by rw [hlm.out]; exact hlt)⟩
    have hxr := hrf.out x (List.mem_of_getElem? hx)
    have hIt : rIts (Old wr) wr [.slice I m ci] l := HR.out.at 2 rfl
    obtain ⟨a5, E5, ce5, rfl, _, _, _, FX⟩ := its_old hIt hx
    obtain ⟨⟨_, _, _, z3, _⟩, _⟩ := FX wr (Below.refl _ _)
    clear FX hIt
    obtain ⟨k0, k1, k2, k3, _⟩ := HR.out.at 1 rfl
    rw [hls.out] at k2
    have i4 : (0 : Int) ≤ (k : Int) := by omega
    have i5 : (k : Int) < (m : Int) := by omega
    obtain ⟨z, hzz⟩ : ∃ z, x.2.1 = z := ⟨_, rfl⟩
    rw [hzz] at z3 hxr
    by_cases hz0 : z = 0
    · subst hz0
      have hst : Hid (leafO s (l.take (k + 1)) = true) := Lib.hid (by rw [leaf_none hx hzz, hE])
      replace hx := Lib.hid hx
      replace hzz := Lib.hid hzz
      clear hE hxr
      replace hbr := Lib.hid hbr
      go_wp2_with fail
      go_roundw
      case rel => exact ⟨k + 1, by omega, by go_num, hst.out, hbr.out⟩
      case measure => simp [intOf]; omega
    · obtain ⟨r, hr, r8, r256⟩ : ∃ r : Nat, z = r ∧ 8 ≤ r ∧ r < 256 := ⟨z.toNat, by omega, by omega, by omega⟩
      subst hr
      have hcell := cS.out r r256 wr hbr
      obtain ⟨y, hy⟩ : ∃ y, s.2.1[r]?.getD 0 = y := ⟨_, rfl⟩
      have hst := leaf_ref hx hzz (by omega) hy
      rw [hE, Bool.true_and] at hst
      rw [hy] at hcell
      have j0 : (0 : Int) ≤ (r : Int) := by omega
      have j1 : r < 256 := r256
      have j2 : ¬ r = 0 := by omega
      replace hbr := Lib.hid hbr
      replace hzz := Lib.hid hzz
      replace hy := Lib.hid hy
      clear hE hxr hz0
      by_cases hy0 : y = 0
      · have t0 := byte_same (y := 0) (q := 0) rfl hy0
        have hf : Hid (leafO s l = false) := Lib.hid (leaf_bad (i := k + 1) (by rw [hst]; simp [hy0]))
        replace hx := Lib.hid hx
        clear hst hy0
        go_wp2_with fail
        go_ret
        exact ⟨ret_bool hf.out.symm, BR.out⟩
      · have t0 := byte_unlike (y := 0) (q := 0) rfl hy0
        replace hst : Hid (leafO s (l.take (k + 1)) = true) := Lib.hid (by rw [hst]; simpa using hy0)
        replace hx := Lib.hid hx
        clear hy0
        go_wp2_with fail
        go_roundw
        case rel => exact ⟨k + 1, by omega, by go_num, hst.out, hbr.out⟩
        case measure => simp [intOf]; omega
end Go.Proofs.YtdaidhbmfocodaaGreat

/-
  The document's Read of layer 8, at any place. Conditions: those that each lemma states.
-/
namespace Go.Proofs.YtdaidhbmfocodaaGreat
open Go.RowKit

theorem box_sn (w : World) (a b c d : Value) : ∃ w1, (w.alloc (.cells #[a, b, c, d] 29)).alloc (.cells #[.int .i64 0, .slice none 0 0] 57) = w1 ∧
    w1.heap[w.heap.size]? = some (.cells #[a, b, c, d] 29 (0, 0)) ∧ w1.heap[w.heap.size + 1]? = some (.cells #[.int .i64 0, .slice none 0 0] 57 (0, 0)) ∧ w1.heap.size = w.heap.size + 2 ∧ Below w.heap.size w w1 := by
  refine ⟨_, rfl, alloc_block (heap_alloc_new _ _), ?_, by simp, ((Below.refl _ w).alloc (Nat.le_refl _) _).alloc (by simp) _⟩
  have := heap_alloc_new (w.alloc (.cells #[a, b, c, d] 29)) (.cells #[.int .i64 0, .slice none 0 0] 57)
  rwa [World.size_alloc] at this

set_option maxRecDepth 100000 in
set_option maxHeartbeats 4000000 in
theorem refReadR_any (v : Value) (s : Rm) (n : Int) (hm : mayR s = true) (w : World) (h : Sto (Old w) w v s) :
    Calls Tryz.prog 57 #[v, .int .i64 n] w fun e w' => ∃ u, e = .returned (.tuple #[u, .bool (rmE s n == 0)]) ∧ Nod (New w.heap.size w') w' u (rmV s n) ∧ Below w.heap.size w w' := by
  by_cases ha : asE s n = 0
  · obtain ⟨k, rfl, _, _, _, _, _, hE, hV, _⟩ := as_read ha
    rw [hE, hV]
    exact refReadR_ok v s k ha w h
  obtain ⟨hE, hV⟩ := rm_bad ha
  have hE0 : (rmE s n == 0) = false := by rw [hE]; simpa using ha
  rw [hE0, hV]
  obtain ⟨A, ca, B, cb, N, cn, L, cl, rfl, _, _, _⟩ := h.open
  obtain ⟨w1, hw1, f1, f2, hsz, hB⟩ := box_sn w (.slice A s.1.1.length ca) (.slice B s.1.2.length cb) (.slice N s.2.1.length cn) (.slice L s.2.2.length cl)
  have H := Lib.hid (h.below hB)
  clear h hE hV hE0
  obtain ⟨k0, k1, k2, k3, _, kg⟩ := four_cells f1
  obtain ⟨c0, c1, c2, _⟩ := two_cells f2
  obtain ⟨W9, hW9, g9, gr9, gs9⟩ := put_two (u := .int .i64 0) (v := .slice none 0 0) f2
  obtain ⟨o0, o1, _, _⟩ := two_cells g9
  have hfin := Lib.hid (nod_zero (New w.heap.size W9) W9)
  have hB9 := Lib.hid (hB.grown gr9 hB.size (fun q e => by cases e; omega))
  replace hsz := Lib.hid hsz
  replace f1 := Lib.hid f1
  replace f2 := Lib.hid f2
  replace g9 := Lib.hid g9
  clear gr9 gs9
  rcases as_ways s n with ⟨hm', _⟩ | ⟨_, hn, _⟩ | ⟨k, _, rfl, h8, h256, hx, _⟩ | ⟨k, _, hk, _, _, _, e⟩
  · rw [hm] at hm'; cases hm'
  · by_cases h8 : n < 8
    · clear hn ha
      go_enter Tryz.func57, Tryz.ntmps57
      go_upto_region 1 with fail
      clear hw1
      go_wp2_with fail
      refine bodyPost_ret (v := .tuple #[.agg #[.int .i64 0, .slice none 0 0], .bool false]) (by simp [results, Tryz.results57, go_sem, o0, o1]) rfl ?_
      exact ⟨_, rfl, hfin.out, hB9.out⟩
    · have h9 : 256 ≤ n := by omega
      clear hn ha
      go_enter Tryz.func57, Tryz.ntmps57
      go_upto_region 1 with fail
      clear hw1
      go_wp2_with fail
      refine bodyPost_ret (v := .tuple #[.agg #[.int .i64 0, .slice none 0 0], .bool false]) (by simp [results, Tryz.results57, go_sem, o0, o1]) rfl ?_
      exact ⟨_, rfl, hfin.out, hB9.out⟩
  · obtain ⟨ad, bd, rfl, rfl, hl1, -, -, -, had, -, hc⟩ := tables_at hm H.out.parts.2.1 H.out.parts.2.2
    have q1 := (hc k h256).1
    rw [hx] at q1
    replace q1 : w1.cell? (ad.add k) = some (.int .u8 0) := q1
    have i1 : ¬ (k : Int) < 8 := by omega
    have i2 : ¬ 256 ≤ (k : Int) := by omega
    have i3 : k < s.2.1.length := by omega
    replace hl1 := Lib.hid hl1
    replace hx := Lib.hid hx
    clear hc ha hm
    go_enter Tryz.func57, Tryz.ntmps57
    go_upto_region 1 with fail
    clear hw1
    go_wp2_with fail
    refine bodyPost_ret (v := .tuple #[.agg #[.int .i64 0, .slice none 0 0], .bool false]) (by simp [results, Tryz.results57, go_sem, o0, o1]) rfl ?_
    exact ⟨_, rfl, hfin.out, hB9.out⟩
  · exact absurd (hk ▸ e) ha
end Go.Proofs.YtdaidhbmfocodaaGreat

/-
  The document's inner, by its right one level below. Conditions: those that each lemma states.
-/
namespace Go.Proofs.YtdaidhbmfocodaaGreat
open Go.RowKit

/-- What a call of right tells, at a level; what one of inner does. -/
def RightIs (s : Rm) (l : Nat) : Prop := ∀ (v : Value) (a : Int) (k tb : Ky) (ends : Bool) (w : World), Sto (Old w) w v s →
    Calls Tryz.prog 103 #[v, .int .i64 a, .int .i64 (l : Int), kyV k, kyV tb, .bool ends] w fun e w' => e = .returned (.bool (rightO s l a k tb ends)) ∧ Below w.heap.size w w'
def InnerIs (s : Rm) (l : Nat) : Prop := ∀ (v u : Value) (n : Nd) (tb : Ky) (ends : Bool) (w : World), mayN n = true → n.1 = (l : Int) → Sto (Old w) w v s → Nod (Old w) w u n →
    Calls Tryz.prog 81 #[v, u, kyV tb, .bool ends] w fun e w' => e = .returned (.bool (innerO s n tb ends)) ∧ Below w.heap.size w w'
theorem inner_zero {s : Rm} {n : Nd} (h : n.1 = 0) (tb : Ky) (ends : Bool) : innerO s n tb ends = leafO s n.2 := by
  unfold innerO
  rw [h]
  rfl
theorem inner_succ {s : Rm} {n : Nd} {j : Nat} (h : n.1 = ((j + 1 : Nat) : Int)) (tb : Ky) (ends : Bool) : innerO s n tb ends = itsO (rightO s j) n.2 tb ends := by
  unfold innerO
  rw [h, show ((j + 1 : Nat) : Int).toNat = j + 1 by omega]
theorem put_three {W : World} {g : Nat} {a b c a' b' c' : Value} {t : TypeId} (h : W.heap[g]? = some (.cells #[a, b, c] t (0, 0))) : ∃ W1, ((W.setCell ⟨g, 0, none⟩ a').setCell ⟨g, 1, none⟩ b').setCell ⟨g, 2, none⟩ c' = W1 ∧
    W1.heap[g]? = some (.cells #[a', b', c'] t (0, 0)) ∧ W.grownBy W1 (some g) ∧ W1.heap.size = W.heap.size :=
  ⟨_, rfl, by simp [World.setCell, Array.getElem?_modify, h], grow_put (p := ⟨g, 2, none⟩) (grow_put (p := ⟨g, 1, none⟩) (grow_put (p := ⟨g, 0, none⟩) (grow_refl W (some g)) rfl a') rfl b') rfl c', by simp⟩
theorem three_cells {W : World} {g : Nat} {a b c : Value} {t : TypeId} (h : W.heap[g]? = some (.cells #[a, b, c] t (0, 0))) : W.cell? ⟨g, 0, none⟩ = some a ∧ W.cell? ⟨g, 1, none⟩ = some b ∧ W.cell? ⟨g, 2, none⟩ = some c ∧ (∀ o, W.frozen? ⟨g, o, none⟩ = false) ∧ g < W.heap.size :=
  ⟨by simp [World.cell?, h], by simp [World.cell?, h], by simp [World.cell?, h], fun o => by simp [World.frozen?, h], (Array.getElem?_eq_some_iff.1 h).1⟩

set_option maxRecDepth 100000 in
set_option maxHeartbeats 8000000 in
theorem inner_step (s : Rm) (hm : mayR s = true) (l0 : Nat) (hr0 : ∀ j, l0 = j + 1 → RightIs s j) : InnerIs s l0 := by
  intro v u n tb ends w hmn hlv h hu
  obtain ⟨A, ca, B, cb, N, cn, L, cl, rfl, _⟩ := id h.open
  obtain ⟨I, ci, rfl, -, -, -, hI⟩ := id hu.open
  have hu' := Lib.hid hu
  obtain ⟨lw, hlw⟩ : ∃ q, n.1 = q := ⟨_, rfl⟩
  obtain ⟨l, hl⟩ : ∃ q, n.2 = q := ⟨_, rfl⟩
  obtain ⟨m, hlm⟩ : ∃ q, l.length = q := ⟨_, rfl⟩
  rw [hl, hlm] at hI
  rw [hl, hlm, hlw] at hu'
  rw [hl, hlw, hlm]
  rw [hlw] at hlv
  have hm5 : m ≤ 5 := by
    have := (mayN_of hmn).1.2.2.1
    rw [hl, hlm] at this
    exact this
  have HG0 : Bag w [OldN (.agg #[.int .i64 lw, .slice I m ci]) n, OldIs (.slice I m ci) l, OldR (.agg #[.slice A s.1.1.length ca, .slice B s.1.2.length cb, .slice N s.2.1.length cn, .slice L s.2.2.length cl]) s] := (((Bag.nil w).add (F := OldR _ s) h (lasts_oldR _ _)).add (F := OldIs _ l) hI (lasts_oldIs _ _)).add (F := OldN _ n) hu'.out (lasts_oldN _ _)
  obtain ⟨w0, hw0, hg0, hB0, _, hs0⟩ := bag_four HG0 (Below.refl _ _) (.slice A s.1.1.length ca) (.slice B s.1.2.length cb) (.slice N s.2.1.length cn) (.slice L s.2.2.length cl) 29
  obtain ⟨w1, hw1, hg1, hB1, _, hs1⟩ := bag_node hg0 (Below.refl _ _) (.int .i64 lw) (.slice I m ci)
  obtain ⟨w2, hw2, hg2, hB2, _, hs2⟩ := bag_key hg1 (Below.refl _ _) (.int .u8 (tb.1.toNat : Int)) (.int .u32 tb.2.1) (.int .u32 tb.2.2)
  have HG := Lib.hid hg2
  have BB := Lib.hid ((hB0.trans (hB1.mono hB0.size)).trans (hB2.mono (hB0.trans (hB1.mono hB0.size)).size))
  replace hs2 := Lib.hid hs2
  replace hs1 := Lib.hid hs1
  replace hs0 := Lib.hid hs0
  replace hlw := Lib.hid hlw
  replace hl := Lib.hid hl
  replace hlm := Lib.hid hlm
  clear HG0 hg2 hg1 hg0 h hu hu' hB2 hB1 hB0 hI
  unfold kyV
  obtain ⟨R0, hR0⟩ : ∃ q, innerO s n tb ends = q := ⟨_, rfl⟩
  rw [hR0]
  cases l0 with
  | zero =>
    have e0 : lw = 0 := hlv
    have hin : Hid (R0 = leafO s l) := Lib.hid (by rw [← hR0, inner_zero (hlw.out.trans e0), hl.out])
    replace hR0 := Lib.hid hR0
    subst e0
    clear hlv
    have k1 : Hid (Nod (Old w2) w2 (.agg #[.int .i64 0, .slice I m ci]) n) := Lib.hid (HG.out.at 3 rfl)
    have k2 : Hid (Sto (Old w2) w2 (.agg #[.slice A s.1.1.length ca, .slice B s.1.2.length cb, .slice N s.2.1.length cn, .slice L s.2.2.length cl]) s) := Lib.hid (HG.out.at 5 rfl)
    obtain ⟨s0, s1, s2, s3, _⟩ := HG.out.at 2 rfl
    obtain ⟨y0, y1, _⟩ := HG.out.at 1 rfl
    go_enter Tryz.func81, Tryz.ntmps81
    go_upto_region 1 with fail
    clear hw0 hw1 hw2
    go_wp2_with fail
    with_reducible refine (refLeaf_any _ _ s hm n hmn _ k2.out k1.out).mono ?_
    rintro e w3 ⟨rfl, hb3⟩
    have B3 := Lib.hid (BB.out.trans (hb3.mono BB.out.size))
    go_wp2_with fail
    go_ret
    exact ⟨ret_bool (by rw [hin.out, hl.out]), B3.out⟩
  | succ j =>
    have hin : Hid (R0 = itsO (rightO s j) l tb ends) := Lib.hid (by rw [← hR0, inner_succ (hlw.out.trans hlv), hl.out])
    replace hR0 := Lib.hid hR0
    have hrec := hr0 j rfl
    have c0 : (lw == 0) = false := by simp; omega
    have c1 : lw - 1 = (j : Int) := by omega
    have c2 : IntKind.i64.wrap (j : Int) = (j : Int) := by
      have := (mayN_of hmn).1.2.1
      rw [hlw.out] at this
      exact IntWalk.i64_in _ (by omega)
    replace hlv := Lib.hid hlv
    obtain ⟨R, hR⟩ : ∃ R, itsO (rightO s j) l tb ends = R := ⟨_, rfl⟩
    have hfin : Hid (R = R0) := Lib.hid (by rw [hin.out, hR])
    replace hR := Lib.hid hR
    obtain ⟨s0, s1, s2, s3, _⟩ := HG.out.at 2 rfl
    obtain ⟨y0, y1, _⟩ := HG.out.at 1 rfl
    go_enter Tryz.func81, Tryz.ntmps81
    go_upto_region 1 with fail
    clear hw0 hw1 hw2
    go_wp2_with fail
    clear s0 s1 s2 s3 y0 y1
    go_loopw [9] (fun vi wr => ∃ k : Nat, k ≤ m ∧ vi = .int .i64 k ∧ itsO (rightO s j) (l.drop k) tb ends = R ∧ Below w2.heap.size w2 wr) (fun vi _ => m - (intOf vi).toNat)
    case atStart => exact ⟨0, by omega, rfl, by rw [List.drop_zero]; exact hR.out, Below.refl _ _⟩
    case round =>
      obtain ⟨k, hk, rfl, hE0, hbr⟩ := hrel
      have hE := Lib.hid hE0
      have HR := Lib.hid (HG.out.below hbr)
      have BR := Lib.hid hbr
      clear hE0 hbr
      obtain ⟨y0, y1, _⟩ := HR.out.at 1 rfl
      obtain ⟨t0, t1, t2, _⟩ := HR.out.at 0 rfl
      by_cases hlt : k < m
      case neg =>
        have hf : Hid (R = true) := Lib.hid (by rw [← hE.out, List.drop_of_length_le (by rw [hlm.out]; omega)]; rfl)
        have B4 := Lib.hid (BB.out.trans (BR.out.mono BB.out.size))
        go_wp2_with fail
        go_ret
        exact ⟨ret_bool (hf.out.symm.trans hfin.out), B4.out⟩
      obtain ⟨x, hx0⟩ : ∃ x, l[k]? = some x := ⟨_, List.getElem?_eq_getElem (by rw [hlm.out]; exact hlt)⟩
      have hx := Lib.hid hx0
      have hIt : rIts (Old wr) wr [.slice I m ci] l := HR.out.at 4 rfl
      obtain ⟨ad, E5, ce5, rfl, _, _, _, FX⟩ := its_old hIt hx0
      obtain ⟨w4, hw4, hg4, hB4, -, hs4⟩ := bag_key HR.out (Below.refl _ _) (.int .u8 (tb.1.toNat : Int)) (.int .u32 tb.2.1) (.int .u32 tb.2.2)
      have hb4 : w4.heap[wr.heap.size]? = some (.cells #[.int .u8 (tb.1.toNat : Int), .int .u32 tb.2.1, .int .u32 tb.2.2] 38 (0, 0)) := by rw [← hw4]; exact heap_alloc_new _ _
      replace hs4 := Lib.hid hs4
      have i4 : (0 : Int) ≤ (k : Int) := by omega
      have i5 : (k : Int) < (m : Int) := by omega
      clear hx0
      go_upto_region 7 with fail
      clear hw4 t0 t1 t2 y0 y1
      obtain ⟨y0, y1, _⟩ := (HR.out.below hB4).at 1 rfl
      by_cases hlt2 : k + 1 < m
      · obtain ⟨y, hy0⟩ : ∃ y, l[k + 1]? = some y := ⟨_, List.getElem?_eq_getElem (by rw [hlm.out]; exact hlt2)⟩
        have hnx := Lib.hid (nx_some hy0 tb ends)
        obtain ⟨j1, hj1⟩ : ∃ j1 : Nat, k + 1 = j1 := ⟨_, rfl⟩
        rw [hj1] at hy0
        obtain ⟨ad', E6, ce6, e6, _, _, _, FY⟩ := its_old hIt hy0
        cases e6
        obtain ⟨⟨u0, u1, u2, _, _⟩, _⟩ := FY w4 hB4
        obtain ⟨x0, x1, x2, _, x3⟩ := three_cells hb4
        obtain ⟨W9, hW9, g9, gr9, gs9⟩ := put_three (a' := .int .u8 (y.1.1.toNat : Int)) (b' := .int .u32 y.1.2.1) (c' := .int .u32 y.1.2.2) hb4
        obtain ⟨v0, v1, v2, _, v3⟩ := three_cells g9
        have hB9 := hB4.grown gr9 hB4.size (fun q e => by cases e; omega)
        have HN := Lib.hid ((HR.out.below hB9).add (F := Box3 _ _ _ _) ⟨v0, v1, v2, v3⟩ (lasts_box3 _ _ _ _))
        have BN := Lib.hid (BR.out.trans (hB9.mono BR.out.size))
        have FX' := Lib.hid (fun W (hW : Below W9.heap.size W9 W) => (FX W (hB9.trans (hW.mono hB9.size))).1)
        have i6 : (k : Int) + 1 = (j1 : Int) := by omega
        have i7 : (j1 : Int) < (m : Int) := by omega
        have i8 : (0 : Int) ≤ (j1 : Int) := by omega
        have i9 : IntKind.i64.wrap (j1 : Int) = (j1 : Int) := IntWalk.i64_in _ (by omega)
        replace hj1 := Lib.hid hj1
        replace hb4 := Lib.hid hb4
        replace g9 := Lib.hid g9
        replace gs9 := Lib.hid gs9
        clear FX FY hIt hy0 hB4 hg4 gr9 hB9 v0 v1 v2 v3
        go_upto_region 9 with fail
        clear hW9 u0 u1 u2 x0 x1 x2 x3 y0 y1 i6 i7 i8 i9
        have hnxt := Lib.hid (show itsO (rightO s j) (l.drop k) tb ends = (rightO s j x.2.1 x.1 y.1 true && itsO (rightO s j) (l.drop (k + 1)) tb ends) from by rw [its_drop _ hx.out, hnx.out.1, hnx.out.2])
        have hcl := Lib.hid (fun W (hW : Below (W9).heap.size W9 W) => hrec (.agg #[.slice A s.1.1.length ca, .slice B s.1.2.length cb, .slice N s.2.1.length cn, .slice L s.2.2.length cl]) x.2.1 x.1 y.1 true W ((HN.out.below hW).at 6 rfl))
        obtain ⟨q, hq⟩ : ∃ q, rightO s j x.2.1 x.1 y.1 true = q := ⟨_, rfl⟩
        rw [hq] at hnxt
        replace hq := Lib.hid hq
        refine wp_region_fx (by kernel_rfl) (fun W => Below (W9).heap.size W9 W) (fun _ => none) (fun i => match i with
          | 18 => some (.bool q)
          | _ => none) (by kernel_rfl) (Below.refl _ _).drew (fun w w' h hb => h.trans (hb.mono h.size)) (fun j φ x W W' hp => by cases hp) ?_
        repeat (first
          | (refine wpAs_skip rfl ?_; simp only [Act.put, List.setIfInBounds_toArray, List.set_cons_zero, List.set_cons_succ])
          | (refine wpAs_pure (v := ?_) rfl rfl ?_ ?_; rotate_left; (intro W hC hE; clear hE; (have HW := HN.out.below hC; obtain ⟨k0, k1, k2, k3, _⟩ := HW.at 3 rfl; obtain ⟨y0, y1, _⟩ := HW.at 2 rfl; obtain ⟨t0, t1, t2, _⟩ := HW.at 0 rfl; clear HW; obtain ⟨z0, z1, z2, z3, _⟩ := FX'.out W hC); clear hC; go_simp; done); simp only [Act.put, List.setIfInBounds_toArray, List.set_cons_zero, List.set_cons_succ])
          | (refine wpAs_pure (v := ?_) rfl rfl ?_ ?_; rotate_left; (intro W hC hE; clear hE; (have HW := HN.out.below hC; obtain ⟨k0, k1, k2, k3, _⟩ := HW.at 3 rfl; obtain ⟨y0, y1, _⟩ := HW.at 2 rfl; obtain ⟨t0, t1, t2, _⟩ := HW.at 0 rfl; clear HW; obtain ⟨z0, z1, z2, z3, _⟩ := FX'.out W hC); clear hC; go_simp; with_reducible rfl); simp only [Act.put, List.setIfInBounds_toArray, List.set_cons_zero, List.set_cons_succ]))
        refine wpAs_fixed rfl rfl rfl ?_ ?_
        · intro W hC hE
          refine does_enter (f := 103) (args := #[.agg #[.slice A s.1.1.length ca, .slice B s.1.2.length cb, .slice N s.2.1.length cn, .slice L s.2.2.length cl], .int .i64 x.2.1, .int .i64 (j : Int), kyV x.1, kyV (y.1), .bool true]) ?_ ?_
          · go_simp
          · refine (hcl.out W hC).mono ?_
            (rintro e W' ⟨rfl, hg⟩; rw [hq.out])
            exact ⟨_, rfl, rfl, hg⟩
        simp only [Act.put, List.setIfInBounds_toArray, List.set_cons_zero, List.set_cons_succ]
        repeat (first
          | (refine wpAs_skip rfl ?_; simp only [Act.put, List.setIfInBounds_toArray, List.set_cons_zero, List.set_cons_succ])
          | (refine wpAs_pure (v := ?_) rfl rfl ?_ ?_; rotate_left; (intro W hC hE; clear hE; skip; clear hC; go_simp; done); simp only [Act.put, List.setIfInBounds_toArray, List.set_cons_zero, List.set_cons_succ])
          | (refine wpAs_pure (v := ?_) rfl rfl ?_ ?_; rotate_left; (intro W hC hE; clear hE; skip; clear hC; go_simp; with_reducible rfl); simp only [Act.put, List.setIfInBounds_toArray, List.set_cons_zero, List.set_cons_succ]))
        refine wpAs_end fun W hC hE => ?_
        have B3 := Lib.hid (BN.out.trans (hC.mono BN.out.size))
        have B4 := Lib.hid (BB.out.trans (B3.out.mono BB.out.size))
        clear hE hC
        cases q with
        | true =>
          have hn := Lib.hid (show itsO (rightO s j) (l.drop (k + 1)) tb ends = R from by rw [← hE.out, hnxt.out, Bool.true_and])
          go_wp2_with fail
          go_roundw
          case rel => exact ⟨k + 1, by omega, by go_num, hn.out, B3.out⟩
          case measure => simp [intOf]; omega
        | false =>
          have hn := Lib.hid (show R = false from by rw [← hE.out, hnxt.out, Bool.false_and])
          go_wp2_with fail
          go_ret
          exact ⟨ret_bool (hn.out.symm.trans hfin.out), B4.out⟩
      · have hnx := Lib.hid (nx_none (l := l) (i := k + 1) (by rw [hlm.out]; omega) tb ends)
        obtain ⟨v0, v1, v2, _, v3⟩ := three_cells hb4
        have HN := Lib.hid ((HR.out.below hB4).add (F := Box3 _ _ _ _) ⟨v0, v1, v2, v3⟩ (lasts_box3 _ _ _ _))
        have BN := Lib.hid (BR.out.trans (hB4.mono BR.out.size))
        have FX' := Lib.hid (fun W (hW : Below w4.heap.size w4 W) => (FX W (hB4.trans (hW.mono hB4.size))).1)
        have i6 : ¬ (k : Int) + 1 < (m : Int) := by omega
        replace hb4 := Lib.hid hb4
        clear FX hIt hB4 hg4 v0 v1 v2 v3
        go_upto_region 9 with fail
        clear y0 y1
        have hnxt := Lib.hid (show itsO (rightO s j) (l.drop k) tb ends = (rightO s j x.2.1 x.1 tb ends && itsO (rightO s j) (l.drop (k + 1)) tb ends) from by rw [its_drop _ hx.out, hnx.out.1, hnx.out.2])
        have hcl := Lib.hid (fun W (hW : Below (w4).heap.size w4 W) => hrec (.agg #[.slice A s.1.1.length ca, .slice B s.1.2.length cb, .slice N s.2.1.length cn, .slice L s.2.2.length cl]) x.2.1 x.1 tb ends W ((HN.out.below hW).at 6 rfl))
        obtain ⟨q, hq⟩ : ∃ q, rightO s j x.2.1 x.1 tb ends = q := ⟨_, rfl⟩
        rw [hq] at hnxt
        replace hq := Lib.hid hq
        refine wp_region_fx (by kernel_rfl) (fun W => Below (w4).heap.size w4 W) (fun _ => none) (fun i => match i with
          | 18 => some (.bool q)
          | _ => none) (by kernel_rfl) (Below.refl _ _).drew (fun w w' h hb => h.trans (hb.mono h.size)) (fun j φ x W W' hp => by cases hp) ?_
        repeat (first
          | (refine wpAs_skip rfl ?_; simp only [Act.put, List.setIfInBounds_toArray, List.set_cons_zero, List.set_cons_succ])
          | (refine wpAs_pure (v := ?_) rfl rfl ?_ ?_; rotate_left; (intro W hC hE; clear hE; (have HW := HN.out.below hC; obtain ⟨k0, k1, k2, k3, _⟩ := HW.at 3 rfl; obtain ⟨y0, y1, _⟩ := HW.at 2 rfl; obtain ⟨t0, t1, t2, _⟩ := HW.at 0 rfl; clear HW; obtain ⟨z0, z1, z2, z3, _⟩ := FX'.out W hC); clear hC; go_simp; done); simp only [Act.put, List.setIfInBounds_toArray, List.set_cons_zero, List.set_cons_succ])
          | (refine wpAs_pure (v := ?_) rfl rfl ?_ ?_; rotate_left; (intro W hC hE; clear hE; (have HW := HN.out.below hC; obtain ⟨k0, k1, k2, k3, _⟩ := HW.at 3 rfl; obtain ⟨y0, y1, _⟩ := HW.at 2 rfl; obtain ⟨t0, t1, t2, _⟩ := HW.at 0 rfl; clear HW; obtain ⟨z0, z1, z2, z3, _⟩ := FX'.out W hC); clear hC; go_simp; with_reducible rfl); simp only [Act.put, List.setIfInBounds_toArray, List.set_cons_zero, List.set_cons_succ]))
        refine wpAs_fixed rfl rfl rfl ?_ ?_
        · intro W hC hE
          refine does_enter (f := 103) (args := #[.agg #[.slice A s.1.1.length ca, .slice B s.1.2.length cb, .slice N s.2.1.length cn, .slice L s.2.2.length cl], .int .i64 x.2.1, .int .i64 (j : Int), kyV x.1, kyV (tb), .bool ends]) ?_ ?_
          · go_simp
          · refine (hcl.out W hC).mono ?_
            (rintro e W' ⟨rfl, hg⟩; rw [hq.out])
            exact ⟨_, rfl, rfl, hg⟩
        simp only [Act.put, List.setIfInBounds_toArray, List.set_cons_zero, List.set_cons_succ]
        repeat (first
          | (refine wpAs_skip rfl ?_; simp only [Act.put, List.setIfInBounds_toArray, List.set_cons_zero, List.set_cons_succ])
          | (refine wpAs_pure (v := ?_) rfl rfl ?_ ?_; rotate_left; (intro W hC hE; clear hE; skip; clear hC; go_simp; done); simp only [Act.put, List.setIfInBounds_toArray, List.set_cons_zero, List.set_cons_succ])
          | (refine wpAs_pure (v := ?_) rfl rfl ?_ ?_; rotate_left; (intro W hC hE; clear hE; skip; clear hC; go_simp; with_reducible rfl); simp only [Act.put, List.setIfInBounds_toArray, List.set_cons_zero, List.set_cons_succ]))
        refine wpAs_end fun W hC hE => ?_
        have B3 := Lib.hid (BN.out.trans (hC.mono BN.out.size))
        have B4 := Lib.hid (BB.out.trans (B3.out.mono BB.out.size))
        clear hE hC
        cases q with
        | true =>
          have hn := Lib.hid (show itsO (rightO s j) (l.drop (k + 1)) tb ends = R from by rw [← hE.out, hnxt.out, Bool.true_and])
          go_wp2_with fail
          go_roundw
          case rel => exact ⟨k + 1, by omega, by go_num, hn.out, B3.out⟩
          case measure => simp [intOf]; omega
        | false =>
          have hn := Lib.hid (show R = false from by rw [← hE.out, hnxt.out, Bool.false_and])
          go_wp2_with fail
          go_ret
          exact ⟨ret_bool (hn.out.symm.trans hfin.out), B4.out⟩
end Go.Proofs.YtdaidhbmfocodaaGreat

/-
  The document's right, by its inner; both at each level; Tree. Conditions: those that each lemma states.
-/
namespace Go.Proofs.YtdaidhbmfocodaaGreat
open Go.RowKit

theorem right_eq (s : Rm) (l : Nat) (a : Int) (k tb : Ky) (ends : Bool) : rightO s l a k tb ends = ((decide (rmE s a = 0) && decide ((rmV s a).1 = (l : Int))) && (headO (rmV s a).2 k tb ends && innerO s (rmV s a) tb ends)) := by
  by_cases h : (rmV s a).1 = (l : Int)
  · cases l with
    | zero => rw [inner_zero h]; rfl
    | succ l => rw [inner_succ h]; rfl
  · cases l with
    | zero =>
      have h' : ¬ (rmV s a).1 = 0 := h
      simp [rightO, h']
    | succ l =>
      have h' : ¬ (rmV s a).1 = ((l : Nat) : Int) + 1 := by simpa using h
      simp [rightO, h']
theorem right_no {s : Rm} {l : Nat} {a : Int} {k tb : Ky} {ends : Bool} (h : ¬ (rmE s a = 0 ∧ (rmV s a).1 = (l : Int) ∧ headO (rmV s a).2 k tb ends = true)) : rightO s l a k tb ends = false := by
  rw [right_eq]
  by_cases h1 : rmE s a = 0 <;> by_cases h2 : (rmV s a).1 = (l : Int) <;> by_cases h3 : headO (rmV s a).2 k tb ends = true <;> simp_all
theorem right_yes {s : Rm} {l : Nat} {a : Int} {k tb : Ky} {ends : Bool} (h1 : rmE s a = 0) (h2 : (rmV s a).1 = (l : Int)) (h3 : headO (rmV s a).2 k tb ends = true) : rightO s l a k tb ends = innerO s (rmV s a) tb ends := by
  rw [right_eq, h1, h2, h3]
  simp
theorem head_no {l : List It} {k tb : Ky} {ends : Bool} {x : It} (hx : l[0]? = some x) (h : x.1 ≠ k) : ¬ headO l k tb ends = true := by
  unfold headO
  rw [hx]
  simp [h]
theorem head_nil {l : List It} {k tb : Ky} {ends : Bool} (h : l.length = 0) : ¬ headO l k tb ends = true := by
  rw [List.eq_nil_of_length_eq_zero h]
  simp [headO]
theorem head_free {l : List It} {k tb : Ky} {x : It} (hx : l[0]? = some x) (h : x.1 = k) : headO l k tb false = true := by
  unfold headO
  rw [hx]
  simp [h]
theorem head_last {l : List It} {k tb : Ky} {x y : It} {j : Nat} (hx : l[0]? = some x) (h : x.1 = k) (hj : l.length = j + 1) (hy : l[j]? = some y) : headO l k tb true = lessK y.1 tb := by
  unfold headO
  have : l.getLast? = some y := by rw [List.getLast?_eq_getElem?, hj]; exact hy
  rw [hx, this]
  simp [h]

set_option maxRecDepth 100000 in
set_option maxHeartbeats 8000000 in
theorem right_step (s : Rm) (hm : mayR s = true) (l0 : Nat) (hin : InnerIs s l0) : RightIs s l0 := by
  intro v a fr tb ends w h
  obtain ⟨A, ca, B, cb, N, cn, L, cl, rfl, _⟩ := id h.open
  obtain ⟨nd, hnd⟩ : ∃ q, rmV s a = q := ⟨_, rfl⟩
  obtain ⟨lw, hlw⟩ : ∃ q, nd.1 = q := ⟨_, rfl⟩
  obtain ⟨l, hl⟩ : ∃ q, nd.2 = q := ⟨_, rfl⟩
  obtain ⟨m, hlm⟩ : ∃ q, l.length = q := ⟨_, rfl⟩
  obtain ⟨es, hes⟩ : ∃ q, (rmE s a == 0) = q := ⟨_, rfl⟩
  have hRd : Hid (∀ v W, Sto (Old W) W v s → Calls Tryz.prog 57 #[v, .int .i64 a] W fun e w' => ∃ Z zc, e = .returned (.tuple #[.agg #[.int .i64 lw, .slice Z m zc], .bool es]) ∧ rIts (Old w') w' [.slice Z m zc] l ∧ Nod (Old w') w' (.agg #[.int .i64 lw, .slice Z m zc]) nd ∧ Below W.heap.size W w') := Lib.hid fun v W hW => by
    refine (refReadR_any v s a hm W hW).mono ?_
    rintro e w' ⟨u, rfl, hu, hb'⟩
    rw [hnd] at hu
    have hu2 := hu.drop
    obtain ⟨Z, zc, rfl, _, _, _, hA⟩ := hu.drop.open
    rw [hlw, hl, hlm] at hu2
    rw [hlw, hl, hlm, hes]
    rw [hl, hlm] at hA
    exact ⟨Z, zc, rfl, hA, hu2, hb'⟩
  obtain ⟨R0, hR0⟩ : ∃ q, rightO s l0 a fr tb ends = q := ⟨_, rfl⟩
  have hno := Lib.hid (fun hh => hR0.symm.trans (right_no (s := s) (l := l0) (a := a) (k := fr) (tb := tb) (ends := ends) hh))
  have hyes := Lib.hid (fun h1 h2 h3 => hR0.symm.trans (right_yes (s := s) (l := l0) (a := a) (k := fr) (tb := tb) (ends := ends) h1 h2 h3))
  rw [hnd, hlw, hl] at hno hyes
  have hmy := Lib.hid (fun hh => (rm_may (s := s) (a := a) hh).1)
  rw [hnd] at hmy
  rw [hR0]
  have HG0 : Bag w [OldR (.agg #[.slice A s.1.1.length ca, .slice B s.1.2.length cb, .slice N s.2.1.length cn, .slice L s.2.2.length cl]) s] := (Bag.nil w).add (F := OldR _ s) h (lasts_oldR _ _)
  obtain ⟨w0, hw0, hg0, hB0, _, hs0⟩ := bag_four HG0 (Below.refl _ _) (.slice A s.1.1.length ca) (.slice B s.1.2.length cb) (.slice N s.2.1.length cn) (.slice L s.2.2.length cl) 29
  obtain ⟨w1, hw1, hg1, hB1, _, hs1⟩ := bag_key hg0 (Below.refl _ _) (.int .u8 (fr.1.toNat : Int)) (.int .u32 fr.2.1) (.int .u32 fr.2.2)
  obtain ⟨w2, hw2, hg2, hB2, _, hs2⟩ := bag_key hg1 (Below.refl _ _) (.int .u8 (tb.1.toNat : Int)) (.int .u32 tb.2.1) (.int .u32 tb.2.2)
  have HG := Lib.hid hg2
  have BB := Lib.hid ((hB0.trans (hB1.mono hB0.size)).trans (hB2.mono (hB0.trans (hB1.mono hB0.size)).size))
  have k2 : Hid (Sto (Old w2) w2 (.agg #[.slice A s.1.1.length ca, .slice B s.1.2.length cb, .slice N s.2.1.length cn, .slice L s.2.2.length cl]) s) := Lib.hid (HG.out.at 3 rfl)
  obtain ⟨s0, s1, s2, s3, _⟩ := HG.out.at 2 rfl
  replace hs2 := Lib.hid hs2
  replace hs1 := Lib.hid hs1
  replace hs0 := Lib.hid hs0
  replace hR0 := Lib.hid hR0
  clear HG0 hg2 hg1 hg0 h hB2 hB1 hB0
  unfold kyV
  go_enter Tryz.func103, Tryz.ntmps103
  go_upto_region 1 with fail
  clear hw0 hw1 hw2
  go_wp2_with fail
  with_reducible refine (hRd.out _ _ k2.out).mono ?_
  rintro e w3 ⟨Z, zc, rfl, h3, h3n, hb3⟩
  obtain ⟨w4, hw4, hg4, hb4, -, hs4⟩ := bag_node (((HG.out.below hb3).add (F := OldIs _ l) h3 (lasts_oldIs _ _)).add (F := OldN _ nd) h3n (lasts_oldN _ _)) (Below.refl _ _) (.int .i64 lw) (.slice Z m zc)
  replace HG := Lib.hid hg4
  replace BB := Lib.hid (BB.out.trans ((hb3.trans (hb4.mono hb3.size)).mono BB.out.size))
  replace hs4 := Lib.hid hs4
  clear hg4 hb4 hb3 h3 h3n k2 s0 s1 s2 s3 hRd
  go_upto_region 2 with fail
  clear hw4
  obtain ⟨y0, y1, _⟩ := HG.out.at 0 rfl
  obtain ⟨f0, f1, f2, _⟩ := HG.out.at 4 rfl
  by_cases he : rmE s a = 0
  case neg =>
    have e1 : es = false := by rw [← hes]; simpa using he
    have hf := Lib.hid (hno.out (fun hh => he hh.1))
    subst e1
    replace hes := Lib.hid hes
    clear he
    go_quiet (fail)
    go_wp2_with fail
    go_ret
    exact ⟨ret_bool hf.out.symm, below_drewN BB.out _⟩
  have e1 : es = true := by rw [← hes, he]; rfl
  subst e1
  have hmn := Lib.hid (hmy.out he)
  have hm5 : m ≤ 5 := by
    have := (mayN_of hmn.out).1.2.2.1
    rw [hl, hlm] at this
    exact this
  replace hes := Lib.hid hes
  replace hnd := Lib.hid hnd
  replace hlw' := Lib.hid hlw
  clear hlw
  replace hl := Lib.hid hl
  replace hlm := Lib.hid hlm
  by_cases hlv : lw = (l0 : Int)
  case neg =>
    have c1 : (lw != (l0 : Int)) = true := by simpa using hlv
    have hf := Lib.hid (hno.out (fun hh => hlv hh.2.1))
    clear hlv he
    go_quiet (fail)
    go_wp2_with fail
    go_ret
    exact ⟨ret_bool hf.out.symm, below_drewN BB.out _⟩
  have c1 : (lw != (l0 : Int)) = false := by simp [hlv]
  by_cases hm0 : m = 0
  · have hf := Lib.hid (hno.out (fun hh => head_nil (by rw [hlm.out]; exact hm0) hh.2.2))
    have c2 : ((m : Int) == 0) = true := by simp [hm0]
    subst hm0
    clear hlv he
    go_quiet (fail)
    go_wp2_with fail
    go_ret
    exact ⟨ret_bool hf.out.symm, below_drewN BB.out _⟩
  have c2 : ((m : Int) == 0) = false := by simpa using hm0
  obtain ⟨x, hx0⟩ : ∃ x, l[0]? = some x := ⟨_, List.getElem?_eq_getElem (by rw [hlm.out]; omega)⟩
  have hIt : rIts (Old w4) w4 [.slice Z m zc] l := HG.out.at 2 rfl
  obtain ⟨ad, E5, ce5, rfl, _, FX⟩ := its_first hIt hx0
  obtain ⟨⟨z0, z1, z2, _, _⟩, _⟩ := FX w4 (Below.refl _ _)
  have hke := key_eq x.1 fr
  have hkg := key_guard
  unfold kyV at hke
  have i0 : (0 : Int) < (m : Int) := by omega
  have i00 : 0 < m := by omega
  have i01 : m ≠ 0 := hm0
  by_cases hkk : x.1 = fr
  case neg =>
    have hf := Lib.hid (hno.out (fun hh => head_no hx0 hkk hh.2.2))
    have c3 : decide (x.1 = fr) = false := by simpa using hkk
    rw [c3] at hke
    replace hx0 := Lib.hid hx0
    clear hlv he hkk hIt FX hm0
    go_quiet (fail)
    go_wp2_with fail
    go_ret
    exact ⟨ret_bool hf.out.symm, below_drewN BB.out _⟩
  have c3 : decide (x.1 = fr) = true := by simpa using hkk
  rw [c3] at hke
  have hlv2 := Lib.hid (show nd.1 = (l0 : Int) by rw [hlw'.out, hlv])
  have FX' := Lib.hid (fun W (hW : Below w4.heap.size w4 W) => (FX W hW).1)
  have hx := Lib.hid hx0
  have hyes' := Lib.hid (fun hh => hyes.out he hlv hh)
  have hno' := Lib.hid (fun (hh : ¬ headO l fr tb ends = true) => hno.out (fun h3 => hh h3.2.2))
  clear hyes hno hmy FX
  clear z0 z1 z2 f0 f1 f2 y0 y1
  refine wp_region_fx (by kernel_rfl) (fun W => Below w4.heap.size w4 W) (fun _ => none) (fun _ => none) (by kernel_rfl) (Below.refl _ _).drew (fun w w' h hb => h.trans (hb.mono h.size)) (fun j φ x W W' hp => by cases hp) ?_
  repeat (first
    | (refine wpAs_skip rfl ?_; simp only [Act.put, List.setIfInBounds_toArray, List.set_cons_zero, List.set_cons_succ])
    | (refine wpAs_pure (v := ?_) rfl rfl ?_ ?_; rotate_left; (intro W hC hE; clear hE; (have HW := HG.out.below hC; obtain ⟨y0, y1, _⟩ := HW.at 0 rfl; obtain ⟨f0, f1, f2, _⟩ := HW.at 4 rfl; clear HW; obtain ⟨z0, z1, z2, _, _⟩ := FX'.out W hC); clear hC; go_simp; done); simp only [Act.put, List.setIfInBounds_toArray, List.set_cons_zero, List.set_cons_succ])
    | (refine wpAs_pure (v := ?_) rfl rfl ?_ ?_; rotate_left; (intro W hC hE; clear hE; (have HW := HG.out.below hC; obtain ⟨y0, y1, _⟩ := HW.at 0 rfl; obtain ⟨f0, f1, f2, _⟩ := HW.at 4 rfl; clear HW; obtain ⟨z0, z1, z2, _, _⟩ := FX'.out W hC); clear hC; go_simp; with_reducible rfl); simp only [Act.put, List.setIfInBounds_toArray, List.set_cons_zero, List.set_cons_succ]))
  refine wpAs_end fun W5 hC hE => ?_
  have H5 := Lib.hid (HG.out.below hC)
  have B5 := Lib.hid (BB.out.trans (hC.mono BB.out.size))
  have FX5 := Lib.hid (fun W (hW : Below W5.heap.size W5 W) => FX'.out W (hC.trans (hW.mono hC.size)))
  clear hE hC HG BB FX'
  go_wp2_with fail
  clear c1 c2 c3 hkg hke
  obtain ⟨j, hj⟩ : ∃ j, m = j + 1 := ⟨m - 1, by omega⟩
  obtain ⟨y, hy0⟩ : ∃ y, l[j]? = some y := ⟨_, List.getElem?_eq_getElem (by rw [hlm.out]; omega)⟩
  cases ends with
  | false =>
    have hf := Lib.hid (hyes'.out (head_free hx.out hkk)).symm
    clear hyes' hy0
    replace hj := Lib.hid hj
    replace hlv := Lib.hid hlv
    refine wp_region_fx (by kernel_rfl) (fun W => Below W5.heap.size W5 W) (fun _ => none) (fun _ => none) (by kernel_rfl) (Below.refl _ _).drew (fun w w' h hb => h.trans (hb.mono h.size)) (fun j φ x W W' hp => by cases hp) ?_
    iterate 1 (first
      | (refine wpAs_skip rfl ?_; simp only [Act.put, List.setIfInBounds_toArray, List.set_cons_zero, List.set_cons_succ])
      | (refine wpAs_pure (v := ?_) rfl rfl ?_ ?_; rotate_left; (intro W hC hE; clear hE; skip; clear hC; go_simp; with_reducible rfl); simp only [Act.put, List.setIfInBounds_toArray, List.set_cons_zero, List.set_cons_succ]))
    refine wpAs_pure_jump (v := .bool false) 12 rfl rfl rfl ?_ (by kernel_rfl) ?_
    · intro W hC hE
      clear hE hC
      first
        | (go_simp; done)
        | (go_simp; simp; omega)
        | (go_simp; simp_all; done)
    simp only [skipN, Act.put, List.drop_succ_cons, List.drop_zero, List.setIfInBounds_toArray, List.set_cons_zero, List.set_cons_succ]
    iterate 1 (first
      | (refine wpAs_skip rfl ?_; simp only [Act.put, List.setIfInBounds_toArray, List.set_cons_zero, List.set_cons_succ])
      | (refine wpAs_pure (v := ?_) rfl rfl ?_ ?_; rotate_left; (intro W hC hE; clear hE; skip; clear hC; go_simp; with_reducible rfl); simp only [Act.put, List.setIfInBounds_toArray, List.set_cons_zero, List.set_cons_succ]))
    refine wpAs_end fun W6 hC hE => ?_
    have H6 := Lib.hid (H5.out.below hC)
    have B6 := Lib.hid (B5.out.trans (hC.mono B5.out.size))
    clear hE hC H5 B5
    obtain ⟨s0, s1, s2, s3, _⟩ := H6.out.at 5 rfl
    obtain ⟨g0, g1, g2, _⟩ := H6.out.at 3 rfl
    obtain ⟨y0, y1, _⟩ := H6.out.at 0 rfl
    have k1 : Hid (Nod (Old W6) W6 (.agg #[.int .i64 lw, .slice (some ad) m zc]) nd) := Lib.hid (H6.out.at 1 rfl)
    have k2 : Hid (Sto (Old W6) W6 (.agg #[.slice A s.1.1.length ca, .slice B s.1.2.length cb, .slice N s.2.1.length cn, .slice L s.2.2.length cl]) s) := Lib.hid (H6.out.at 6 rfl)
    have hcall := Lib.hid (hin _ _ nd tb false W6 hmn.out hlv2.out k2.out k1.out)
    go_wp2_with fail
    with_reducible refine hcall.out.mono ?_
    rintro e w7 ⟨rfl, hb7⟩
    have B7 := Lib.hid (B6.out.trans (hb7.mono B6.out.size))
    clear hb7
    go_wp2_with fail
    go_ret
    exact ⟨ret_bool hf.out, B7.out⟩
  | true =>
    have hIt5 : rIts (Old W5) W5 [.slice (some ad) m zc] l := H5.out.at 2 rfl
    obtain ⟨ad', E6, ce6, e6, _, _, _, FY⟩ := its_old hIt5 hy0
    cases e6
    have FY' := Lib.hid (fun W (hW : Below W5.heap.size W5 W) => (FY W hW).1)
    have hhead := Lib.hid (head_last (tb := tb) hx.out hkk (by rw [hlm.out]; exact hj) hy0)
    have i6 : (m : Int) - 1 = (j : Int) := by omega
    have i7 : (j : Int) < (m : Int) := by omega
    have i8 : (0 : Int) ≤ (j : Int) := by omega
    have i9 : IntKind.i64.wrap (j : Int) = (j : Int) := IntWalk.i64_in _ (by omega)
    replace hj := Lib.hid hj
    replace hlv := Lib.hid hlv
    clear FY hIt5 hIt FX5 hy0
    obtain ⟨q, hq⟩ : ∃ q, lessK y.1 tb = q := ⟨_, rfl⟩
    rw [hq] at hhead
    replace hq := Lib.hid hq
    refine wp_region_fx (by kernel_rfl) (fun W => Below W5.heap.size W5 W) (fun _ => none) (fun i => match i with
      | 12 => some (.bool q)
      | _ => none) (by kernel_rfl) (Below.refl _ _).drew (fun w w' h hb => h.trans (hb.mono h.size)) (fun j φ x W W' hp => by cases hp) ?_
    repeat (first
      | (refine wpAs_skip rfl ?_; simp only [Act.put, List.setIfInBounds_toArray, List.set_cons_zero, List.set_cons_succ])
      | (refine wpAs_pure (v := ?_) rfl rfl ?_ ?_; rotate_left; (intro W hC hE; clear hE; (have HW := H5.out.below hC; obtain ⟨y0, y1, _⟩ := HW.at 0 rfl; obtain ⟨g0, g1, g2, _⟩ := HW.at 3 rfl; clear HW; obtain ⟨z0, z1, z2, _, _⟩ := FY'.out W hC); clear hC; go_simp; done); simp only [Act.put, List.setIfInBounds_toArray, List.set_cons_zero, List.set_cons_succ])
      | (refine wpAs_pure (v := ?_) rfl rfl ?_ ?_; rotate_left; (intro W hC hE; clear hE; (have HW := H5.out.below hC; obtain ⟨y0, y1, _⟩ := HW.at 0 rfl; obtain ⟨g0, g1, g2, _⟩ := HW.at 3 rfl; clear HW; obtain ⟨z0, z1, z2, _, _⟩ := FY'.out W hC); clear hC; go_simp; with_reducible rfl); simp only [Act.put, List.setIfInBounds_toArray, List.set_cons_zero, List.set_cons_succ]))
    refine wpAs_fixed rfl rfl rfl ?_ ?_
    · intro W hC hE
      refine does_enter (f := 56) (args := #[kyV y.1, kyV tb]) ?_ ?_
      · go_simp
      · refine (refLess_any y.1 tb W).mono ?_
        (rintro e W' ⟨rfl, hg⟩; rw [hq.out])
        exact ⟨_, rfl, rfl, hg⟩
    simp only [Act.put, List.setIfInBounds_toArray, List.set_cons_zero, List.set_cons_succ]
    repeat (first
      | (refine wpAs_skip rfl ?_; simp only [Act.put, List.setIfInBounds_toArray, List.set_cons_zero, List.set_cons_succ])
      | (refine wpAs_pure (v := ?_) rfl rfl ?_ ?_; rotate_left; (intro W hC hE; clear hE; skip; clear hC; go_simp; done); simp only [Act.put, List.setIfInBounds_toArray, List.set_cons_zero, List.set_cons_succ])
      | (refine wpAs_pure (v := ?_) rfl rfl ?_ ?_; rotate_left; (intro W hC hE; clear hE; skip; clear hC; go_simp; with_reducible rfl); simp only [Act.put, List.setIfInBounds_toArray, List.set_cons_zero, List.set_cons_succ]))
    refine wpAs_end fun W6 hC hE => ?_
    have H6 := Lib.hid (H5.out.below hC)
    have B6 := Lib.hid (B5.out.trans (hC.mono B5.out.size))
    clear hE hC H5 B5 FY' i6 i7 i8 i9
    cases q with
    | false =>
      have hf := Lib.hid (hno'.out (by rw [hhead.out]; simp))
      go_wp2_with fail
      go_ret
      exact ⟨ret_bool hf.out.symm, B6.out⟩
    | true =>
      have hf := Lib.hid (hyes'.out hhead.out).symm
      obtain ⟨s0, s1, s2, s3, _⟩ := H6.out.at 5 rfl
      obtain ⟨g0, g1, g2, _⟩ := H6.out.at 3 rfl
      obtain ⟨y0, y1, _⟩ := H6.out.at 0 rfl
      have k1 : Hid (Nod (Old W6) W6 (.agg #[.int .i64 lw, .slice (some ad) m zc]) nd) := Lib.hid (H6.out.at 1 rfl)
      have k2 : Hid (Sto (Old W6) W6 (.agg #[.slice A s.1.1.length ca, .slice B s.1.2.length cb, .slice N s.2.1.length cn, .slice L s.2.2.length cl]) s) := Lib.hid (H6.out.at 6 rfl)
      have hcall := Lib.hid (hin _ _ nd tb true W6 hmn.out hlv2.out k2.out k1.out)
      go_wp2_with fail
      with_reducible refine hcall.out.mono ?_
      rintro e w7 ⟨rfl, hb7⟩
      have B7 := Lib.hid (B6.out.trans (hb7.mono B6.out.size))
      clear hb7
      go_wp2_with fail
      go_ret
      exact ⟨ret_bool hf.out, B7.out⟩

theorem right_inner (s : Rm) (hm : mayR s = true) : ∀ l : Nat, InnerIs s l ∧ RightIs s l := by
  intro l
  induction l using Nat.strongRecOn with
  | ind l ih =>
    have h1 : InnerIs s l := inner_step s hm l fun j hj => (ih j (by omega)).2
    exact ⟨h1, right_step s hm l h1⟩
end Go.Proofs.YtdaidhbmfocodaaGreat

/-
  The document's Tree and Check of layer 10; its Read and package room's Node, opened. Conditions: those that each lemma states.
-/
namespace Go.Proofs.YtdaidhbmfocodaaGreat
open Go.RowKit

theorem refRead_open (v : Value) (s : Rm) (a : Int) (hm : mayR s = true) (w : World) (h : Sto (Old w) w v s) :
    Calls Tryz.prog 57 #[v, .int .i64 a] w fun e w' => ∃ Z zc, e = .returned (.tuple #[.agg #[.int .i64 (rmV s a).1, .slice Z (rmV s a).2.length zc], .bool (rmE s a == 0)]) ∧ rIts (Old w') w' [.slice Z (rmV s a).2.length zc] (rmV s a).2 ∧
      Nod (New w.heap.size w') w' (.agg #[.int .i64 (rmV s a).1, .slice Z (rmV s a).2.length zc]) (rmV s a) ∧ Below w.heap.size w w' := by
  refine (refReadR_any v s a hm w h).mono ?_
  rintro e w' ⟨u, rfl, hu, hb'⟩
  have hu2 := hu
  obtain ⟨Z, zc, rfl, _, _, _, hA⟩ := hu.drop.open
  exact ⟨Z, zc, rfl, hA, hu2, hb'⟩
theorem nodeR_open (v : Value) (s : Rm) (a : Int) (w : World) (h : Sto (Old w) w v s) :
    Calls Tryz.prog 19 #[v, .int .i64 a] w fun e w' => ∃ Z zc, e = .returned (.tuple #[.agg #[.int .i64 (rmV s a).1, .slice Z (rmV s a).2.length zc], .int .i64 (rmE s a)]) ∧ rIts (Old w') w' [.slice Z (rmV s a).2.length zc] (rmV s a).2 ∧
      Nod (New w.heap.size w') w' (.agg #[.int .i64 (rmV s a).1, .slice Z (rmV s a).2.length zc]) (rmV s a) ∧ Below w.heap.size w w' := by
  refine (nodeR_any v s a w h).mono ?_
  rintro e w' ⟨u, rfl, hu, hb'⟩
  have hu2 := hu
  obtain ⟨Z, zc, rfl, _, _, _, hA⟩ := hu.drop.open
  exact ⟨Z, zc, rfl, hA, hu2, hb'⟩

theorem fnH_no {s : Rm} {a : Int} (h : treeO s a = false) : fnH s a = -1 := by rw [fnH, h]; rfl
theorem fnH_yes {s : Rm} {a : Int} (h : treeO s a = true) : fnH s a = (rmV s a).1 + 1 := by rw [fnH, h]; rfl
theorem tree_no {s : Rm} {a : Int} (h : rmE s a ≠ 0) : treeO s a = false := by simp [treeO, h]
theorem tree_in {s : Rm} {a : Int} (h : rmE s a = 0) : treeO s a = innerO s (rmV s a) keyZ false := by simp [treeO, h]

set_option maxRecDepth 100000 in
set_option maxHeartbeats 4000000 in
theorem refTree_any (v : Value) (s : Rm) (a : Int) (hm : mayR s = true) (w : World) (h : Sto (Old w) w v s) :
    Calls Tryz.prog 54 #[v, .int .i64 a] w fun e w' => e = .returned (.int .i64 (fnH s a)) ∧ Below w.heap.size w w' := by
  obtain ⟨A, ca, B, cb, N, cn, L, cl, rfl, _⟩ := id h.open
  have hRd := Lib.hid (fun v W hW => refRead_open v s a hm W hW)
  have hno := Lib.hid (fun hh => fnH_no (s := s) (a := a) hh)
  have hyes := Lib.hid (fun hh => fnH_yes (s := s) (a := a) hh)
  have htn := Lib.hid (fun hh => tree_no (s := s) (a := a) hh)
  have hti := Lib.hid (fun hh => tree_in (s := s) (a := a) hh)
  have hmy := Lib.hid (fun hh => (rm_may (s := s) (a := a) hh).1)
  obtain ⟨nd, hnd⟩ : ∃ q, rmV s a = q := ⟨_, rfl⟩
  obtain ⟨R0, hR0⟩ : ∃ q, fnH s a = q := ⟨_, rfl⟩
  rw [hnd] at hRd hyes hti hmy
  rw [hR0] at hno hyes ⊢
  obtain ⟨lw, hlw⟩ : ∃ q, nd.1 = q := ⟨_, rfl⟩
  obtain ⟨l, hl⟩ : ∃ q, nd.2 = q := ⟨_, rfl⟩
  obtain ⟨m, hlm⟩ : ∃ q, l.length = q := ⟨_, rfl⟩
  obtain ⟨es, hes⟩ : ∃ q, (rmE s a == 0) = q := ⟨_, rfl⟩
  rw [hlw, hl, hlm, hes] at hRd
  rw [hlw] at hyes
  have HG0 : Bag w [OldR (.agg #[.slice A s.1.1.length ca, .slice B s.1.2.length cb, .slice N s.2.1.length cn, .slice L s.2.2.length cl]) s] := (Bag.nil w).add (F := OldR _ s) h (lasts_oldR _ _)
  obtain ⟨w0, hw0, hg0, hB0, _, hs0⟩ := bag_four HG0 (Below.refl _ _) (.slice A s.1.1.length ca) (.slice B s.1.2.length cb) (.slice N s.2.1.length cn) (.slice L s.2.2.length cl) 29
  have HG := Lib.hid hg0
  have BB := Lib.hid hB0
  have k2 : Hid (Sto (Old w0) w0 (.agg #[.slice A s.1.1.length ca, .slice B s.1.2.length cb, .slice N s.2.1.length cn, .slice L s.2.2.length cl]) s) := Lib.hid (HG.out.at 1 rfl)
  obtain ⟨s0, s1, s2, s3, _⟩ := HG.out.at 0 rfl
  replace hs0 := Lib.hid hs0
  replace hR0 := Lib.hid hR0
  clear HG0 hg0 h hB0
  go_enter Tryz.func54, Tryz.ntmps54
  go_upto_region 1 with fail
  clear hw0
  go_wp2_with fail
  with_reducible refine (hRd.out _ _ k2.out).mono ?_
  rintro e w3 ⟨Z, zc, rfl, h3, h3n, hb3⟩
  obtain ⟨w4, hw4, hg4, hb4, -, hs4⟩ := bag_node (((HG.out.below hb3).add (F := OldIs _ l) h3 (lasts_oldIs _ _)).add (F := OldN _ nd) h3n.drop (lasts_oldN _ _)) (Below.refl _ _) (.int .i64 lw) (.slice Z m zc)
  replace HG := Lib.hid hg4
  replace BB := Lib.hid (BB.out.trans ((hb3.trans (hb4.mono hb3.size)).mono BB.out.size))
  replace hs4 := Lib.hid hs4
  clear hg4 hb4 hb3 h3 h3n k2 s0 s1 s2 s3 hRd
  go_upto_region 2 with fail
  clear hw4
  obtain ⟨y0, y1, _⟩ := HG.out.at 0 rfl
  obtain ⟨f0, f1, f2, f3, _⟩ := HG.out.at 3 rfl
  have k1 : Hid (Nod (Old w4) w4 (.agg #[.int .i64 lw, .slice Z m zc]) nd) := Lib.hid (HG.out.at 1 rfl)
  have k2 : Hid (Sto (Old w4) w4 (.agg #[.slice A s.1.1.length ca, .slice B s.1.2.length cb, .slice N s.2.1.length cn, .slice L s.2.2.length cl]) s) := Lib.hid (HG.out.at 4 rfl)
  by_cases he : rmE s a = 0
  case neg =>
    have e1 : es = false := by rw [← hes]; simpa using he
    have hf := Lib.hid (hno.out (htn.out he))
    subst e1
    replace hes := Lib.hid hes
    replace hnd := Lib.hid hnd
    replace hlw := Lib.hid hlw
    replace hl := Lib.hid hl
    replace hlm := Lib.hid hlm
    clear he
    go_wp2_with fail
    go_ret
    exact ⟨ret_int hf.out.symm, BB.out⟩
  have e1 : es = true := by rw [← hes, he]; rfl
  subst e1
  have hmn := Lib.hid (hmy.out he)
  have hti0 := Lib.hid (hti.out he)
  obtain ⟨q, hq⟩ : ∃ q, innerO s nd keyZ false = q := ⟨_, rfl⟩
  rw [hq] at hti0
  have hsh := (mayN_of hmn.out).1
  rw [hlw] at hsh
  obtain ⟨g0, g6, _⟩ := hsh
  have hcall : Hid (Calls Tryz.prog 81 #[.agg #[.slice A s.1.1.length ca, .slice B s.1.2.length cb, .slice N s.2.1.length cn, .slice L s.2.2.length cl], .agg #[.int .i64 lw, .slice Z m zc], .agg #[.int .u8 0, .int .u32 0, .int .u32 0], .bool false] w4 fun e w' => e = .returned (.bool q) ∧ Below w4.heap.size w4 w') := Lib.hid (by
    have := (right_inner s hm nd.1.toNat).1 _ _ nd keyZ false w4 hmn.out (by rw [hlw]; omega) k2.out k1.out
    rw [hq] at this
    exact this)
  have i9 : IntKind.i64.wrap (lw + 1) = lw + 1 := IntWalk.i64_in _ (by omega)
  replace hes := Lib.hid hes
  replace hnd := Lib.hid hnd
  replace hlw := Lib.hid hlw
  replace hl := Lib.hid hl
  replace hlm := Lib.hid hlm
  replace hq := Lib.hid hq
  clear he
  go_wp2_with fail
  with_reducible refine hcall.out.mono ?_
  rintro e w5 ⟨rfl, hb5⟩
  have HG5 := Lib.hid (HG.out.below hb5)
  have B5 := Lib.hid (BB.out.trans (hb5.mono BB.out.size))
  clear hb5 y0 y1 f0 f1 f2 f3
  obtain ⟨y0, y1, _⟩ := HG5.out.at 0 rfl
  cases q with
  | false =>
    have hf := Lib.hid (hno.out hti0.out)
    go_wp2_with fail
    go_ret
    exact ⟨ret_int hf.out.symm, B5.out⟩
  | true =>
    have hf := Lib.hid (hyes.out hti0.out)
    go_wp2_with fail
    go_ret
    exact ⟨ret_int hf.out.symm, B5.out⟩

theorem ck_no {s : Rm} {a : Int} (h : asE s a ≠ 0) : ckE s a = asE s a ∧ ckH s a = 0 := by
  have e : ckE s a = asE s a := by rw [ckE, if_neg h]
  exact ⟨e, by rw [ckH, e, if_neg h]⟩
theorem ck_bad {s : Rm} {a : Int} (h : asE s a = 0) (ht : treeO s a = false) : ckE s a = 8 ∧ ckH s a = 0 := by
  have e : ckE s a = 8 := by rw [ckE, if_pos h, ht]; rfl
  exact ⟨e, by rw [ckH, e, if_neg (by decide)]⟩
theorem ck_ok {s : Rm} {a : Int} (h : asE s a = 0) (ht : treeO s a = true) : ckE s a = 0 ∧ ckH s a = (rmV s a).1 + 1 := by
  have e : ckE s a = 0 := by rw [ckE, if_pos h, ht]; rfl
  exact ⟨e, by rw [ckH, e, if_pos rfl]⟩
theorem ck_of {s : Rm} {a : Int} (h : ckE s a = 0) : treeO s a = true ∧ asE s a = 0 ∧ ckH s a = (rmV s a).1 + 1 := by
  by_cases ha : asE s a = 0
  · cases ht : treeO s a with
    | false => rw [(ck_bad ha ht).1] at h; cases h
    | true => exact ⟨rfl, ha, (ck_ok ha ht).2⟩
  · rw [(ck_no ha).1] at h
    exact absurd h ha

set_option maxRecDepth 100000 in
set_option maxHeartbeats 4000000 in
theorem refCheckF_any (v : Value) (s : Rm) (a : Int) (w : World) (h : Sto (Old w) w v s) :
    Calls Tryz.prog 29 #[v, .int .i64 a] w fun e w' => e = .returned (.tuple #[.int .i64 (ckH s a), .int .i64 (ckE s a)]) ∧ Below w.heap.size w w' := by
  obtain ⟨A, ca, B, cb, N, cn, L, cl, rfl, _⟩ := id h.open
  have HG0 : Bag w [OldR (.agg #[.slice A s.1.1.length ca, .slice B s.1.2.length cb, .slice N s.2.1.length cn, .slice L s.2.2.length cl]) s] := (Bag.nil w).add (F := OldR _ s) h (lasts_oldR _ _)
  obtain ⟨w0, hw0, hg0, hB0, _, hs0⟩ := bag_four HG0 (Below.refl _ _) (.slice A s.1.1.length ca) (.slice B s.1.2.length cb) (.slice N s.2.1.length cn) (.slice L s.2.2.length cl) 29
  have HG := Lib.hid hg0
  have BB := Lib.hid hB0
  have k2 : Hid (Sto (Old w0) w0 (.agg #[.slice A s.1.1.length ca, .slice B s.1.2.length cb, .slice N s.2.1.length cn, .slice L s.2.2.length cl]) s) := Lib.hid (HG.out.at 1 rfl)
  obtain ⟨s0, s1, s2, s3, _⟩ := HG.out.at 0 rfl
  replace hs0 := Lib.hid hs0
  clear HG0 hg0 h hB0
  have hkn := Lib.hid (fun hh => ck_no (s := s) (a := a) hh)
  have hkb := Lib.hid (fun hh hh' => ck_bad (s := s) (a := a) hh hh')
  have hko := Lib.hid (fun hh hh' => ck_ok (s := s) (a := a) hh hh')
  obtain ⟨E0, hE0⟩ : ∃ q, ckE s a = q := ⟨_, rfl⟩
  obtain ⟨H0, hH0⟩ : ∃ q, ckH s a = q := ⟨_, rfl⟩
  rw [hE0, hH0] at hkn hkb hko
  rw [hE0, hH0]
  replace hE0 := Lib.hid hE0
  replace hH0 := Lib.hid hH0
  rcases as_ways s a with ⟨hm, e⟩ | ⟨hm, hn, e⟩ | ⟨k, hm, rfl, h8, h256, hx, e⟩ | ⟨k, hm, rfl, h8, h256, hx, e⟩
  · have hf := Lib.hid (hkn.out (by rw [e]; decide))
    rw [e] at hf
    replace e := Lib.hid e
    go_enter Tryz.func29, Tryz.ntmps29
    go_upto_region 1 with fail
    clear hw0
    go_wp2_with fail
    with_reducible refine (refMayR_any _ s _ k2.out).mono ?_
    rintro e w1 ⟨rfl, hb1⟩
    rw [hm]
    have B1 := Lib.hid (BB.out.trans (hb1.mono BB.out.size))
    clear hb1
    go_wp2_with fail
    go_ret2
    exact ⟨by rw [hf.out.1, hf.out.2]; rfl, B1.out⟩
  · have hf := Lib.hid (hkn.out (by rw [e]; decide))
    rw [e] at hf
    replace e := Lib.hid e
    by_cases h8 : a < 8
    · clear hn
      go_enter Tryz.func29, Tryz.ntmps29
      go_upto_region 1 with fail
      clear hw0
      go_wp2_with fail
      with_reducible refine (refMayR_any _ s _ k2.out).mono ?_
      rintro e w1 ⟨rfl, hb1⟩
      rw [hm]
      have B1 := Lib.hid (BB.out.trans (hb1.mono BB.out.size))
      clear hb1
      go_wp2_with fail
      go_ret2
      exact ⟨by rw [hf.out.1, hf.out.2]; rfl, B1.out⟩
    · have h9 : 256 ≤ a := by omega
      clear hn
      go_enter Tryz.func29, Tryz.ntmps29
      go_upto_region 1 with fail
      clear hw0
      go_wp2_with fail
      with_reducible refine (refMayR_any _ s _ k2.out).mono ?_
      rintro e w1 ⟨rfl, hb1⟩
      rw [hm]
      have B1 := Lib.hid (BB.out.trans (hb1.mono BB.out.size))
      clear hb1
      go_wp2_with fail
      go_ret2
      exact ⟨by rw [hf.out.1, hf.out.2]; rfl, B1.out⟩
  all_goals
    obtain ⟨ad, bd, rfl, rfl, hl1, -, -, -, had, -, hc⟩ := tables_at hm k2.out.parts.2.1 k2.out.parts.2.2
    have HC := Lib.hid (fun W (hb : Below w0.heap.size w0 W) => (hb.cell (p := ad.add k) (by rw [add_block]; exact had)).trans (hc k h256).1)
    have i1 : ¬ (k : Int) < 8 := by omega
    have i2 : ¬ 256 ≤ (k : Int) := by omega
    have i3 : k < s.2.1.length := by omega
    have i5 : (0 : Int) ≤ (k : Int) := by omega
    replace hl1 := Lib.hid hl1
    clear hc had
  · have hf := Lib.hid (hkn.out (by rw [e]; decide))
    rw [e] at hf
    rw [hx] at HC
    replace hx := Lib.hid hx
    replace e := Lib.hid e
    go_enter Tryz.func29, Tryz.ntmps29
    go_upto_region 1 with fail
    clear hw0
    go_wp2_with fail
    with_reducible refine (refMayR_any _ s _ k2.out).mono ?_
    rintro e w1 ⟨rfl, hb1⟩
    rw [hm]
    have B1 := Lib.hid (BB.out.trans (hb1.mono BB.out.size))
    have q1 : w1.cell? (ad.add k) = some (.int .u8 0) := HC.out w1 hb1
    obtain ⟨t0, t1, t2, t3, _⟩ := (HG.out.below hb1).at 0 rfl
    clear hb1 s0 s1 s2 s3
    go_wp2_with fail
    go_ret2
    exact ⟨by rw [hf.out.1, hf.out.2]; rfl, B1.out⟩
  · obtain ⟨y, hy⟩ : ∃ y, s.2.1[k]?.getD 0 = y := ⟨_, rfl⟩
    rw [hy] at HC hx
    have t0 := byte_unlike (y := 0) (q := 0) rfl hx
    replace hy := Lib.hid hy
    replace hx := Lib.hid hx
    have hTr := Lib.hid (fun v W hW => refTree_any v s (k : Int) hm W hW)
    have hfn := Lib.hid (fun hh => fnH_no (s := s) (a := (k : Int)) hh)
    have hfy := Lib.hid (fun hh => fnH_yes (s := s) (a := (k : Int)) hh)
    have hlv := Lib.hid (fun hh => (tree_of (s := s) (a := (k : Int)) hh).2.2.2.1)
    obtain ⟨F, hF⟩ : ∃ F, fnH s (k : Int) = F := ⟨_, rfl⟩
    rw [hF] at hTr hfn hfy
    replace hF := Lib.hid hF
    have he := Lib.hid e
    clear e
    go_enter Tryz.func29, Tryz.ntmps29
    go_upto_region 1 with fail
    clear hw0
    go_wp2_with fail
    with_reducible refine (refMayR_any _ s _ k2.out).mono ?_
    rintro e w1 ⟨rfl, hb1⟩
    rw [hm]
    have B1 := Lib.hid (BB.out.trans (hb1.mono BB.out.size))
    have HG1 := Lib.hid (HG.out.below hb1)
    have q1 : w1.cell? (ad.add k) = some (.int .u8 (y.toNat : Int)) := HC.out w1 hb1
    obtain ⟨t0', t1, t2, t3, _⟩ := HG1.out.at 0 rfl
    clear hb1 s0 s1 s2 s3
    go_wp2_with fail
    with_reducible refine (hTr.out _ _ (HG1.out.at 1 rfl)).mono ?_
    rintro e w2 ⟨rfl, hb2⟩
    have B2 := Lib.hid (B1.out.trans (hb2.mono B1.out.size))
    clear hb2
    cases ht : treeO s (k : Int) with
    | false =>
      have h1 := hfn.out ht
      have hf := Lib.hid (hkb.out he.out ht)
      replace ht := Lib.hid ht
      subst h1
      go_wp2_with fail
      go_ret2
      exact ⟨by rw [hf.out.1, hf.out.2]; rfl, B2.out⟩
    | true =>
      have h1 := hfy.out ht
      have h2 := hlv.out ht
      have hf := Lib.hid (hko.out he.out ht)
      have hF0 : ¬ F < 0 := by omega
      replace ht := Lib.hid ht
      replace h1 := Lib.hid h1
      clear h2
      go_wp2_with fail
      go_ret2
      exact ⟨by rw [hf.out.1, hf.out.2, ← h1.out]; rfl, B2.out⟩
end Go.Proofs.YtdaidhbmfocodaaGreat

/-
  The document's One: what is found of a key. Conditions: those that each lemma states.
-/
namespace Go.Proofs.YtdaidhbmfocodaaGreat
open Go.RowKit

/-- An item of a row in new memory, in every later world. -/
theorem its_new {lo : Nat} {w : World} {A : Option Addr} {n c k : Nat} {xs : List It} {s : It} (h : rIts (New lo w) w [.slice A n c] xs) (hk : xs[k]? = some s) :
    ∃ ad E ce, A = some ad ∧ InI s ∧ ∀ W, Below w.heap.size w W → At5 W (ad.add (k * 5)) s (.slice E s.2.2.length ce) ∧ Itm (New lo W) W (itV s (.slice E s.2.2.length ce)) s := by
  obtain ⟨ad, E, ce, rfl, _, h5, hi, _, _, hin⟩ := its_at h hk
  exact ⟨ad, E, ce, rfl, hin, fun W hW => ⟨h5.below hW, hi.new (Nat.le_refl _) hW⟩⟩
def NewIs (lo : Nat) (v : Value) (l : List It) : World → Prop := fun w => rIts (New lo w) w [v] l
theorem lasts_newIs (lo : Nat) (v : Value) (l : List It) : Lasts (NewIs lo v l) := fun _ _ h hb => stab_its.new h (Nat.le_refl _) hb
/-- A box of five cells, whole. -/
def BoxW (g : Nat) (cs : Array Value) (t : TypeId) : World → Prop := fun w => w.heap[g]? = some (.cells cs t (0, 0))
theorem lasts_boxW (g : Nat) (cs : Array Value) (t : TypeId) : Lasts (BoxW g cs t) := fun _ _ h hb => (hb.block g (Array.getElem?_eq_some_iff.1 h).1).trans h

end Go.Proofs.YtdaidhbmfocodaaGreat

/-
  Package node: slices.Clone at items, Twin. Conditions: those that each lemma states.
-/
namespace Go.Proofs.YtdaidhbmfocodaaGreat
open Go.RowKit

abbrev Iv := It × Value
def cell5 (p : Iv) : List Value := [.int .u8 (p.1.1.1.toNat : Int), .int .u32 p.1.1.2.1, .int .u32 p.1.1.2.2, .int .i64 p.1.2.1, p.2]
def cells5 (ps : List Iv) : List Value := (ps.map cell5).flatten
theorem cells5_length : ∀ ps : List Iv, (cells5 ps).length = ps.length * 5
  | [] => rfl
  | p :: r => by
    have := cells5_length r
    simp [cells5, cell5] at this ⊢
    omega
theorem cells5_at : ∀ {ps : List Iv} {k : Nat} {p : Iv}, ps[k]? = some p → ∀ j v, (cell5 p)[j]? = some v → (cells5 ps)[k * 5 + j]? = some v
  | q :: r, 0, p, h, j, v, hv => by
    simp at h
    subst h
    have hj : j < (cell5 q).length := (List.getElem?_eq_some_iff.1 hv).1
    show ((cell5 q) ++ cells5 r)[0 * 5 + j]? = some v
    rw [Nat.zero_mul, Nat.zero_add, List.getElem?_append_left hj, hv]
  | q :: r, k + 1, p, h, j, v, hv => by
    have h' : r[k]? = some p := by simpa using h
    have := cells5_at h' j v hv
    show ((cell5 q) ++ cells5 r)[(k + 1) * 5 + j]? = some v
    have hl : (cell5 q).length = 5 := rfl
    rw [List.getElem?_append_right (by omega), hl, show (k + 1) * 5 + j - 5 = k * 5 + j by omega]
    exact this
theorem cells5_one {ps : List Iv} (h : ∀ p ∈ ps, p.2.oneCell' = true) : ∀ u ∈ cells5 ps, u.oneCell' = true := fun u hu => by
  unfold cells5 at hu
  rw [List.mem_flatten] at hu
  obtain ⟨l, hl, hul⟩ := hu
  obtain ⟨p, hp, rfl⟩ := List.mem_map.1 hl
  simp [cell5] at hul
  rcases hul with rfl | rfl | rfl | rfl | rfl
  · rfl
  · rfl
  · rfl
  · rfl
  · exact h p hp
end Go.Proofs.YtdaidhbmfocodaaGreat

/-
  Package node: Twin. Conditions: those that each lemma states.
-/
namespace Go.Proofs.YtdaidhbmfocodaaGreat
open Go.RowKit

theorem iv_one {ok : Addr → Prop} {w : World} {d : Value} {xs : List UInt8} (h : rBy ok w [d] xs) : d.oneCell' = true := by
  obtain ⟨_, _, rfl, _⟩ := rBy_open h
  rfl

end Go.Proofs.YtdaidhbmfocodaaGreat

/-
  Rows of items: as literals, appended to one another; all items of a node's leaves, as the laws of layer 10 gather them. Conditions: those that each lemma states.
-/
namespace Go.Proofs.YtdaidhbmfocodaaGreat
open Go.RowKit

/-- The cells of a row of items whose slices lie in new memory. -/
theorem its_cellsN {l1 : Nat} {w : World} {A : Option Addr} {n c : Nat} {xs : List It} (h : rIts (New l1 w) w [.slice A n c] xs) : ∃ ps : List Iv, ps.map (·.1) = xs ∧ Cells w w.heap.size A (cells5 ps) ∧ (∀ p ∈ ps, InI p.1 ∧ rBy (New l1 w) w [p.2] p.1.2.2) := by
  obtain ⟨ps, hl, hps⟩ := list_of (n := xs.length) (p := fun i (p : Iv) => xs[i]? = some p.1 ∧ ∃ ad, A = some ad ∧ (∀ j v, (cell5 p)[j]? = some v → ad.block < w.heap.size ∧ w.cell? (ad.add (i * 5 + j)) = some v) ∧ InI p.1 ∧ rBy (New l1 w) w [p.2] p.1.2.2) (fun i hi => by
    have hx : xs[i]? = some xs[i] := List.getElem?_eq_getElem hi
    obtain ⟨_, _, e, _, _, h4⟩ := id h
    cases e
    obtain ⟨ad, vs, rfl, e5, q, r⟩ := h4 i _ hx
    obtain ⟨d, rfl, hin, hd⟩ := rIt_open r
    exact ⟨(xs[i], d), hx, ad, rfl, fun j v hj => ⟨by have := (q j v hj).1.2.1; rwa [add_block] at this, (q j v hj).2⟩, hin, hd⟩)
  refine ⟨ps, ?_, ?_, fun p hp => ?_⟩
  · apply List.ext_getElem?
    intro i
    rw [List.getElem?_map]
    cases e : ps[i]? with
    | none =>
      have : xs.length ≤ i := by rw [← hl]; exact List.getElem?_eq_none_iff.1 e
      rw [List.getElem?_eq_none this]
      rfl
    | some p => exact (hps i p e).1.symm
  · intro j v hj
    have hlt := (List.getElem?_eq_some_iff.1 hj).1
    rw [cells5_length] at hlt
    obtain ⟨p, hp⟩ : ∃ p, ps[j / 5]? = some p := ⟨_, List.getElem?_eq_getElem (by omega)⟩
    obtain ⟨_, ad, rfl, hc, _⟩ := hps _ p hp
    obtain ⟨u, hu⟩ : ∃ u, (cell5 p)[j % 5]? = some u := ⟨_, List.getElem?_eq_getElem (by show j % 5 < 5; omega)⟩
    have h1 := cells5_at hp _ _ hu
    rw [show j / 5 * 5 + j % 5 = j by omega, hj] at h1
    cases h1
    have := hc _ _ hu
    rw [show j / 5 * 5 + j % 5 = j by omega] at this
    exact ⟨ad, rfl, this.1, this.2⟩
  · obtain ⟨i, hi⟩ := List.mem_iff_getElem?.1 hp
    obtain ⟨_, _, _, _, h1, h2⟩ := hps i p hi
    exact ⟨h1, h2⟩

/-- 'append(v, l...)': v a row of items of the call's own, l one in memory that is newer. -/
theorem its_app {w : World} {lo l1 : Nat} {A B : Option Addr} {c m d : Nat} {xs ys : List It} (h : RowOf rIt 5 52 lo w A c xs) (hy : rIts (New l1 w) w [.slice B m d] ys) (hA : ∀ g, A.map (·.block) = some g → g < l1) (hl : lo ≤ l1) (hb : xs.length + ys.length ≤ 100000) (hbase : lo ≤ w.heap.size) (n : Nat) (hn : xs.length = n) :
    ∃ A' c' w', (Builtin.append_ #[32, 32] 32 #[.slice A n c, .slice B m d]).run Tryz.prog w = .ok (.slice A' (n + m) c') w' ∧ RowOf rIt 5 52 lo w' A' c' (xs ++ ys) ∧ Below lo w w' ∧ w.grownBy w' (A.map (·.block)) ∧ (∀ g, A'.map (·.block) = some g → g < w'.heap.size) := by
  subst hn
  obtain ⟨i0, hi, hz0, hz1, hz2⟩ := info_parts item_info0
  obtain ⟨cs, ho, hcs⟩ := h
  obtain ⟨ps, hps, hC, hin⟩ := its_cellsN hy
  have hml : ys.length = m := by
    obtain ⟨_, _, e, _⟩ := its_open hy
    cases e
    rfl
  have hpl : ps.length = m := by rw [← hml, ← hps, List.length_map]
  obtain ⟨A1, c1, e, _, _, e4, _⟩ := own_any ho
  cases e
  have hone : ∀ u ∈ cells5 ps, u.oneCell' = true := cells5_one fun p hp => iv_one (hin p hp).2
  have hcl : cs.length = xs.length * 5 := ho.1
  -- what the elements say, behind
  have fin : ∀ (A2 : Option Addr) (c2 : Nat) (w' : World), w'.ownsRow lo 52 5 (.slice A2 (xs.length + m) c2) (xs.length + m) (cs ++ cells5 ps) →
      (∀ p v, NewBut lo A w p → w.cell? p = some v → NewBut lo A2 w' p ∧ w'.cell? p = some v) → RowOf rIt 5 52 lo w' A2 c2 (xs ++ ys) := fun A2 c2 w' o1 mp => by
    refine ⟨cs ++ cells5 ps, by rw [List.length_append, hml]; exact o1, fun j y hj => ?_⟩
    rcases Nat.lt_or_ge j xs.length with hjl | hjl
    · rw [List.getElem?_append_left hjl] at hj
      obtain ⟨vs, e1, e2, e3⟩ := hcs j y hj
      refine ⟨vs, e1, fun k u hk => ?_, stab_it _ _ _ _ _ _ mp e3⟩
      have hcu := e2 k u hk
      rw [List.getElem?_append_left (List.getElem?_eq_some_iff.1 hcu).1]
      exact hcu
    · rw [List.getElem?_append_right hjl, ← hps, List.getElem?_map] at hj
      obtain ⟨p, hp, rfl⟩ := Option.map_eq_some_iff.1 hj
      obtain ⟨h1, h2⟩ := hin p (List.mem_of_getElem? hp)
      refine ⟨cell5 p, rfl, fun k u hk => ?_, ?_⟩
      · have hk5 : k < 5 := (List.getElem?_eq_some_iff.1 hk).1
        rw [List.getElem?_append_right (by omega), hcl]
        rw [show j * 5 + k - xs.length * 5 = (j - xs.length) * 5 + k by omega]
        exact cells5_at hp k u hk
      · refine rIt_mk h1 (stab_by _ _ _ _ _ _ (fun q v hq hc => mp q v ⟨⟨Nat.le_trans hl hq.1, hq.2⟩, fun e => ?_⟩ hc) h2)
        have := hA _ e
        have := hq.1
        omega
  rcases B with _ | bd
  · have h0 : ps = [] := by
      cases ps with
      | nil => rfl
      | cons p r =>
        obtain ⟨_, e, _⟩ := hC 0 _ (show (cells5 (p :: r))[0]? = some (Value.int .u8 (p.1.1.1.toNat : Int)) from rfl)
        cases e
    subst h0
    obtain rfl : m = 0 := by simpa using hpl.symm
    have hap := fin A c w (by simpa [cells5] using ho) (fun p v hp hc => ⟨hp, hc⟩)
    refine ⟨A, c, w, ?_, hap, Below.refl _ _, grow_refl _ _, fun g hg => ?_⟩
    · rcases ho.2 with ⟨e, e2⟩ | ⟨g, cap, cur, e, _, _, hnc, _⟩
      · rw [Nat.add_zero, e]
        simp [Builtin.append_, run_underlying Tryz.underlying32, sizeOf, typeInfo, hi, Builtin.lenOf, Builtin.firstCells]
      · rw [Nat.add_zero, e]
        simp [Builtin.append_, run_underlying Tryz.underlying32, sizeOf, typeInfo, hi, Builtin.lenOf, Builtin.firstCells, hnc, storeCells]
    · exact (ho.lt g (by rw [e4]; exact hg)).2
  · obtain ⟨v', w', hr, o1, g1, b1, k1⟩ := app_own (P := Tryz.prog) (w := w) lo 32 32 52 i0 (.agg #[.int .u8 0, .int .u32 0, .int .u32 0, .int .i64 0, .slice none 0 0]) 5 48 Tryz.underlying32 hi hz0 hz1 hz2 rfl (by decide) _ _ cs ho bd m d (cells5 ps) (by rw [cells5_length, hpl]) (fun j u hj => by
      obtain ⟨_, e, _, h⟩ := hC j u hj
      cases e
      exact h) hone (by unfold maxLen; omega) (by omega) hbase
    obtain ⟨A2, c2, rfl, _, _, e5, _⟩ := own_any o1
    rw [e4] at g1 k1
    rw [e5] at k1
    refine ⟨A2, c2, w', hr, fin A2 c2 w' o1 (fun p v hp hc => ?_), b1, g1, fun g hg => (o1.lt g (by rw [e5]; exact hg)).2⟩
    have hb := g1.block p.block hp.1.2.1 (fun e => hp.2 e.symm)
    refine ⟨⟨⟨hp.1.1, Nat.lt_of_lt_of_le hp.1.2.1 g1.size, (World.frozen?_of_block hb).trans hp.1.2.2⟩, fun e => ?_⟩, (World.cell?_of_block hb).trans hc⟩
    rcases k1 with k | k
    · exact hp.2 (k ▸ e)
    · rw [k] at e
      simp only [Option.some.injEq] at e
      have := hp.1.2.1
      omega
end Go.Proofs.YtdaidhbmfocodaaGreat
