/-
  Lemmas on the program and on the document's answers, gathered: RefItRead, Alive05, Bag05, Node, NdCut, NdCut2, NdCheck, NdWrite, NdRead, RmNode, NdLeaf, NdPlace, NdSame, NdBack, NdRefMay, NdRefTold, NdRefSam, NdRefRead, RmRefN, RmTwin, RmAlive, RmLaw, RmSpoil, NdGreat, Spoil05, NdBag, NdRefSame. Conditions: those that each lemma states.
-/
import Derived.Test.YtjlbkcnhbndgbaaGreatBnd3
import Derived.Deep.CutBlock
import Derived.Deep.CutRange
import Derived.Laws.StructEq
import Derived.StillTailTactics
import Derived.WalkLawsBesides
/-
  The document's answers of layer 5: Read. Conditions: those that each lemma states.
-/
namespace Go.Proofs.YtjlbkcnhbndgbaaGreat
open Go.RowKit

set_option maxRecDepth 100000 in
set_option maxHeartbeats 8000000 in
theorem refReadI_any (v : Value) (b : List UInt8) (w : World) (h : rBy (Old w) w [v] b) :
    Calls Tryz.prog 84 #[v] w fun e w' => ∃ u, e = .returned (.tuple #[u, .int .i64 (itN b), .int .i64 (itE b)]) ∧ Itm (New w.heap.size w') w' u (itR b) ∧ Below w.heap.size w w' := by
  obtain ⟨A, c, rfl, l1, m1, hy⟩ := rBy_byt (B := w.heap.size) (fun p hp => hp) h
  obtain ⟨n, hn⟩ : ∃ n, b.length = n := ⟨_, rfl⟩
  have hE : Hid (itE b = if okR b then 0 else 8) := Lib.hid rfl
  have hN : Hid (itN b = if okR b then (12 + cutN b : Int) else 0) := Lib.hid rfl
  have hR : Hid (itR b = if okR b then fieldsI b else zeroI) := Lib.hid rfl
  obtain ⟨w0, hw0, _, _, _, _, _, hs0, hB0, b0⟩ := box_five w (.int .u8 0) (.int .u32 0) (.int .u32 0) (.int .i64 0) (.slice none 0 0) 110
  have lt0 : w.heap.size < w0.heap.size := by omega
  have hbad : okR b = false → ∃ u, Ending.returned (Value.tuple #[.agg #[.int .u8 0, .int .u32 0, .int .u32 0, .int .i64 0, .slice none 0 0], .int .i64 0, .int .i64 8]) = Ending.returned (Value.tuple #[u, .int .i64 (itN b), .int .i64 (itE b)]) ∧ ∀ (ok : Addr → Prop) (W : World), Itm ok W u (itR b) := fun hno =>
    ⟨_, by rw [hE.out, hN.out, hno]; rfl, fun ok W => by rw [hR.out, hno]; exact itm_zero _ _⟩
  replace hbad := Lib.hid hbad
  have HB0 := Lib.hid hB0
  have hcn := cutN_lt b
  rcases bool_ways (okC b) with hok | hok
  · have hno := okC_no hok
    obtain ⟨u, hu1, hu2⟩ := hbad.out (by simp [okR, hok])
    obtain ⟨W9, hW9, g9, gr9, gs9⟩ := put_five (u0 := .int .u8 0) (u1 := .int .u32 0) (u2 := .int .u32 0) (u3 := .int .i64 0) (u4 := .slice none 0 0) b0
    obtain ⟨k0, k1, k2, k3, k4, _, _⟩ := five_cells g9
    obtain ⟨a0, a1, a2, a3, a4, af, _⟩ := five_cells b0
    have B9 := Lib.hid (HB0.out.grown gr9 HB0.out.size (fun q e => by cases e; omega))
    replace g9 := Lib.hid g9
    replace b0 := Lib.hid b0
    replace hu1 := Lib.hid hu1
    replace hu2 := Lib.hid hu2
    replace hw0 := Lib.hid hw0
    by_cases h12 : n < 12
    · have i1 : (n : Int) < 12 := by omega
      rw [hn] at l1 ⊢
      clear hok hno hn hy h hB0 hs0 gr9 gs9
      go_enter Tryz.func84, Tryz.ntmps84
      go_upto_region 1 with fail
      rw [hw0.out]
      clear hw0
      go_wp2_with fail
      exact bodyPost_ret (v := .tuple #[.agg #[.int .u8 0, .int .u32 0, .int .u32 0, .int .i64 0, .slice none 0 0], .int .i64 0, .int .i64 8]) (by simp [results, Tryz.results84, go_sem, k0, k1, k2, k3, k4]) rfl ⟨u, hu1.out, hu2.out _ _, B9.out⟩
    · obtain ⟨ad, rfl, hb, hc⟩ := hy (by omega)
      have h11 : w0.cell? ⟨ad.block, ad.off + 11, none⟩ = some (.int .u8 (cutN b : Int)) := by
        have := (hB0.cell (p := ad.add 11) (by rw [add_block]; exact hb)).trans (hc 11 (by omega))
        simpa [Addr.add, cutN] using this
      obtain ⟨k, hk⟩ : ∃ k, cutN b = k := ⟨_, rfl⟩
      rw [hk] at h11 hno hcn
      rw [hn] at l1 hno ⊢
      have i1 : ¬ (n : Int) < 12 := by omega
      have i2 : (n : Int) - 12 < k := by omega
      clear hok hno hn hy h hc hk hB0 hs0 gr9 gs9
      go_enter Tryz.func84, Tryz.ntmps84
      go_upto_region 1 with fail
      rw [hw0.out]
      clear hw0
      go_wp2_with fail
      exact bodyPost_ret (v := .tuple #[.agg #[.int .u8 0, .int .u32 0, .int .u32 0, .int .i64 0, .slice none 0 0], .int .i64 0, .int .i64 8]) (by simp [results, Tryz.results84, go_sem, k0, k1, k2, k3, k4]) rfl ⟨u, hu1.out, hu2.out _ _, B9.out⟩
  have hyes := okC_yes hok
  obtain ⟨ad, rfl, hb, hc⟩ := hy (by omega)
  have h11 : w0.cell? ⟨ad.block, ad.off + 11, none⟩ = some (.int .u8 (cutN b : Int)) := by
    have := (hB0.cell (p := ad.add 11) (by rw [add_block]; exact hb)).trans (hc 11 (by omega))
    simpa [Addr.add, cutN] using this
  have h00 : w0.cell? ad = some (.int .u8 ((b[0]?.getD 0).toNat : Int)) := by
    have := (hB0.cell (p := ad) hb).trans (by simpa [Addr.add] using hc 0 (by omega))
    exact this
  have hin := Lib.hid (inI_fields b)
  obtain ⟨k, hk⟩ : ∃ k, cutN b = k := ⟨_, rfl⟩
  obtain ⟨x0, hx0⟩ : ∃ x : Int, ((b[0]?.getD 0).toNat : Int) = x := ⟨_, rfl⟩
  obtain ⟨x1, hx1⟩ : ∃ x, gv 4 b 1 = x := ⟨_, rfl⟩
  obtain ⟨x2, hx2⟩ : ∃ x, gv 4 b 5 = x := ⟨_, rfl⟩
  obtain ⟨x3, hx3⟩ : ∃ x, gv 2 b 9 = x := ⟨_, rfl⟩
  obtain ⟨L, hL⟩ : ∃ L, (b.drop 12).take k = L := ⟨_, rfl⟩
  have hF := Lib.hid (show fieldsI b = ((b[0]?.getD 0, x1, x2), x3, L) by rw [← hx1, ← hx2, ← hx3, ← hL, ← hk]; rfl)
  rw [hx0] at h00
  rw [hk] at h11 hyes hcn
  rw [hn] at l1 hyes ⊢
  have e1 := Lib.hid (show ge 4 n 1 = 0 from ge_yes (by omega))
  have e2 := Lib.hid (show ge 4 n 5 = 0 from ge_yes (by omega))
  have e3 := Lib.hid (show ge 2 n 9 = 0 from ge_yes (by omega))
  have i1 : ¬ (n : Int) < 12 := by omega
  have i2 : ¬ (n : Int) - 12 < k := by omega
  have i3 : 0 < n := by omega
  have HL := Lib.hid hn
  have HY := Lib.hid hy
  have HV := Lib.hid h
  have hOK : Hid (okR b = mayI (fieldsI b)) := Lib.hid (by simp [okR, hok, fldI])
  replace hok := Lib.hid hok
  replace hx0 := Lib.hid hx0
  replace hx1 := Lib.hid hx1
  replace hx2 := Lib.hid hx2
  replace hx3 := Lib.hid hx3
  replace hk := Lib.hid hk
  replace hL := Lib.hid hL
  replace hw0 := Lib.hid hw0
  replace b0 := Lib.hid b0
  obtain ⟨w2, hw2, _, _, _, _, _, hs2, hB2, b2⟩ := box_five w0 (.int .u8 x0) (.int .u32 0) (.int .u32 0) (.int .i64 0) (.slice none 0 0) 110
  have lt2 : w0.heap.size < w2.heap.size := by omega
  have C2 := Lib.hid hB2
  have B2 := Lib.hid (HB0.out.trans (hB2.mono HB0.out.size))
  replace hw2 := Lib.hid hw2
  clear hs0 hs2 hB0 hB2 h hy hc hn
  go_enter Tryz.func84, Tryz.ntmps84
  go_upto_region 1 with fail
  rw [hw0.out]
  clear hw0
  go_upto_region 4 with fail
  rw [hw2.out]
  clear hw2
  go_wp2_with fail
  with_reducible refine (getFour_refB (some ad) n c 1 b HL l1 m1 _ ((HY.out.below B2.out).more B2.out.size)).mono ?_
  rintro f3 w3 ⟨rfl, hb3⟩
  rw [e1.out, hx1.out]
  have b3 := (hb3.block w0.heap.size lt2).trans b2
  obtain ⟨w4, hw4, b4, gr4, gs4⟩ := put5_1 b3 (.int .u32 x1)
  obtain ⟨_, z3, _, _, _, zf, _⟩ := five_cells b3
  have C4 := Lib.hid ((C2.out.trans (hb3.mono C2.out.size)).grown gr4 (Nat.le_trans C2.out.size hb3.size) (fun q e => by cases e; omega))
  have lt4 : w0.heap.size < w4.heap.size := by have := hb3.size; omega
  clear hb3 gr4
  replace gs4 := Lib.hid gs4
  replace b3 := Lib.hid b3
  replace b4 := Lib.hid b4
  go_upto_region 5 with fail
  clear hw4 z3 zf b2 b3
  go_wp2_with fail
  with_reducible refine (getFour_refB (some ad) n c 5 b HL l1 m1 _ ((HY.out.below (HB0.out.trans (C4.out.mono HB0.out.size))).more (Nat.le_trans HB0.out.size C4.out.size))).mono ?_
  rintro f5 w5 ⟨rfl, hb5⟩
  rw [e2.out, hx2.out]
  have b5 := (hb5.block w0.heap.size lt4).trans b4.out
  obtain ⟨w6, hw6, b6, gr6, gs6⟩ := put5_2 b5 (.int .u32 x2)
  obtain ⟨_, _, z3, _, _, zf, _⟩ := five_cells b5
  have C6 := Lib.hid ((C4.out.trans (hb5.mono C4.out.size)).grown gr6 (Nat.le_trans C4.out.size hb5.size) (fun q e => by cases e; omega))
  have lt6 : w0.heap.size < w6.heap.size := by have := hb5.size; omega
  clear hb5 gr6
  replace gs6 := Lib.hid gs6
  replace b5 := Lib.hid b5
  replace b6 := Lib.hid b6
  go_upto_region 6 with fail
  clear hw6 z3 zf b4 b5
  go_wp2_with fail
  with_reducible refine (getTwo_refB (some ad) n c 9 b HL l1 m1 _ ((HY.out.below (HB0.out.trans (C6.out.mono HB0.out.size))).more (Nat.le_trans HB0.out.size C6.out.size))).mono ?_
  rintro f7 w7 ⟨rfl, hb7⟩
  rw [e3.out, hx3.out]
  have b7 := (hb7.block w0.heap.size lt6).trans b6.out
  obtain ⟨w8, hw8, b8, gr8, gs8⟩ := put5_3 b7 (.int .i64 x3)
  obtain ⟨_, _, _, z3, _, zf, _⟩ := five_cells b7
  have C8 := Lib.hid ((C6.out.trans (hb7.mono C6.out.size)).grown gr8 (Nat.le_trans C6.out.size hb7.size) (fun q e => by cases e; omega))
  have lt8 : w0.heap.size < w8.heap.size := by have := hb7.size; omega
  clear hb7 gr8
  replace gs8 := Lib.hid gs8
  replace b7 := Lib.hid b7
  replace b8 := Lib.hid b8
  have B8 := Lib.hid (HB0.out.trans (C8.out.mono HB0.out.size))
  have h8 : w8.cell? ⟨ad.block, ad.off + 11, none⟩ = some (.int .u8 (k : Int)) := (C8.out.cell (p := ⟨ad.block, ad.off + 11, none⟩) (Nat.lt_of_lt_of_le hb HB0.out.size)).trans h11
  go_upto_region 8 with fail
  clear hw8 z3 zf b6 b7
  obtain ⟨z0, z1, z2, z3, z4, zf, _⟩ := five_cells b8.out
  have hV8 := Lib.hid (stab_by.old HV.out B8.out)
  have hLl : Hid (L.length = k) := Lib.hid (by rw [← hL.out, List.length_take, List.length_drop, HL.out]; omega)
  have hsl : Hid (∀ W, Below w8.heap.size w8 W → rBy (Old W) W [.slice (some ⟨ad.block, ad.off + 12, none⟩) k (c - 12)] L) := Lib.hid fun W hW => by
    have h1 := rBy_part (stab_by.old hV8.out hW) 12 k (c - 12) (by rw [HL.out]; omega) (by omega) (by omega)
    rw [hL.out] at h1
    rwa [show ad.add 12 = ⟨ad.block, ad.off + 12, none⟩ by simp [Addr.add]] at h1
  have hsl0 : Hid (c = 12 → ∀ W, rBy (Old W) W [.slice (some ad) 0 0] L) := Lib.hid fun hc W => by
    have : L = [] := List.eq_nil_of_length_eq_zero (by rw [hLl.out]; omega)
    rw [this]
    exact rBy_part0 _ _ _
  replace b8 := Lib.hid b8.out
  refine wp_region_tails (by kernel_rfl) 6 (fun W => Below w8.heap.size w8 W) (fun i => match i with
      | 4 => some (fun v W => rBy (Old W) W [v] L)
      | 5 => some (fun v W => rBy (New w8.heap.size W) W [v] L)
      | _ => none) (fun _ => none) (by decide) (by kernel_rfl) (by kernel_rfl) (Below.refl _ _).drew (fun w w' h hb => h.trans (hb.mono h.size)) ?tst ?_
  case tst =>
    intro j φ x W W' hp hx hb
    match j, hp with
    | 4, hp => cases hp; exact stab_by.old hx hb
    | 5, hp => cases hp; exact stab_by.new hx (Nat.le_refl _) hb
  simp only [List.take_succ_cons, List.take_zero, List.drop_succ_cons, List.drop_zero]
  repeat (first
    | (refine wpAs_skip rfl ?_; simp only [Act.put, List.setIfInBounds_toArray, List.set_cons_zero, List.set_cons_succ])
    | (refine wpAs_pure (v := ?_) rfl rfl ?_ ?_; rotate_left; (intro W hC hE; clear hE; (have y4 := (hC.cell (p := ⟨w0.heap.size, 4, none⟩) lt8).trans z4); clear hC; go_simp; done); simp only [Act.put, List.setIfInBounds_toArray, List.set_cons_zero, List.set_cons_succ])
    | (refine wpAs_pure (v := ?_) rfl rfl ?_ ?_; rotate_left; (intro W hC hE; clear hE; (have y4 := (hC.cell (p := ⟨w0.heap.size, 4, none⟩) lt8).trans z4); clear hC; go_simp; with_reducible rfl); simp only [Act.put, List.setIfInBounds_toArray, List.set_cons_zero, List.set_cons_succ]))
  refine wpAs_act rfl rfl ?_ ?_
  · intro W hC hE
    clear hE
    have h1 := Lib.hid (hsl.out W hC)
    clear hC
    by_cases hc12 : c = 12
    · have h2 := Lib.hid (hsl0.out hc12 W)
      have hk0 : k = 0 := by omega
      subst hc12
      subst hk0
      go_simp
      exact ⟨h2.out, Below.refl _ _⟩
    · go_simp
      rw [if_pos (by omega), if_pos (by omega), show (12 + (k : Int)).toNat - 12 = k by omega]
      exact ⟨h1.out, Below.refl _ _⟩
  simp only [Act.put, List.setIfInBounds_toArray, List.set_cons_zero, List.set_cons_succ, envAdd]
  intro x55
  refine wpAs_act rfl rfl ?_ ?_
  · intro W hC hE
    have hx := hE.1 rfl
    obtain ⟨u, W', hr, hu, hb⟩ := app_copy x55 L W (by rw [hLl.out]; omega) hx
    exact does_append _ _ _ rfl rfl rfl hr ⟨stab_by.mono hu hC.size, hb⟩
  simp only [Act.put, List.setIfInBounds_toArray, List.set_cons_zero, List.set_cons_succ, envAdd]
  intro x56
  refine wpAs_end fun W hC hE => ?_
  have hx := hE.1
  clear hE
  have B9 := Lib.hid (B8.out.trans (hC.mono B8.out.size))
  have b9 := (hC.block w0.heap.size lt8).trans b8.out
  have C9 := Lib.hid (C8.out.trans (hC.mono C8.out.size))
  have b0' := (C9.out.block w.heap.size lt0).trans b0.out
  have hx' := Lib.hid hx
  obtain ⟨X, xc, rfl, _⟩ := id (rBy_open hx)
  clear hx
  obtain ⟨W5, hW5, g5, gr5, gs5⟩ := put5_4 b9 (.slice X L.length xc)
  obtain ⟨_, _, _, _, y4, yf, _⟩ := five_cells b9
  clear z0 z1 z2 z3 z4 zf
  obtain ⟨z0, z1, z2, z3, z4, zf, lt5⟩ := five_cells g5
  have bR := Lib.hid ((gr5.block w.heap.size (Nat.lt_of_lt_of_le lt0 C9.out.size) (fun e => by have := Option.some.inj e; omega)).trans b0')
  have B5 := Lib.hid (B9.out.grown gr5 B9.out.size (fun q e => by cases e; omega))
  have HI : Hid (Itm (New w0.heap.size W5) W5 (.agg #[.int .u8 x0, .int .u32 x1, .int .u32 x2, .int .i64 x3, .slice X L.length xc]) (fieldsI b)) := Lib.hid (by
    have h1 := stab_by.grown hx'.out gr5 (fun q e => by cases e; exact lt8)
    have h2 := hin.out
    rw [hF.out] at h2
    rw [hF.out, ← hx0.out]
    exact ⟨_, rfl, h2, stab_by.mono h1 (Nat.le_of_lt lt8)⟩)
  replace b9 := Lib.hid b9
  replace g5 := Lib.hid g5
  clear gr5 hC b0'
  go_wp2_with fail
  with_reducible refine (refMayI_any _ (fieldsI b) _ HI.out.drop).mono ?_
  rintro f6 w6 ⟨rfl, hb6⟩
  have B6 := Lib.hid (B5.out.trans (hb6.mono B5.out.size))
  have lt5' : w.heap.size < W5.heap.size := Nat.lt_trans lt0 lt5
  have b6 := (hb6.block w.heap.size lt5').trans bR.out
  have p0 := (hb6.cell (p := ⟨w0.heap.size, 0, none⟩) lt5).trans z0
  have p1 := (hb6.cell (p := ⟨w0.heap.size, 1, none⟩) lt5).trans z1
  have p2 := (hb6.cell (p := ⟨w0.heap.size, 2, none⟩) lt5).trans z2
  have p3 := (hb6.cell (p := ⟨w0.heap.size, 3, none⟩) lt5).trans z3
  have p4 := (hb6.cell (p := ⟨w0.heap.size, 4, none⟩) lt5).trans z4
  obtain ⟨a0, a1, a2, a3, a4, af, _⟩ := five_cells b6
  replace HI := Lib.hid (HI.out.new (Nat.le_refl _) hb6)
  clear z0 z1 z2 z3 z4 zf y4 yf hW5 hb6
  rcases bool_ways (mayI (fieldsI b)) with hm | hm
  · obtain ⟨u, hu1, hu2⟩ := hbad.out (by rw [hOK.out, hm])
    obtain ⟨W9, hW9, g9, gr9, gs9⟩ := put_five (u0 := .int .u8 0) (u1 := .int .u32 0) (u2 := .int .u32 0) (u3 := .int .i64 0) (u4 := .slice none 0 0) b6
    obtain ⟨m0, m1, m2, m3, m4, _, _⟩ := five_cells g9
    have BF := Lib.hid (B6.out.grown gr9 B6.out.size (fun q e => by cases e; omega))
    rw [hm]
    replace hm := Lib.hid hm
    replace g9 := Lib.hid g9
    replace b6 := Lib.hid b6
    replace hu1 := Lib.hid hu1
    replace hu2 := Lib.hid hu2
    clear gr9
    go_wp2_with fail
    exact bodyPost_ret (v := .tuple #[.agg #[.int .u8 0, .int .u32 0, .int .u32 0, .int .i64 0, .slice none 0 0], .int .i64 0, .int .i64 8]) (by simp [results, Tryz.results84, go_sem, m0, m1, m2, m3, m4]) rfl ⟨u, hu1.out, hu2.out _ _, BF.out⟩
  · have hyes : okR b = true := by rw [hOK.out, hm]
    have hE9 := Lib.hid (show itE b = 0 by rw [hE.out, hyes]; rfl)
    have hN9 := Lib.hid (show itN b = 12 + k by rw [hN.out, hyes, hk.out]; rfl)
    have hR9 := Lib.hid (show itR b = fieldsI b by rw [hR.out, hyes]; rfl)
    obtain ⟨W9, hW9, g9, gr9, gs9⟩ := put_five (u0 := .int .u8 x0) (u1 := .int .u32 x1) (u2 := .int .u32 x2) (u3 := .int .i64 x3) (u4 := .slice X L.length xc) b6
    obtain ⟨m0, m1, m2, m3, m4, _, _⟩ := five_cells g9
    have BF := Lib.hid (B6.out.grown gr9 B6.out.size (fun q e => by cases e; omega))
    have hfin : Hid (Itm (New w.heap.size W9) W9 (.agg #[.int .u8 x0, .int .u32 x1, .int .u32 x2, .int .i64 x3, .slice X L.length xc]) (itR b)) := Lib.hid (by
      rw [hR9.out]
      exact (HI.out.grown gr9 (fun q e => by cases e; exact lt0)).map fun p v hp hc => ⟨⟨Nat.le_trans (Nat.le_of_lt lt0) hp.1, hp.2⟩, hc⟩)
    rw [hm]
    replace hm := Lib.hid hm
    replace g9 := Lib.hid g9
    replace b6 := Lib.hid b6
    replace hyes := Lib.hid hyes
    clear gr9
    go_wp2_with fail
    exact bodyPost_ret (v := .tuple #[.agg #[.int .u8 x0, .int .u32 x1, .int .u32 x2, .int .i64 x3, .slice X L.length xc], .int .i64 (12 + k), .int .i64 0]) (by simp [results, Tryz.results84, go_sem, m0, m1, m2, m3, m4]) rfl ⟨_, by rw [hE9.out, hN9.out], hfin.out, BF.out⟩
end Go.Proofs.YtjlbkcnhbndgbaaGreat

/-
  Layer 5's law helpers: key, alive. What bytes and items tell of one another, plain. Conditions: those that each lemma states.
-/
namespace Go.Proofs.YtjlbkcnhbndgbaaGreat
open Go.RowKit

/-! ### Plain: items and their bytes -/
theorem gv_le (m : Nat) (n : Int) (xs ys : List UInt8) (k : Nat) (hk : xs.length = k) (h0 : 0 ≤ n) (h1 : n < 256 ^ m) : gv m (xs ++ (le m n ++ ys)) k = n := by
  have h := gv_yes (m := m) (xs := xs ++ (le m n ++ ys)) (k := (k : Int)) ⟨by omega, by simp [le_length, hk]; omega⟩
  rw [h]
  have e : (k : Int).toNat = xs.length := by omega
  rw [e, List.drop_left, List.take_left' (le_length m n)]
  exact num_le m n h0 h1
theorem itB_cut (s : It) (xs : List UInt8) (h : s.2.2.length ≤ 12) : cutN (itB s ++ xs) = s.2.2.length := by
  have e : (itB s ++ xs)[11]? = some (UInt8.ofNat s.2.2.length) := by
    have : itB s ++ xs = ([s.1.1] ++ (le 4 s.1.2.1 ++ (le 4 s.1.2.2 ++ le 2 s.2.1))) ++ (UInt8.ofNat s.2.2.length :: (s.2.2 ++ xs)) := by simp [itB]
    rw [this, List.getElem?_append_right (by simp [le_length])]
    simp [le_length]
  unfold cutN
  rw [e]
  simp only [Option.getD_some, UInt8.toNat_ofNat']
  omega
theorem itB_okC (s : It) (xs : List UInt8) (h : s.2.2.length ≤ 12) : okC (itB s ++ xs) = true := by
  unfold okC
  rw [itB_cut s xs h]
  simp [itB_length]
theorem itB_fields (s : It) (xs : List UInt8) (hi : InI s) (h : mayI s = true) : fieldsI (itB s ++ xs) = s := by
  obtain ⟨hr, hl⟩ := mayI_of h
  obtain ⟨⟨⟨i0, i1⟩, ⟨o0, o1⟩⟩, _⟩ := hi
  obtain ⟨⟨k, i, o⟩, r, v⟩ := s
  dsimp only at *
  have e0 : (itB ((k, i, o), r, v) ++ xs)[0]?.getD 0 = k := by simp [itB]
  have e1 : gv 4 (itB ((k, i, o), r, v) ++ xs) 1 = i := by
    have : itB ((k, i, o), r, v) ++ xs = [k] ++ (le 4 i ++ (le 4 o ++ (le 2 r ++ ([UInt8.ofNat v.length] ++ (v ++ xs))))) := by simp [itB]
    rw [this]
    exact gv_le 4 i [k] _ 1 rfl i0 (by simpa using i1)
  have e2 : gv 4 (itB ((k, i, o), r, v) ++ xs) 5 = o := by
    have : itB ((k, i, o), r, v) ++ xs = ([k] ++ le 4 i) ++ (le 4 o ++ (le 2 r ++ ([UInt8.ofNat v.length] ++ (v ++ xs)))) := by simp [itB]
    rw [this]
    exact gv_le 4 o ([k] ++ le 4 i) _ 5 (by simp [le_length]) o0 (by simpa using o1)
  have e3 : gv 2 (itB ((k, i, o), r, v) ++ xs) 9 = r := by
    have : itB ((k, i, o), r, v) ++ xs = ([k] ++ (le 4 i ++ le 4 o)) ++ (le 2 r ++ ([UInt8.ofNat v.length] ++ (v ++ xs))) := by simp [itB]
    rw [this]
    exact gv_le 2 r ([k] ++ (le 4 i ++ le 4 o)) _ 9 (by simp [le_length]) (by omega) (by simp; omega)
  have e4 : ((itB ((k, i, o), r, v) ++ xs).drop 12).take (cutN (itB ((k, i, o), r, v) ++ xs)) = v := by
    rw [itB_cut ((k, i, o), r, v) xs hl]
    have : itB ((k, i, o), r, v) ++ xs = ([k] ++ (le 4 i ++ (le 4 o ++ (le 2 r ++ [UInt8.ofNat v.length])))) ++ (v ++ xs) := by simp [itB]
    rw [this, show (12 : Nat) = ([k] ++ (le 4 i ++ (le 4 o ++ (le 2 r ++ [UInt8.ofNat v.length])))).length by simp [le_length], List.drop_left]
    exact List.take_left' rfl
  unfold fieldsI
  rw [e0, e1, e2, e3, e4]
theorem itB_read (s : It) (xs : List UInt8) (hi : InI s) (h : mayI s = true) : okR (itB s ++ xs) = true ∧ itR (itB s ++ xs) = s ∧ itN (itB s ++ xs) = (itB s).length ∧ itE (itB s ++ xs) = 0 := by
  obtain ⟨hr, hl⟩ := mayI_of h
  have h1 := itB_okC s xs hl
  have h2 := itB_fields s xs hi h
  have h3 : okR (itB s ++ xs) = true := by unfold okR fldI; rw [h1, if_pos rfl, h2, h]; rfl
  refine ⟨h3, by rw [itR, h3, if_pos rfl, h2], ?_, by rw [itE, h3]; rfl⟩
  rw [itN, h3, if_pos rfl, itB_cut s xs hl, itB_length]
  omega
theorem le_gv (m : Nat) (b : List UInt8) (k : Nat) (h : k + m ≤ b.length) : le m (gv m b k) = (b.drop k).take m := by
  rw [gv_yes (k := (k : Int)) ⟨by omega, by omega⟩, show (k : Int).toNat = k by omega]
  have hl : ((b.drop k).take m).length = m := by simp; omega
  have := le_num ((b.drop k).take m)
  rwa [hl] at this
theorem one_at (b : List UInt8) (k : Nat) (h : k < b.length) : (b.drop k).take 1 = [b[k]?.getD 0] := by
  rw [List.drop_eq_getElem_cons h, List.getElem?_eq_getElem h]
  rfl
theorem read_itB {b : List UInt8} (h : okR b = true) : ∃ n : Nat, itN b = n ∧ n ≤ b.length ∧ mayI (itR b) = true ∧ itB (itR b) = b.take n := by
  obtain ⟨h1, h2⟩ := okR_fields h
  have h3 := okC_yes h1
  have hR : itR b = fieldsI b := by rw [itR, h, if_pos rfl]
  have hf : fldI b = fieldsI b := by rw [fldI, h1, if_pos rfl]
  rw [hf] at h2
  refine ⟨12 + cutN b, by rw [itN, h, if_pos rfl]; simp, h3, by rw [hR]; exact h2, ?_⟩
  rw [hR]
  have l0 := one_at b 0 (by omega)
  rw [List.drop_zero] at l0
  have l1 := one_at b 11 (by omega)
  have hlen : ((b.drop 12).take (cutN b)).length = cutN b := by simp; omega
  have hc : UInt8.ofNat (cutN b) = b[11]?.getD 0 := by unfold cutN; simp
  have g1 := le_gv 4 b 1 (by omega)
  have g2 := le_gv 4 b 5 (by omega)
  have g3 := le_gv 2 b 9 (by omega)
  have ht : b.take (12 + cutN b) = b.take 1 ++ ((b.drop 1).take 4 ++ ((b.drop 5).take 4 ++ ((b.drop 9).take 2 ++ ((b.drop 11).take 1 ++ (b.drop 12).take (cutN b))))) := by
    have q : ∀ (j m n : Nat), (b.drop j).take m ++ (b.drop (j + m)).take n = (b.drop j).take (m + n) := fun j m n => by
      rw [← List.drop_drop, List.take_add]
    rw [q 11 1, q 9 2, q 5 4, q 1 4]
    have := q 0 1 (4 + (4 + (2 + (1 + cutN b))))
    rw [List.drop_zero, Nat.zero_add] at this
    rw [this]
    congr 1
    omega
  rw [ht, l0, l1]
  unfold itB fieldsI
  dsimp only
  rw [hlen, hc]
  have c1 : ((1 : Nat) : Int) = 1 := rfl
  have c5 : ((5 : Nat) : Int) = 5 := rfl
  have c9 : ((9 : Nat) : Int) = 9 := rfl
  rw [c1] at g1
  rw [c5] at g2
  rw [c9] at g3
  rw [g1, g2, g3]
theorem itB_inj {s o : It} (hs : InI s) (ho : InI o) (ms : mayI s = true) (mo : mayI o = true) {xs ys : List UInt8} (h : itB s ++ xs = itB o ++ ys) : s = o := by
  rw [← itB_fields s xs hs ms, h, itB_fields o ys ho mo]
theorem itB_bytes {s o : It} (hs : InI s) (ho : InI o) (ms : mayI s = true) (mo : mayI o = true) : decide (itB s = itB o) = sameI s o := by
  unfold sameI
  rw [Bool.eq_iff_iff]
  simp only [decide_eq_true_eq]
  exact ⟨fun h => itB_inj hs ho ms mo (xs := []) (ys := []) (by rw [List.append_nil, List.append_nil, h]), fun h => by rw [h]⟩
/-- No item's bytes begin another one's. -/
theorem itB_prefix {s o : It} (hs : InI s) (ho : InI o) (ms : mayI s = true) (mo : mayI o = true) {n : Nat} (hn : n = min (itB s).length (itB o).length) (h : (itB s).take n = (itB o).take n) : (itB s).length = (itB o).length := by
  rcases Nat.le_total (itB s).length (itB o).length with hl | hl
  · rw [Nat.min_eq_left hl] at hn
    subst hn
    rw [List.take_length] at h
    have := itB_inj hs ho ms mo (xs := (itB o).drop (itB s).length) (ys := []) (by rw [List.append_nil]; exact (congrArg (· ++ (itB o).drop (itB s).length) h).trans (List.take_append_drop _ _))
    rw [this]
  · rw [Nat.min_eq_right hl] at hn
    subst hn
    rw [List.take_length] at h
    have := itB_inj hs ho ms mo (xs := []) (ys := (itB s).drop (itB o).length) (by rw [List.append_nil]; exact (List.take_append_drop (itB o).length (itB s)).symm.trans (congrArg (· ++ (itB s).drop (itB o).length) h))
    rw [this]

/-! ### key, alive -/
theorem inI_small (k : UInt8) {i o r : Int} (v : List UInt8) (hi : 0 ≤ i) (hi' : i < 1000) (ho : 0 ≤ o) (ho' : o < 1000) (hr : 0 ≤ r) (hr' : r < 1000) : InI ((k, i, o), r, v) :=
  ⟨⟨⟨hi, by show i < _; omega⟩, ⟨ho, by show o < _; omega⟩⟩, ⟨by show _ ≤ r; omega, by show r ≤ _; omega⟩⟩

end Go.Proofs.YtjlbkcnhbndgbaaGreat

/-
  A bag's facts on items and keys. Conditions: those that each lemma states.
-/
namespace Go.Proofs.YtjlbkcnhbndgbaaGreat
open Go.RowKit

/-- Three cells that are a box. -/
def Box3 (g : Nat) (a b c : Value) : World → Prop := fun w => w.cell? ⟨g, 0, none⟩ = some a ∧ w.cell? ⟨g, 1, none⟩ = some b ∧ w.cell? ⟨g, 2, none⟩ = some c ∧ g < w.heap.size
theorem lasts_box3 (g : Nat) (a b c : Value) : Lasts (Box3 g a b c) := fun _ _ h hb => ⟨(hb.cell (p := ⟨g, 0, none⟩) h.2.2.2).trans h.1, (hb.cell (p := ⟨g, 1, none⟩) h.2.2.2).trans h.2.1, (hb.cell (p := ⟨g, 2, none⟩) h.2.2.2).trans h.2.2.1, Nat.lt_of_lt_of_le h.2.2.2 hb.size⟩
theorem bag_key {w w1 : World} {Fs : List (World → Prop)} (h : Bag w Fs) (hb : Below w.heap.size w w1) (a b c : Value) : ∃ w', w1.alloc (.cells #[a, b, c] 108) = w' ∧ Bag w' (Box3 w1.heap.size a b c :: Fs) ∧ Below w.heap.size w w' ∧ Below w1.heap.size w1 w' ∧ w1.heap.size < w'.heap.size := by
  obtain ⟨w2, e2, k1, k2, k3, k4, k5, _⟩ := box_three w1 a b c 108
  exact ⟨w2, e2, ((h.below hb).below k5).add ⟨k1, k2, k3, by omega⟩ (lasts_box3 _ _ _ _), hb.trans (k5.mono hb.size), k5, by omega⟩
theorem bag_item {w w1 : World} {Fs : List (World → Prop)} (h : Bag w Fs) (hb : Below w.heap.size w w1) (a b c d e : Value) : ∃ w', w1.alloc (.cells #[a, b, c, d, e] 110) = w' ∧ Bag w' (Box5 w1.heap.size a b c d e :: Fs) ∧ Below w.heap.size w w' ∧ Below w1.heap.size w1 w' ∧ w1.heap.size < w'.heap.size := by
  obtain ⟨w2, e2, k1, k2, k3, k4, k5, k6, k7, _⟩ := box_five w1 a b c d e 110
  exact ⟨w2, e2, ((h.below hb).below k7).add ⟨k1, k2, k3, k4, k5, by omega⟩ (lasts_box5 _ _ _ _ _ _), hb.trans (k7.mono hb.size), k7, by omega⟩
def OldI (v : Value) (s : It) : World → Prop := fun w => Itm (Old w) w v s
theorem lasts_oldI (v : Value) (s : It) : Lasts (OldI v s) := fun _ _ h hb => h.below hb
def NewI (lo : Nat) (v : Value) (s : It) : World → Prop := fun w => Itm (New lo w) w v s
theorem lasts_newI (lo : Nat) (v : Value) (s : It) : Lasts (NewI lo v s) := fun _ _ h hb => h.new (Nat.le_refl _) hb

/-! ### How keys stand -/
theorem less_self (a : Ky) : lessK a a = false := by simp [lessK]
theorem less_anti {a b : Ky} (h : lessK a b = true) : lessK b a = false := by
  unfold lessK at *
  by_cases h1 : a.1.toNat = b.1.toNat
  · rw [if_neg (by simpa using h1)] at h
    rw [if_neg (by simpa using h1.symm)]
    by_cases h2 : a.2.1 = b.2.1
    · rw [if_neg (by simpa using h2)] at h
      rw [if_neg (by simpa using h2.symm)]
      simp at h ⊢
      omega
    · rw [if_pos h2] at h
      rw [if_pos (fun e => h2 e.symm)]
      simp at h ⊢
      omega
  · rw [if_pos h1] at h
    rw [if_pos (fun e => h1 e.symm)]
    simp at h ⊢
    omega
theorem less_total {a b : Ky} (h : a ≠ b) (h' : lessK a b = false) : lessK b a = true := by
  unfold lessK at *
  by_cases h1 : a.1.toNat = b.1.toNat
  · rw [if_neg (by simpa using h1)] at h'
    rw [if_neg (by simpa using h1.symm)]
    by_cases h2 : a.2.1 = b.2.1
    · rw [if_neg (by simpa using h2)] at h'
      rw [if_neg (by simpa using h2.symm)]
      have h3 : a.2.2 ≠ b.2.2 := fun e => h (Prod.ext (UInt8.toNat.inj h1) (Prod.ext h2 e))
      simp at h' ⊢
      omega
    · rw [if_pos h2] at h'
      rw [if_pos (fun e => h2 e.symm)]
      simp at h' ⊢
      omega
  · rw [if_pos h1] at h'
    rw [if_pos (fun e => h1 e.symm)]
    simp at h' ⊢
    omega
theorem less_cases {a b : Ky} (h : lessK a b = true) : a.1.toNat < b.1.toNat ∨ (a.1.toNat = b.1.toNat ∧ (a.2.1 < b.2.1 ∨ (a.2.1 = b.2.1 ∧ a.2.2 < b.2.2))) := by
  unfold lessK at h
  by_cases h1 : a.1.toNat = b.1.toNat
  · rw [if_neg (by simpa using h1)] at h
    by_cases h2 : a.2.1 = b.2.1
    · rw [if_neg (by simpa using h2)] at h
      exact Or.inr ⟨h1, Or.inr ⟨h2, by simpa using h⟩⟩
    · rw [if_pos h2] at h
      exact Or.inr ⟨h1, Or.inl (by simpa using h)⟩
  · rw [if_pos h1] at h
    exact Or.inl (by simpa using h)
theorem less_of {a b : Ky} (h : a.1.toNat < b.1.toNat ∨ (a.1.toNat = b.1.toNat ∧ (a.2.1 < b.2.1 ∨ (a.2.1 = b.2.1 ∧ a.2.2 < b.2.2)))) : lessK a b = true := by
  cases e : lessK a b with
  | true => rfl
  | false =>
    by_cases hab : a = b
    · subst hab; omega
    · have := less_cases (less_total hab e)
      omega
theorem less_trans {a b c : Ky} (h : lessK a b = true) (h' : lessK b c = true) : lessK a c = true := by
  have h1 := less_cases h
  have h2 := less_cases h'
  exact less_of (by omega)
end Go.Proofs.YtjlbkcnhbndgbaaGreat

/-
  Nodes (api.Node): how they read; which may be; their bytes; nodes as arguments. Conditions: those that each lemma states.
-/
namespace Go.Proofs.YtjlbkcnhbndgbaaGreat
open Go.ChangeShapes Go.WideShapes Go.RowKit

/-! ### Nodes: level, items -/
abbrev Nd := Int × List It
def rIts : Rel (List It) := rSl 5 rIt
theorem stab_its : Stab rIts := stab_sl stab_it
/-- A value that reads as a node. -/
def Nod (ok : Addr → Prop) (w : World) (v : Value) (n : Nd) : Prop := ∃ d, v = .agg #[.int .i64 n.1, d] ∧ In64 n.1 ∧ rIts ok w [d] n.2
section
variable {ok ok' : Addr → Prop} {w w' : World} {v : Value} {n : Nd} {lo lo' : Nat}
theorem Nod.map (hk : ∀ p v, ok p → w.cell? p = some v → ok' p ∧ w'.cell? p = some v) (h : Nod ok w v n) : Nod ok' w' v n := by
  obtain ⟨d, e, h1, h2⟩ := h
  exact ⟨d, e, h1, stab_its _ _ _ _ _ _ hk h2⟩
theorem Nod.below (h : Nod (Old w) w v n) (hb : Below w.heap.size w w') : Nod (Old w') w' v n :=
  h.map fun _ _ hp hc => ⟨Nat.lt_of_lt_of_le hp hb.size, (hb.cell hp).trans hc⟩
theorem Nod.drop (h : Nod (New lo w) w v n) : Nod (Old w) w v n := h.map fun _ _ hp hc => ⟨hp.2.1, hc⟩
theorem Nod.new (h : Nod (New lo w) w v n) (hl : lo' ≤ lo) (hb : Below w.heap.size w w') : Nod (New lo' w') w' v n :=
  h.map fun _ _ hp hc => ⟨⟨Nat.le_trans hl hp.1, Nat.lt_of_lt_of_le hp.2.1 hb.size, (hb.frozen hp.2.1).trans hp.2.2⟩, (hb.cell hp.2.1).trans hc⟩
theorem Nod.grown {row : Option Nat} (h : Nod (New lo w) w v n) (hg : w.grownBy w' row) (hr : ∀ q, row = some q → q < lo) : Nod (New lo w') w' v n := by
  obtain ⟨d, e, h1, h2⟩ := h
  exact ⟨d, e, h1, stab_its.grown h2 hg hr⟩
theorem its_open {d : Value} {xs : List It} (h : rIts ok w [d] xs) : ∃ A c, d = .slice A xs.length c ∧ xs.length ≤ c ∧ c ≤ 9223372036854775807 := by
  obtain ⟨A, c, e, h1, h2, _⟩ := h
  exact ⟨A, c, by simpa using e, h1, h2⟩
theorem Nod.open (h : Nod ok w v n) : ∃ A c, v = .agg #[.int .i64 n.1, .slice A n.2.length c] ∧ In64 n.1 ∧ n.2.length ≤ c ∧ c ≤ 9223372036854775807 ∧ rIts ok w [.slice A n.2.length c] n.2 := by
  obtain ⟨d, rfl, h1, h2⟩ := h
  obtain ⟨A, c, rfl, h3, h4⟩ := its_open h2
  exact ⟨A, c, rfl, h1, h3, h4, h2⟩
end
theorem its_nil (ok : Addr → Prop) (w : World) : rIts ok w [.slice none 0 0] [] := ⟨none, 0, rfl, by simp, by omega, fun i x h => by simp at h⟩
def zeroN : Nd := (0, [])
theorem nod_zero (ok : Addr → Prop) (w : World) : Nod ok w (.agg #[.int .i64 0, .slice none 0 0]) zeroN := ⟨_, rfl, ⟨by decide, by decide⟩, its_nil _ _⟩

/-! ### An item of a row -/
theorem add_at5 (ad : Addr) (n j : Nat) : ad.add (n + (j + 1)) = ⟨(ad.add n).block, (ad.add n).off + (j + 1), none⟩ := by
  unfold Addr.add
  rw [if_neg (by omega)]
  by_cases h : n = 0
  · subst h
    simp
  · rw [if_neg h]
    simp [Nat.add_assoc]
/-- Five cells that are an item. -/
structure At5 (w : World) (p : Addr) (s : It) (d : Value) : Prop where
  c0 : w.cell? p = some (.int .u8 (s.1.1.toNat : Int))
  c1 : w.cell? ⟨p.block, p.off + 1, none⟩ = some (.int .u32 s.1.2.1)
  c2 : w.cell? ⟨p.block, p.off + 2, none⟩ = some (.int .u32 s.1.2.2)
  c3 : w.cell? ⟨p.block, p.off + 3, none⟩ = some (.int .i64 s.2.1)
  c4 : w.cell? ⟨p.block, p.off + 4, none⟩ = some d
theorem At5.lt {w : World} {p : Addr} {s : It} {d : Value} (h : At5 w p s d) : p.block < w.heap.size := World.block_lt_of_cell? w p h.c0
theorem At5.below {w w' : World} {p : Addr} {s : It} {d : Value} (h : At5 w p s d) (hb : Below w.heap.size w w') : At5 w' p s d :=
  ⟨(hb.cell h.lt).trans h.c0, (hb.cell (p := ⟨p.block, p.off + 1, none⟩) h.lt).trans h.c1, (hb.cell (p := ⟨p.block, p.off + 2, none⟩) h.lt).trans h.c2, (hb.cell (p := ⟨p.block, p.off + 3, none⟩) h.lt).trans h.c3, (hb.cell (p := ⟨p.block, p.off + 4, none⟩) h.lt).trans h.c4⟩
theorem its_at {ok : Addr → Prop} {w : World} {A : Option Addr} {n c k : Nat} {xs : List It} {s : It} (h : rIts ok w [.slice A n c] xs) (hk : xs[k]? = some s) :
    ∃ ad E ce, A = some ad ∧ (∀ j, j < 5 → ok (ad.add (k * 5 + j))) ∧ At5 w (ad.add (k * 5)) s (.slice E s.2.2.length ce) ∧ Itm ok w (itV s (.slice E s.2.2.length ce)) s ∧ s.2.2.length ≤ ce ∧ ce ≤ 9223372036854775807 ∧ InI s := by
  obtain ⟨_, _, e, _, _, h4⟩ := h
  cases e
  obtain ⟨ad, vs, rfl, e5, q, r⟩ := h4 k s hk
  obtain ⟨d, rfl, hin, hd⟩ := rIt_open r
  obtain ⟨E, ce, rfl, l1, l2, _⟩ := id (rBy_open hd)
  have q0 := q 0 _ rfl
  have t1 := q 1 _ rfl
  have t2 := q 2 _ rfl
  have t3 := q 3 _ rfl
  have t4 := q 4 _ rfl
  refine ⟨ad, E, ce, rfl, fun j hj => ?_, ?_, ⟨_, rfl, hin, hd⟩, l1, l2, hin⟩
  · rcases (by omega : j = 0 ∨ j = 1 ∨ j = 2 ∨ j = 3 ∨ j = 4) with rfl | rfl | rfl | rfl | rfl
    · exact q0.1
    · exact t1.1
    · exact t2.1
    · exact t3.1
    · exact t4.1
  · have u1 := t1.2
    have u2 := t2.2
    have u3 := t3.2
    have u4 := t4.2
    rw [add_at5] at u1 u2 u3 u4
    exact ⟨q0.2, u1, u2, u3, u4⟩
/-- An item of a row that lies there, in every later world. -/
theorem its_old {w : World} {A : Option Addr} {n c k : Nat} {xs : List It} {s : It} (h : rIts (Old w) w [.slice A n c] xs) (hk : xs[k]? = some s) :
    ∃ ad E ce, A = some ad ∧ s.2.2.length ≤ ce ∧ ce ≤ 9223372036854775807 ∧ InI s ∧ ∀ W, Below w.heap.size w W → At5 W (ad.add (k * 5)) s (.slice E s.2.2.length ce) ∧ Itm (Old W) W (itV s (.slice E s.2.2.length ce)) s := by
  obtain ⟨ad, E, ce, rfl, _, h5, hi, l1, l2, hin⟩ := its_at h hk
  exact ⟨ad, E, ce, rfl, l1, l2, hin, fun W hW => ⟨h5.below hW, hi.below hW⟩⟩

/-! ### Arguments -/
set_option maxRecDepth 100000 in
theorem opens_items : Opens Tryz.prog 45 rIts := opens_sl Tryz.underlying45 (by kernel_rfl) opens_item
set_option maxRecDepth 100000 in
theorem opens_node : Opens Tryz.prog 47 (rPair (rK .i64) rIts) := opens_pair Tryz.underlying47 rfl (by kernel_rfl) (by kernel_rfl) (opens_k Tryz.underlying3) opens_items
set_option maxRecDepth 100000 in
/-- A node that came in. -/
theorem open_node {H : Type} {enc : TypeId × Value → H} {w : World} {b0 : Nat} {spare : Nat → Bool} {held : Bool} {r : Reach} {v : Value} {x : DataW H} {ps : List MemPlace} (hval : Value.okWide Tryz.prog w r b0 47 v) (hd : DataW.Trod enc Tryz.prog w 0 spare held 47 v x ps) :
    ∃ s, Nod (Old w) w v s := by
  obtain ⟨cs, rfl, _⟩ := okWide_struct Tryz.underlying47 hval
  obtain ⟨s, c, e, h1, ⟨h2, a1, a2⟩, h3⟩ := open_rel opens_node hd
  obtain ⟨A, cap, e2, _⟩ := id h3
  subst h2 e2
  simp [IntKind.min, IntKind.max, IntKind.signed, IntKind.bits] at a1 a2
  exact ⟨s, _, by obtain ⟨cs⟩ := cs; simp [Value.cells] at h1; rw [h1], ⟨a1, a2⟩, h3⟩

/-! ### Which nodes may be -/
def refersI (s : It) : Bool := decide (s.2.1 ≠ 0) && decide (s.2.2.length = 0)
def okP (l : Int) (x : It) : Bool := mayI x && (decide (l ≤ 0) || refersI x)
def okAt (n : Nd) (i : Nat) : Bool := match n.2[i]? with
  | none => true
  | some x => okP n.1 x && (match i with
    | 0 => true
    | j + 1 => match n.2[j]? with
      | none => true
      | some p => lessK p.1 x.1)
def shapeN (n : Nd) : Bool := (decide (0 ≤ n.1) && decide (n.1 < 6)) && decide (n.2.length ≤ 5) && (decide (n.1 ≤ 0) || decide (0 < n.2.length))
def mayN (n : Nd) : Bool := shapeN n && (List.range n.2.length).all (okAt n)
def chkN (n : Nd) : Int := if mayN n then 0 else 8
theorem shapeN_of {n : Nd} (h : shapeN n = true) : 0 ≤ n.1 ∧ n.1 < 6 ∧ n.2.length ≤ 5 ∧ (0 < n.1 → 0 < n.2.length) := by
  simp only [shapeN, Bool.and_eq_true, Bool.or_eq_true, decide_eq_true_eq] at h
  omega
theorem shapeN_mk {n : Nd} (h : 0 ≤ n.1 ∧ n.1 < 6 ∧ n.2.length ≤ 5 ∧ (0 < n.1 → 0 < n.2.length)) : shapeN n = true := by
  simp only [shapeN, Bool.and_eq_true, Bool.or_eq_true, decide_eq_true_eq]
  omega
theorem mayN_shape {n : Nd} (h : ¬ (0 ≤ n.1 ∧ n.1 < 6 ∧ n.2.length ≤ 5 ∧ (0 < n.1 → 0 < n.2.length))) : mayN n = false := by
  cases e : mayN n with
  | false => rfl
  | true =>
    simp only [mayN, Bool.and_eq_true] at e
    exact absurd (shapeN_of e.1) h
theorem mayN_at {n : Nd} {k : Nat} (hk : k < n.2.length) (h : okAt n k = false) : mayN n = false := by
  cases e : mayN n with
  | false => rfl
  | true =>
    simp only [mayN, Bool.and_eq_true, List.all_eq_true] at e
    have := e.2 k (by simpa using hk)
    rw [h] at this
    cases this
theorem mayN_mk {n : Nd} (h : 0 ≤ n.1 ∧ n.1 < 6 ∧ n.2.length ≤ 5 ∧ (0 < n.1 → 0 < n.2.length)) (h2 : ∀ i, i < n.2.length → okAt n i = true) : mayN n = true := by
  simp only [mayN, Bool.and_eq_true, List.all_eq_true]
  exact ⟨shapeN_mk h, fun x hx => h2 x (by simpa using hx)⟩
theorem mayN_of {n : Nd} (h : mayN n = true) : (0 ≤ n.1 ∧ n.1 < 6 ∧ n.2.length ≤ 5 ∧ (0 < n.1 → 0 < n.2.length)) ∧ ∀ i, i < n.2.length → okAt n i = true := by
  simp only [mayN, Bool.and_eq_true, List.all_eq_true] at h
  exact ⟨shapeN_of h.1, fun i hi => h.2 i (by simpa using hi)⟩
theorem okAt_zero {n : Nd} {x : It} (hx : n.2[0]? = some x) : okAt n 0 = okP n.1 x := by unfold okAt; rw [hx]; simp
theorem okAt_succ {n : Nd} {k : Nat} {x p : It} (hx : n.2[k + 1]? = some x) (hp : n.2[k]? = some p) : okAt n (k + 1) = (okP n.1 x && lessK p.1 x.1) := by
  unfold okAt
  simp only [hx, hp]
theorem okAt_P {n : Nd} {k : Nat} {x : It} (hx : n.2[k]? = some x) (h : okAt n k = true) : okP n.1 x = true := by
  unfold okAt at h
  rw [hx] at h
  simp only [Bool.and_eq_true] at h
  exact h.1
theorem okAt_noP {n : Nd} {k : Nat} {x : It} (hx : n.2[k]? = some x) (h : okP n.1 x = false) : okAt n k = false := by
  unfold okAt
  simp only [hx, h, Bool.false_and]
theorem mayN_item {n : Nd} (h : mayN n = true) {k : Nat} {x : It} (hx : n.2[k]? = some x) : okP n.1 x = true :=
  okAt_P hx ((mayN_of h).2 k (List.getElem?_eq_some_iff.1 hx).1)
theorem okP_may {l : Int} {x : It} (h : okP l x = true) : mayI x = true := by
  simp only [okP, Bool.and_eq_true] at h
  exact h.1
theorem mayN_rise {n : Nd} (h : mayN n = true) {k : Nat} {x y : It} (hx : n.2[k]? = some x) (hy : n.2[k + 1]? = some y) : lessK x.1 y.1 = true := by
  have := (mayN_of h).2 (k + 1) (List.getElem?_eq_some_iff.1 hy).1
  rw [okAt_succ hy hx, Bool.and_eq_true] at this
  exact this.2
theorem mayN_rises {n : Nd} (h : mayN n = true) : ∀ {k j : Nat} {x y : It}, k < j → n.2[k]? = some x → n.2[j]? = some y → lessK x.1 y.1 = true := by
  intro k j x y hkj
  induction j generalizing y with
  | zero => omega
  | succ j ih =>
    intro hx hy
    rcases Nat.lt_or_ge k j with h1 | h1
    · have hjl : j < n.2.length := by have := (List.getElem?_eq_some_iff.1 hy).1; omega
      exact less_trans (ih h1 hx (List.getElem?_eq_getElem hjl)) (mayN_rise h (List.getElem?_eq_getElem hjl) hy)
    · have : k = j := by omega
      subst this
      exact mayN_rise h hx hy
theorem chkN_ok {n : Nd} (h : mayN n = true) : chkN n = 0 := by simp [chkN, h]
theorem chkN_bad {n : Nd} (h : mayN n = false) : chkN n = 8 := by simp [chkN, h]
theorem mayN_zero : mayN zeroN = true := by decide

/-! ### Their bytes -/
def itsB (l : List It) : List UInt8 := (l.map itB).flatten
theorem itsB_nil : itsB [] = [] := rfl
theorem itsB_snoc (l : List It) (x : It) : itsB (l ++ [x]) = itsB l ++ itB x := by simp [itsB]
theorem itsB_take {l : List It} {k : Nat} {x : It} (h : l[k]? = some x) : itsB (l.take (k + 1)) = itsB (l.take k) ++ itB x := by
  rw [List.take_add_one, h]
  exact itsB_snoc _ _
def headN (n : Nd) : List UInt8 := [78, UInt8.ofNat n.1.toNat, UInt8.ofNat n.2.length]
def toldN (n : Nd) : List UInt8 := headN n ++ itsB n.2
def blkN (n : Nd) : List UInt8 := sealN (toldN n)
def wrN (n : Nd) : List UInt8 := if mayN n then blkN n else []
theorem itsB_len : ∀ {l : List It}, (∀ x ∈ l, mayI x = true) → (itsB l).length ≤ 24 * l.length
  | [], _ => by simp [itsB]
  | x :: r, h => by
    have h1 := itsB_len (l := r) (fun y hy => h y (List.mem_cons.2 (Or.inr hy)))
    have h2 := (mayI_of (h x (List.mem_cons.2 (Or.inl rfl)))).2
    have h3 := itB_length x
    have : itsB (x :: r) = itB x ++ itsB r := by simp [itsB]
    rw [this, List.length_append, List.length_cons]
    omega
theorem mayN_all {n : Nd} (h : mayN n = true) : ∀ x ∈ n.2, mayI x = true := fun x hx => by
  obtain ⟨k, hk⟩ := List.mem_iff_getElem?.1 hx
  exact okP_may (mayN_item h hk)
theorem toldN_len {n : Nd} (h : mayN n = true) : (toldN n).length ≤ 124 := by
  have h1 := itsB_len (mayN_all h)
  have h2 := (mayN_of h).1.2.2.1
  have h3 : (toldN n).length = 3 + (itsB n.2).length := by simp [toldN, headN]; omega
  omega
theorem blkN_length {n : Nd} (h : mayN n = true) : (blkN n).length = 128 := sealN_length (toldN_len h)
end Go.Proofs.YtjlbkcnhbndgbaaGreat

/-
  Package node: noughts, cut. Conditions: those that each lemma states.
-/
namespace Go.Proofs.YtjlbkcnhbndgbaaGreat
open Go.RowKit

/-! ### noughts -/
theorem nought_any (a : Int) (w : World) : Calls Tryz.prog 82 #[.int .u8 a] w fun e w' => e = .returned (.bool (a != 0)) ∧ w = w' := by
  go_enter Tryz.func82, Tryz.ntmps82
  go_wp2_with fail
  go_ret
  exact ⟨rfl, rfl⟩
def idxN (b : List UInt8) : Int := match b.findIdx? (· ≠ 0) with
  | none => -1
  | some k => k
theorem idxN_at {b : List UInt8} {k : Nat} (hk : k < b.length) (ha : ∀ j, j < k → b[j]?.getD 0 = 0) (h : b[k]?.getD 0 ≠ 0) : idxN b = k := by
  have e : b.findIdx? (· ≠ 0) = some k := by
    rw [List.findIdx?_eq_some_iff_getElem]
    refine ⟨hk, by simpa [List.getElem?_eq_getElem hk] using h, fun j hj => ?_⟩
    have := ha j hj
    simpa [List.getElem?_eq_getElem (show j < b.length by omega)] using this
  unfold idxN
  rw [e]
theorem idxN_none {b : List UInt8} (ha : ∀ j, j < b.length → b[j]?.getD 0 = 0) : idxN b = -1 := by
  have e : b.findIdx? (· ≠ 0) = none := by
    rw [List.findIdx?_eq_none_iff]
    intro x hx
    obtain ⟨j, hj, rfl⟩ := List.mem_iff_getElem.1 hx
    have := ha j hj
    simpa [List.getElem?_eq_getElem hj] using this
  unfold idxN
  rw [e]
def noughtsB (b : List UInt8) : Bool := b.all (· == 0)
theorem noughts_idx (b : List UInt8) : (!decide (0 ≤ idxN b)) = noughtsB b := by
  unfold idxN noughtsB
  cases e : b.findIdx? (· ≠ 0) with
  | none =>
    rw [List.findIdx?_eq_none_iff] at e
    have : (b.all fun x => x == 0) = true := by
      rw [List.all_eq_true]
      intro x hx
      simpa using e x hx
    rw [this]
    simp
  | some k =>
    rw [List.findIdx?_eq_some_iff_getElem] at e
    obtain ⟨hk, h1, _⟩ := e
    have : (b.all fun x => x == 0) = false := by
      rw [List.all_eq_false]
      exact ⟨b[k], List.getElem_mem hk, by simpa using h1⟩
    rw [this]
    simp
set_option maxRecDepth 100000 in
theorem index_any (A : Option Addr) (n c : Nat) (b : List UInt8) (hn : Hid (b.length = n)) (l1 : n ≤ c) (m1 : c ≤ 9223372036854775807) (w : World) (h : Byt w w.heap.size A b) :
    Calls Tryz.prog 96 #[.slice A n c, .func (.func 82) #[] #[]] w fun e w' => e = .returned (.int .i64 (idxN b)) ∧ w = w' := by
  have HY := Lib.hid h
  clear h
  go_enter Tryz.func96, Tryz.ntmps96
  go_wp2_with fail
  go_loop [8] (fun i => ∃ k : Nat, k ≤ n ∧ i = .int .i64 k ∧ ∀ j, j < k → b[j]?.getD 0 = 0) (fun i => n - (intOf i).toNat)
  case atStart => exact ⟨0, by omega, rfl, fun j hj => by omega⟩
  case round =>
    obtain ⟨k, hk, rfl, ha⟩ := hrel
    replace ha := Lib.hid ha
    by_cases hlt : k < n
    · obtain ⟨ad, rfl, _, hc⟩ := HY.out (by rw [hn.out]; omega)
      replace hc := hc k (by rw [hn.out]; exact hlt)
      have hyes := Lib.hid (fun h => idxN_at (b := b) (k := k) (by rw [hn.out]; exact hlt) ha.out h)
      have hno : Hid (b[k]?.getD 0 = 0 → ∀ j, j < k + 1 → b[j]?.getD 0 = 0) := Lib.hid fun h j hj => by
        rcases Nat.lt_or_ge j k with h1 | h1
        · exact ha.out j h1
        · obtain rfl : j = k := by omega
          exact h
      obtain ⟨x, hx⟩ : ∃ x, b[k]?.getD 0 = x := ⟨_, rfl⟩
      rw [hx] at hc hyes hno
      replace hx := Lib.hid hx
      by_cases h0 : (x.toNat : Int) = 0
      · have t0 : ((x.toNat : Int) != 0) = false := by simpa using h0
        have hall := Lib.hid (hno.out (UInt8.toNat.inj (by simpa using h0)))
        replace h0 := Lib.hid h0
        go_wp2_with fail
        with_reducible refine (nought_any _ _).mono ?_
        rintro e3 w3 ⟨rfl, rfl⟩
        rw [t0]
        go_wp2_with fail
        go_round
        case rel => exact ⟨k + 1, by omega, by go_num, hall.out⟩
        case measure => simp [intOf]; omega
      · have t0 : ((x.toNat : Int) != 0) = true := by simpa using h0
        have hr := Lib.hid (hyes.out (fun e => h0 (by rw [e]; rfl)))
        replace h0 := Lib.hid h0
        go_wp2_with fail
        with_reducible refine (nought_any _ _).mono ?_
        rintro e3 w3 ⟨rfl, rfl⟩
        rw [t0]
        go_wp2_with fail
        go_ret
        exact ⟨ret_int hr.out.symm, rfl⟩
    · have hr := Lib.hid (idxN_none (b := b) fun j hj => ha.out j (by have := hn.out; omega))
      go_wp2_with fail
      go_ret
      exact ⟨ret_int hr.out.symm, rfl⟩
set_option maxRecDepth 100000 in
theorem noughts_any (A : Option Addr) (n c : Nat) (b : List UInt8) (hn : Hid (b.length = n)) (l1 : n ≤ c) (m1 : c ≤ 9223372036854775807) (w : World) (h : Byt w w.heap.size A b) :
    Calls Tryz.prog 66 #[.slice A n c] w fun e w' => e = .returned (.bool (noughtsB b)) ∧ w = w' := by
  have HY := Lib.hid h
  have hi := Lib.hid (noughts_idx b)
  have hx : Hid (∀ W, Byt W W.heap.size A b → Calls Tryz.prog 81 #[.slice A n c, .func (.func 82) #[] #[]] W fun e w' => e = .returned (.bool (decide (0 ≤ idxN b))) ∧ W = w') := Lib.hid fun W hW => by
    have HW := Lib.hid hW
    clear hW
    go_enter Tryz.func81, Tryz.ntmps81
    go_wp2_with fail
    with_reducible refine (index_any A n c b hn l1 m1 _ HW.out).mono ?_
    rintro e3 w3 ⟨rfl, rfl⟩
    go_wp2_with fail
    go_ret
    exact ⟨rfl, rfl⟩
  clear h
  go_enter Tryz.func66, Tryz.ntmps66
  go_wp2_with fail
  with_reducible refine (hx.out _ HY.out).mono ?_
  rintro e3 w3 ⟨rfl, rfl⟩
  go_wp2_with fail
  go_ret
  exact ⟨ret_bool hi.out, rfl⟩
end Go.Proofs.YtjlbkcnhbndgbaaGreat

/-
  Package node: cut. Conditions: those that each lemma states.
-/
namespace Go.Proofs.YtjlbkcnhbndgbaaGreat
open Go.RowKit

/-! ### Rows of items of the call's own -/
theorem item_info0 : (Tryz.prog.info? 110).map (fun i => (i.zero, i.size, i.bytes)) = some (some (.agg #[.int .u8 0, .int .u32 0, .int .u32 0, .int .i64 0, .slice none 0 0]), 5, 48) := by kernel_rfl
theorem its_push {w : World} {lo : Nat} {A : Option Addr} {c : Nat} {xs : List It} (h : RowOf rIt 5 110 lo w A c xs) (g : Nat) (s : It) (d : Value) (m n : Nat) (hn : xs.length = n) (hg : w.heap[g]? = some (.cells #[.int .u8 (s.1.1.toNat : Int), .int .u32 s.1.2.1, .int .u32 s.1.2.2, .int .i64 s.2.1, d] 110 (0, 0))) (hs : n < 100000) (hbase : lo ≤ w.heap.size) (hin : InI s) (hx : rBy (NewBut lo A w) w [d] s.2.2) :
    ∃ A' c' w', (Builtin.append_ #[45, 45] 45 #[.slice A n c, .slice (some ⟨g, 0, none⟩) 1 m]).run Tryz.prog w = .ok (.slice A' (n + 1) c') w' ∧ RowOf rIt 5 110 lo w' A' c' (xs ++ [s]) ∧ w.grownBy w' (A.map (·.block)) ∧ Below lo w w' := by
  subst hn
  obtain ⟨i0, hi, hz0, hz1, hz2⟩ := info_parts item_info0
  obtain ⟨E, ce, rfl, _⟩ := id (rBy_open hx)
  exact RowOf.push stab_it h 45 45 i0 (.agg #[.int .u8 0, .int .u32 0, .int .u32 0, .int .i64 0, .slice none 0 0]) 48 Tryz.underlying45 hi hz0 hz1 hz2 rfl (by decide) ⟨g, 0, none⟩ m _ s rfl (World.news_of_block (cs := #[.int .u8 (s.1.1.toNat : Int), .int .u32 s.1.2.1, .int .u32 s.1.2.2, .int .i64 s.2.1, .slice E s.2.2.length ce]) hg) (fun u hu => by
    simp at hu
    rcases hu with rfl | rfl | rfl | rfl | rfl <;> rfl) (by unfold maxLen; omega) (by omega) hbase (rIt_mk hin hx)

/-! ### What is cut off -/
def cutTo (b : List UInt8) : Nat → Option (List It × List UInt8)
  | 0 => some ([], b)
  | k + 1 => match cutTo b k with
    | none => none
    | some (l, r) => if okR r then some (l ++ [itR r], r.drop (itN r).toNat) else none
theorem cutTo_zero (b : List UInt8) : cutTo b 0 = some ([], b) := rfl
theorem cutTo_yes {b : List UInt8} {k : Nat} {l : List It} {r : List UInt8} (h : cutTo b k = some (l, r)) (h' : okR r = true) : cutTo b (k + 1) = some (l ++ [itR r], r.drop (itN r).toNat) := by
  simp only [cutTo, h, h', if_true]
theorem cutTo_no {b : List UInt8} {k : Nat} {l : List It} {r : List UInt8} (h : cutTo b k = some (l, r)) (h' : okR r = false) : cutTo b (k + 1) = none := by
  simp only [cutTo, h, h']
  rfl
theorem cutTo_none {b : List UInt8} {k j : Nat} (h : cutTo b k = none) (hj : k ≤ j) : cutTo b j = none := by
  induction j with
  | zero =>
    have : k = 0 := by omega
    rw [this] at h
    exact h
  | succ j ih =>
    rcases Nat.lt_or_ge k (j + 1) with h1 | h1
    · simp only [cutTo, ih (by omega)]
    · have : k = j + 1 := by omega
      rw [this] at h
      exact h
theorem cutTo_bytes {b : List UInt8} : ∀ {k : Nat} {l : List It} {r : List UInt8}, cutTo b k = some (l, r) → b = itsB l ++ r ∧ l.length = k ∧ (∀ x ∈ l, mayI x = true ∧ InI x)
  | 0, l, r, h => by
    simp only [cutTo, Option.some.injEq, Prod.mk.injEq] at h
    obtain ⟨rfl, rfl⟩ := h
    exact ⟨by simp [itsB], rfl, fun x hx => by simp at hx⟩
  | k + 1, l, r, h => by
    cases e : cutTo b k with
    | none => simp [cutTo, e] at h
    | some p =>
      obtain ⟨l', r'⟩ := p
      obtain ⟨h1, h2, h3⟩ := cutTo_bytes e
      rcases bool_ways (okR r') with ho | ho
      · rw [cutTo_no e ho] at h
        cases h
      · rw [cutTo_yes e ho] at h
        simp only [Option.some.injEq, Prod.mk.injEq] at h
        obtain ⟨rfl, rfl⟩ := h
        obtain ⟨n, e1, e2, e3, e4⟩ := read_itB ho
        have hn : (itN r').toNat = n := by rw [e1]; omega
        refine ⟨?_, by simp [h2], fun x hx => ?_⟩
        · rw [itsB_snoc, e4, hn, List.append_assoc, List.take_append_drop]
          exact h1
        · rcases List.mem_append.1 hx with hx | hx
          · exact h3 x hx
          · simp at hx
            subst hx
            exact ⟨e3, by rw [itR, ho, if_pos rfl]; exact inI_fields _⟩
theorem cutTo_len {b : List UInt8} {k : Nat} {l : List It} {r : List UInt8} (h : cutTo b k = some (l, r)) : 12 * k + r.length ≤ b.length := by
  obtain ⟨h1, h2, h3⟩ := cutTo_bytes h
  have h4 : ∀ l : List It, 12 * l.length ≤ (itsB l).length := fun l => by
    induction l with
    | nil => simp
    | cons x q ih =>
      have : itsB (x :: q) = itB x ++ itsB q := by simp [itsB]
      rw [this, List.length_append, itB_length, List.length_cons]
      omega
  have := h4 l
  rw [h1, List.length_append]
  omega
def cutL (b : List UInt8) (k : Nat) : List It := ((cutTo b k).map (·.1)).getD []
def cutR (b : List UInt8) (k : Nat) : List UInt8 := ((cutTo b k).map (·.2)).getD []
def cutF (b : List UInt8) (k : Nat) : Int := if (cutTo b k).isSome then 0 else 8

/-- What is left of bytes. -/
theorem rBy_rest {ok : Addr → Prop} {w : World} {ad : Addr} {n c : Nat} {b : List UInt8} (h : rBy ok w [.slice (some ad) n c] b) (k : Nat) (hk : k ≤ b.length) : rBy ok w [.slice (some (ad.add k)) (n - k) (c - k)] (b.drop k) := by
  obtain ⟨A, c', e, l1, l2, _⟩ := id h
  cases e
  have := rBy_part h k (b.length - k) (c - k) (by omega) (by omega) (by omega)
  rwa [List.take_of_length_le (by simp)] at this

set_option maxRecDepth 100000 in
set_option maxHeartbeats 4000000 in
theorem nodeCut_any (v : Value) (b : List UInt8) (many : Nat) (hm : many < 256) (w : World) (h : rBy (Old w) w [v] b) :
    Calls Tryz.prog 64 #[v, .int .i64 many] w fun e w' => ∃ A c u, e = .returned (.tuple #[.slice A (cutL b many).length c, u, .int .i64 (cutF b many)]) ∧ rIts (New w.heap.size w') w' [.slice A (cutL b many).length c] (cutL b many) ∧ rBy (Old w') w' [u] (cutR b many) ∧ Below w.heap.size w w' := by
  have HV := Lib.hid h
  clear h
  go_enter Tryz.func64, Tryz.ntmps64
  go_wp2_with fail
  go_loopw [0, 7, 12] (fun q it i wr => ∃ (k : Nat) (l : List It) (r : List UInt8) (A : Option Addr) (c : Nat), k ≤ many ∧ i = .int .i64 k ∧ it = .slice A k c ∧ l.length = k ∧ cutTo b k = some (l, r) ∧ rBy (Old w) w [q] r ∧ RowOf rIt 5 110 w.heap.size wr A c l ∧ Below w.heap.size w wr) (fun _ _ i _ => many - (intOf i).toNat)
  case atStart => exact ⟨0, [], b, none, 0, by omega, rfl, rfl, rfl, rfl, HV.out, RowOf.nil _ _ _ _ _, Below.refl _ _⟩
  case round =>
    obtain ⟨k, l, r, A, c, hk, rfl, rfl, hl, hcut, hq, hrow, hb⟩ := hrel
    replace hrow := Lib.hid hrow
    replace hcut := Lib.hid hcut
    replace hl := Lib.hid hl
    replace hb := Lib.hid hb
    obtain ⟨Q, cq, rfl, n1, n2, _⟩ := id (rBy_open hq)
    obtain ⟨nq, hnq⟩ : ∃ n, r.length = n := ⟨_, rfl⟩
    rw [hnq] at n1 hq ⊢
    replace hnq := Lib.hid hnq
    replace hq := Lib.hid hq
    have hqr := Lib.hid (stab_by.old hq.out hb.out)
    by_cases hlt : k < many
    case neg =>
      have hkm : k = many := by omega
      have hL := Lib.hid (show cutL b many = l by rw [← hkm]; simp [cutL, hcut.out])
      have hR := Lib.hid (show cutR b many = r by rw [← hkm]; simp [cutR, hcut.out])
      have hF := Lib.hid (show cutF b many = 0 by rw [← hkm]; simp [cutF, hcut.out])
      have hfin := Lib.hid (hrow.out.rel stab_it)
      rw [hl.out] at hfin
      replace hkm := Lib.hid hkm
      go_wp2_with fail
      exact bodyPost_ret (v := .tuple #[.slice A k c, .slice Q nq cq, .int .i64 0]) (by simp [results, Tryz.results64, go_sem]) rfl ⟨A, c, _, by rw [hL.out, hF.out, hl.out], by rw [hL.out, hl.out]; exact hfin.out, by rw [hR.out]; exact hqr.out, hb.out⟩
    go_wp2_with fail
    with_reducible refine (itRead_any _ r _ hqr.out).mono ?_
    rintro e3 w3 ⟨u3, rfl, hu3, hb3⟩
    obtain ⟨D, dc, rfl, hin, _, _, hby⟩ := id hu3.open
    obtain ⟨w4, hw4, s0, s1, s2, s3, s4, hs4, hb4, b4⟩ := box_five w3 (.int .u8 ((itR r).1.1.toNat : Int)) (.int .u32 (itR r).1.2.1) (.int .u32 (itR r).1.2.2) (.int .i64 (itR r).2.1) (.slice D (itR r).2.2.length dc) 110
    have C4 := Lib.hid (hb3.trans (hb4.mono hb3.size))
    have B4 := Lib.hid (hb.out.trans (C4.out.mono hb.out.size))
    have hI4 := Lib.hid (hu3.new (Nat.le_refl _) hb4)
    obtain ⟨x, hx⟩ : ∃ x, itR r = x := ⟨_, rfl⟩
    rw [hx] at hin s0 s1 s2 s3 s4 b4 hI4 hw4 ⊢
    replace hs4 := Lib.hid hs4
    replace hx := Lib.hid hx
    clear hb3 hb4 hu3 hby
    unfold itV at *
    go_upto_region 5 with fail
    clear hw4
    rcases bool_ways (okR r) with hok | hok
    · have hE := Lib.hid (show itE r = 8 by simp [itE, hok])
      have hno := Lib.hid (cutTo_none (cutTo_no hcut.out hok) (show k + 1 ≤ many by omega))
      have hL := Lib.hid (show cutL b many = [] by simp [cutL, hno.out])
      have hR := Lib.hid (show cutR b many = [] by simp [cutR, hno.out])
      have hF := Lib.hid (show cutF b many = 8 by simp [cutF, hno.out])
      rw [hE.out]
      replace hok := Lib.hid hok
      go_wp2_with fail
      exact bodyPost_ret (v := .tuple #[.slice none 0 0, .slice none 0 0, .int .i64 8]) (by simp [results, Tryz.results64, go_sem]) rfl ⟨none, 0, _, by rw [hL.out, hF.out]; rfl, by rw [hL.out]; exact its_nil _ _, by rw [hR.out]; exact rBy_part0 _ _ none, B4.out⟩
    have hE := Lib.hid (show itE r = 0 by simp [itE, hok])
    obtain ⟨m, hm1, hm2, hm3, hm4⟩ := read_itB hok
    have hyes := cutTo_yes hcut.out hok
    rw [hm1, show ((m : Int)).toNat = m by omega, hx.out] at hyes
    have hrl : 12 ≤ nq := by have := okC_yes (okR_fields hok).1; have := hnq.out; omega
    rw [hnq.out] at hm2
    rw [hE.out, hm1]
    replace hyes := Lib.hid hyes
    replace hok := Lib.hid hok
    clear hm1 hm3 hm4
    obtain ⟨w5, hw5, _, _, _, _, _, hs5, hb5, b5⟩ := box_five w4 (.int .u8 (x.1.1.toNat : Int)) (.int .u32 x.1.2.1) (.int .u32 x.1.2.2) (.int .i64 x.2.1) (.slice D x.2.2.length dc) 110
    have C5 := C4.out.trans (hb5.mono C4.out.size)
    have hI5 := hI4.out.new (Nat.le_refl _) hb5
    have hx5 : rBy (NewBut w.heap.size A w5) w5 [.slice D x.2.2.length dc] x.2.2 := by
      obtain ⟨d, e, _, hd⟩ := hI5
      have ed : d = .slice D x.2.2.length dc := by injection e with e; simpa using e.symm
      subst ed
      exact stab_by _ _ _ _ _ _ (fun p v hp hc => ⟨hrow.out.but (Nat.le_refl _) hb.out.size hp, hc⟩) hd
    have row5 := RowOf.below stab_it hrow.out C5
    have hb5' := hb.out.trans (C5.mono hb.out.size)
    have hk5 : l.length < 100000 := by have := hl.out; omega
    obtain ⟨A6, c6, w6, hr6, row6, _, hb6⟩ := its_push row5 w4.heap.size x _ 1 k hl.out b5 (by omega) hb5'.size hin hx5
    have B6 := Lib.hid (hb5'.trans hb6)
    have H6 := Lib.hid hr6
    replace row6 := Lib.hid row6
    have hll := Lib.hid (show (l ++ [x]).length = k + 1 by simp [hl.out])
    obtain ⟨qa, rfl⟩ : ∃ qa, Q = some qa := by
      obtain ⟨_, _, e, _, _, h4⟩ := rBy_open hq.out
      cases e
      obtain ⟨qa, e, _⟩ := h4 0 (by have := hnq.out; omega)
      exact ⟨qa, e⟩
    have hrest := Lib.hid (rBy_rest hq.out m (by rw [hnq.out]; exact hm2))
    have hnil : Hid (m = nq → ∀ W, rBy (Old W) W [.slice (some qa) 0 0] (r.drop m)) := Lib.hid fun e W => by
      rw [List.drop_of_length_le (by rw [hnq.out]; omega)]
      exact rBy_part0 _ _ _
    replace hs5 := Lib.hid hs5
    replace b5 := Lib.hid b5
    replace hI5 := Lib.hid hI5
    clear hr6 hb6 hx5 row5 C5 hb5 hb5' hin
    by_cases hmc : m = cq
    · have c1 : (0 : Int) ≤ (m : Int) := by omega
      have c2 : (m : Int) ≤ cq := by omega
      have c3 : (m : Int) ≤ nq := by omega
      go_wp2_with (at_builtin; refine wpList_append_run rfl _ _ _ rfl rfl rfl H6.out ?_; clear H6)
      go_roundw
      case rel => exact ⟨k + 1, l ++ [x], r.drop m, A6, c6, by omega, by go_num, rfl, hll.out, hyes.out, hnil.out (by omega) w, row6.out, B6.out⟩
      case measure => simp [intOf]; omega
    · have c1 : (0 : Int) ≤ (m : Int) := by omega
      have c2 : (m : Int) ≤ cq := by omega
      have c3 : (m : Int) ≤ nq := by omega
      go_wp2_with (at_builtin; refine wpList_append_run rfl _ _ _ rfl rfl rfl H6.out ?_; clear H6)
      go_roundw
      case rel => exact ⟨k + 1, l ++ [x], r.drop m, A6, c6, by omega, by go_num, rfl, hll.out, hyes.out, hrest.out, row6.out, B6.out⟩
      case measure => simp [intOf]; omega
end Go.Proofs.YtjlbkcnhbndgbaaGreat

/-
  Package node: refers, Check. Conditions: those that each lemma states.
-/
namespace Go.Proofs.YtjlbkcnhbndgbaaGreat
open Go.RowKit

set_option maxRecDepth 100000 in
set_option maxHeartbeats 2000000 in
theorem refers_any (v : Value) (s : It) (w : World) (h : Itm (Old w) w v s) : Calls Tryz.prog 79 #[v] w fun e w' => e = .returned (.bool (refersI s)) ∧ Below w.heap.size w w' := by
  obtain ⟨A, c, rfl, _, l1, m1, _⟩ := h.open
  have hw : refersI s = (decide (s.2.1 ≠ 0) && decide (s.2.2.length = 0)) := rfl
  obtain ⟨n, hn⟩ : ∃ n, s.2.2.length = n := ⟨_, rfl⟩
  unfold itV
  rw [hn] at l1 hw ⊢
  obtain ⟨w0, hw0, f1, f2, f3, f4, f5, hs0, hB0, _⟩ := box_five w (.int .u8 (s.1.1.toNat : Int)) (.int .u32 s.1.2.1) (.int .u32 s.1.2.2) (.int .i64 s.2.1) (.slice A n c) 110
  clear f1 f2 f3 hs0 hn h
  replace hB0 := Lib.hid hB0
  obtain ⟨r, hr⟩ : ∃ r, s.2.1 = r := ⟨_, rfl⟩
  rw [hr] at hw f4 hw0 ⊢
  clear hr
  generalize refersI s = res at hw ⊢
  replace hw := Lib.hid hw
  by_cases h0 : r = 0
  · have t0 : (r != 0) = false := by simpa using h0
    have hr := Lib.hid (show res = false by rw [hw.out]; simp [h0])
    replace h0 := Lib.hid h0
    go_enter Tryz.func79, Tryz.ntmps79
    go_upto_region 1 with fail
    clear hw0
    go_wp2_with fail
    go_ret
    exact ⟨ret_bool hr.out.symm, hB0.out⟩
  · have t0 : (r != 0) = true := by simpa using h0
    by_cases h1 : n = 0
    · have t1 : ((n : Int) == 0) = true := by simp; omega
      have hr := Lib.hid (show res = true by rw [hw.out]; simp [h0, h1])
      replace h0 := Lib.hid h0
      replace h1 := Lib.hid h1
      go_enter Tryz.func79, Tryz.ntmps79
      go_upto_region 1 with fail
      clear hw0
      go_wp2_with fail
      go_ret
      exact ⟨ret_bool hr.out.symm, hB0.out⟩
    · have t1 : ((n : Int) == 0) = false := by simp; omega
      have hr := Lib.hid (show res = false by rw [hw.out]; simp [h1])
      replace h0 := Lib.hid h0
      replace h1 := Lib.hid h1
      go_enter Tryz.func79, Tryz.ntmps79
      go_upto_region 1 with fail
      clear hw0
      go_wp2_with fail
      go_ret
      exact ⟨ret_bool hr.out.symm, hB0.out⟩

theorem bool_two (b : Bool) : b = false ∨ b = true := by cases b <;> simp
set_option maxRecDepth 100000 in
set_option maxHeartbeats 8000000 in
theorem checkN_any (v : Value) (n : Nd) (w : World) (h : Nod (Old w) w v n) : Calls Tryz.prog 65 #[v] w fun e w' => e = .returned (.int .i64 (chkN n)) ∧ Below w.heap.size w w' := by
  obtain ⟨A, c, rfl, hin, l1, m1, hA⟩ := h.open
  have hbad0 := Lib.hid (fun hh => chkN_bad (mayN_shape (n := n) hh))
  have hbad1 : Hid (∀ k, k < n.2.length → okAt n k = false → chkN n = 8) := Lib.hid fun k hk hh => chkN_bad (mayN_at hk hh)
  have hgood := Lib.hid (fun hh h2 => chkN_ok (mayN_mk (n := n) hh h2))
  have HA := Lib.hid hA
  clear h hA
  obtain ⟨m, hm⟩ : ∃ m, n.2.length = m := ⟨_, rfl⟩
  obtain ⟨l, hl⟩ : ∃ l, n.1 = l := ⟨_, rfl⟩
  rw [hm] at l1 hbad0 hbad1 hgood HA ⊢
  rw [hl] at hbad0 hgood hin ⊢
  obtain ⟨i1, i2⟩ := hin
  replace hm := Lib.hid hm
  replace hl := Lib.hid hl
  obtain ⟨w0, hw0, b0, hs0, hB0⟩ := box_pair' w (.int .i64 l) (.slice A m c) 47
  obtain ⟨f1, f2, _, lt0⟩ := two_cells b0
  replace hB0 := Lib.hid hB0
  replace b0 := Lib.hid b0
  replace hs0 := Lib.hid hs0
  by_cases h1 : l < 0
  · have hr := Lib.hid (hbad0.out (by omega))
    rw [hr.out]
    go_enter Tryz.func65, Tryz.ntmps65
    go_upto_region 1 with fail
    clear hw0
    go_wp2_with fail
    go_ret
    exact ⟨rfl, hB0.out⟩
  by_cases h2 : 6 ≤ l
  · have hr := Lib.hid (hbad0.out (by omega))
    rw [hr.out]
    go_enter Tryz.func65, Tryz.ntmps65
    go_upto_region 1 with fail
    clear hw0
    go_wp2_with fail
    go_ret
    exact ⟨rfl, hB0.out⟩
  by_cases h3 : 5 < m
  · have hr := Lib.hid (hbad0.out (by omega))
    have h3' : (5 : Int) < m := by omega
    rw [hr.out]
    go_enter Tryz.func65, Tryz.ntmps65
    go_upto_region 1 with fail
    clear hw0
    go_wp2_with fail
    go_ret
    exact ⟨rfl, hB0.out⟩
  have h3' : ¬ (5 : Int) < m := by omega
  by_cases h4 : 0 < l ∧ m = 0
  · have hr := Lib.hid (hbad0.out (by omega))
    obtain ⟨h4a, h4b⟩ := h4
    have h4c : ((m : Int) == 0) = true := by simp; omega
    replace h4b := Lib.hid h4b
    rw [hr.out]
    go_enter Tryz.func65, Tryz.ntmps65
    go_upto_region 1 with fail
    clear hw0
    go_wp2_with fail
    go_ret
    exact ⟨rfl, hB0.out⟩
  have hgood2 := Lib.hid (hgood.out (by omega))
  have hB := Lib.hid (fun wr (hb : Below w0.heap.size w0 wr) => hB0.out.trans (hb.mono hB0.out.size))
  clear hgood hbad0
  rcases (by omega : l ≤ 0 ∨ (0 < l ∧ m ≠ 0)) with h5 | ⟨h5, h6⟩
  rotate_left
  · have h6' : ((m : Int) == 0) = false := by simp; omega
    replace h6 := Lib.hid h6
    replace h4 := Lib.hid h4
    go_enter Tryz.func65, Tryz.ntmps65
    go_upto_region 1 with fail
    clear hw0
    go_wp2_with fail
    go_loopw [31] (fun i wr => ∃ k : Nat, k ≤ m ∧ i = .int .i64 k ∧ (∀ j, j < k → okAt n j = true) ∧ Below w0.heap.size w0 wr) (fun i _ => m - (intOf i).toNat)
    case atStart => exact ⟨0, by omega, rfl, fun j hj => by omega, Below.refl _ _⟩
    case round =>
      obtain ⟨k, hk, rfl, ha, hb⟩ := hrel
      replace ha := Lib.hid ha
      replace hb := Lib.hid hb
      have p1 := (hb.out.cell (p := ⟨w.heap.size, 0, none⟩) lt0).trans f1
      have p2 := (hb.out.cell (p := ⟨w.heap.size, 1, none⟩) lt0).trans f2
      by_cases hlt : k < m
      case neg =>
        have hfin := Lib.hid (hgood2.out fun i hi => ha.out i (by omega))
        have BF := Lib.hid (hB.out _ hb.out)
        go_wp2_with fail
        go_ret
        exact ⟨ret_int hfin.out.symm, BF.out⟩
      obtain ⟨x, hx⟩ : ∃ x, n.2[k]? = some x := ⟨_, List.getElem?_eq_getElem (by rw [hm.out]; exact hlt)⟩
      obtain ⟨ad, E, ce, rfl, q1, q2, hinx, FX⟩ := its_old HA.out hx
      have FX' := Lib.hid (fun W (hW : Below wr.heap.size wr W) => FX W ((hB.out _ hb.out).trans (hW.mono (hB.out _ hb.out).size)))
      obtain ⟨⟨z0, z1, z2, z3, z4⟩, hIx⟩ := FX'.out wr (Below.refl _ _)
      obtain ⟨w2, hw2, g0, g1, g2, g3, g4, hs2, hB2, _⟩ := box_five wr (.int .u8 (x.1.1.toNat : Int)) (.int .u32 x.1.2.1) (.int .u32 x.1.2.2) (.int .i64 x.2.1) (.slice E x.2.2.length ce) 110
      have HI := Lib.hid (hIx.below hB2)
      have lt2 : wr.heap.size < w2.heap.size := by omega
      have B2 := Lib.hid (hb.out.trans (hB2.mono hb.out.size))
      have C2 := Lib.hid hB2
      replace hx := Lib.hid hx
      replace hs2 := Lib.hid hs2
      have hbk := Lib.hid (hbad1.out k hlt)
      clear FX hIx hB2 hinx
      unfold itV at *
      go_upto_region 8 with fail
      clear hw2
      go_wp2_with fail
      with_reducible refine (checkI_any _ x _ HI.out).mono ?_
      rintro e3 w3 ⟨rfl, hb3⟩
      have B3 := Lib.hid (B2.out.trans (hb3.mono B2.out.size))
      have C3 := Lib.hid (C2.out.trans (hb3.mono C2.out.size))
      have r0 := (hb3.cell (p := ⟨wr.heap.size, 0, none⟩) lt2).trans g0
      have r1 := (hb3.cell (p := ⟨wr.heap.size, 1, none⟩) lt2).trans g1
      have r2 := (hb3.cell (p := ⟨wr.heap.size, 2, none⟩) lt2).trans g2
      have r3 := (hb3.cell (p := ⟨wr.heap.size, 3, none⟩) lt2).trans g3
      have r4 := (hb3.cell (p := ⟨wr.heap.size, 4, none⟩) lt2).trans g4
      have p3 := (hb3.cell (p := ⟨w.heap.size, 0, none⟩) (Nat.lt_of_lt_of_le lt0 B2.out.size)).trans ((C2.out.cell (p := ⟨w.heap.size, 0, none⟩) (Nat.lt_of_lt_of_le lt0 hb.out.size)).trans p1)
      have p4 := (hb3.cell (p := ⟨w.heap.size, 1, none⟩) (Nat.lt_of_lt_of_le lt0 B2.out.size)).trans ((C2.out.cell (p := ⟨w.heap.size, 1, none⟩) (Nat.lt_of_lt_of_le lt0 hb.out.size)).trans p2)
      replace HI := Lib.hid (HI.out.below hb3)
      have lt3 : wr.heap.size < w3.heap.size := Nat.lt_of_lt_of_le lt2 hb3.size
      clear hb3 g0 g1 g2 g3 g4 z0 z1 z2 z3 z4 p1 p2
      rcases bool_two (mayI x) with hmx | hmx
      · have hr := Lib.hid (hbk.out (okAt_noP hx.out (by rw [okP, hmx]; rfl)))
        have hc := Lib.hid (chkI_bad hmx)
        have BF := Lib.hid (hB.out _ B3.out)
        replace hmx := Lib.hid hmx
        rw [hc.out]
        go_wp2_with fail
        go_ret
        exact ⟨ret_int hr.out.symm, BF.out⟩
      have hc := Lib.hid (chkI_ok hmx)
      replace hmx := Lib.hid hmx
      rw [hc.out]
      go_wp2_with fail
      with_reducible refine (refers_any _ x _ HI.out).mono ?_
      rintro e4 w4 ⟨rfl, hb4⟩
      have B4 := Lib.hid (B3.out.trans (hb4.mono B3.out.size))
      have C4 := Lib.hid (C3.out.trans (hb4.mono C3.out.size))
      have t0 := (hb4.cell (p := ⟨wr.heap.size, 0, none⟩) lt3).trans r0
      have t1 := (hb4.cell (p := ⟨wr.heap.size, 1, none⟩) lt3).trans r1
      have t2 := (hb4.cell (p := ⟨wr.heap.size, 2, none⟩) lt3).trans r2
      have p5 := (hb4.cell (p := ⟨w.heap.size, 1, none⟩) (Nat.lt_of_lt_of_le lt0 B3.out.size)).trans p4
      have lt4 : wr.heap.size < w4.heap.size := Nat.lt_of_lt_of_le lt3 hb4.size
      have lt0' : w.heap.size < w4.heap.size := Nat.lt_of_lt_of_le lt0 B4.out.size
      clear hb4 r0 r1 r2 r3 r4 p3 p4
      rcases bool_two (refersI x) with hrx | hrx
      · have hr := Lib.hid (hbk.out (okAt_noP hx.out (by rw [okP, hmx.out, hrx, hl.out]; simp; omega)))
        have BF := Lib.hid (hB.out _ B4.out)
        rw [hrx]
        replace hrx := Lib.hid hrx
        go_wp2_with fail
        go_ret
        exact ⟨ret_int hr.out.symm, BF.out⟩
      have hP := Lib.hid (show okP n.1 x = true by rw [okP, hmx.out, hrx]; simp)
      rw [hrx]
      replace hrx := Lib.hid hrx
      rcases (by rcases k with _ | j; exact Or.inl rfl; exact Or.inr ⟨j, rfl⟩ : k = 0 ∨ ∃ j, k = j + 1) with hk0 | ⟨j, hkj⟩
      · have hall := Lib.hid (show ∀ j, j < k + 1 → okAt n j = true from fun j hj => by
          obtain rfl : j = 0 := by omega
          subst hk0
          rw [okAt_zero hx.out, hP.out])
        subst hk0
        go_wp2_with fail
        go_quiet (fail)
        go_wp2_with fail
        go_roundw
        case rel => exact ⟨0 + 1, by omega, by go_num, hall.out, below_drewN B4.out _⟩
        case measure => simp [intOf]; omega
      · obtain ⟨y, hy⟩ : ∃ y, n.2[j]? = some y := ⟨_, List.getElem?_eq_getElem (by rw [hm.out]; omega)⟩
        obtain ⟨ad', E', ce', e', _, _, _, FY⟩ := its_old HA.out hy
        have e'' := Option.some.inj e'
        subst e''
        clear e'
        have BW4 := Lib.hid (hB.out _ B4.out)
        have FYY := Lib.hid fun W (hW : Below _ _ W) => (FY W (BW4.out.trans (hW.mono BW4.out.size))).1
        have hsucc := Lib.hid (show okAt n k = lessK y.1 x.1 by subst hkj; rw [okAt_succ hx.out hy, hP.out]; simp)
        have hj1 : (k : Int) - 1 = (j : Int) := by omega
        replace hy := Lib.hid hy
        obtain ⟨s, hs⟩ : ∃ s, lessK y.1 x.1 = s := ⟨_, rfl⟩
        rw [hs] at hsucc
        replace hs := Lib.hid hs
        have hwj : IntKind.i64.wrap (j : Int) = (j : Int) := IntWalk.i64_in _ (by omega)
        have hj0 : (0 : Int) ≤ (j : Int) := by omega
        have kpos : (0 : Int) < (k : Int) := by omega
        have hjm : (j : Int) < (m : Int) := by omega
        clear FY
        go_wp2_with fail
        refine wp_region_fx (by kernel_rfl) (fun W => Below _ _ W) (fun _ => none) (fun i => match i with
          | 12 => some (.bool s)
          | _ => none) (by kernel_rfl) (Below.refl _ _).drew (fun w w' h hb => h.trans (hb.mono h.size)) (fun j φ x W W' hp => by cases hp) ?_
        repeat (first
          | (refine wpAs_skip rfl ?_; simp only [Act.put, List.setIfInBounds_toArray, List.set_cons_zero, List.set_cons_succ])
          | (refine wpAs_pure (v := ?_) rfl rfl ?_ ?_; rotate_left; (intro W hC hE; clear hE; (obtain ⟨y0, y1, y2, y3, y4⟩ := FYY.out W hC; have x0 := (hC.cell (p := ⟨wr.heap.size, 0, none⟩) lt4).trans t0; have x1 := (hC.cell (p := ⟨wr.heap.size, 1, none⟩) lt4).trans t1; have x2 := (hC.cell (p := ⟨wr.heap.size, 2, none⟩) lt4).trans t2; have p6 := (hC.cell (p := ⟨w.heap.size, 1, none⟩) lt0').trans p5); clear hC; go_simp; done); simp only [Act.put, List.setIfInBounds_toArray, List.set_cons_zero, List.set_cons_succ])
          | (refine wpAs_pure (v := ?_) rfl rfl ?_ ?_; rotate_left; (intro W hC hE; clear hE; (obtain ⟨y0, y1, y2, y3, y4⟩ := FYY.out W hC; have x0 := (hC.cell (p := ⟨wr.heap.size, 0, none⟩) lt4).trans t0; have x1 := (hC.cell (p := ⟨wr.heap.size, 1, none⟩) lt4).trans t1; have x2 := (hC.cell (p := ⟨wr.heap.size, 2, none⟩) lt4).trans t2; have p6 := (hC.cell (p := ⟨w.heap.size, 1, none⟩) lt0').trans p5); clear hC; go_simp; with_reducible rfl); simp only [Act.put, List.setIfInBounds_toArray, List.set_cons_zero, List.set_cons_succ]))
        refine wpAs_fixed rfl rfl rfl ?_ ?_
        · intro W hC hE
          refine does_enter (f := 80) (args := #[kyV y.1, kyV x.1]) ?_ ?_
          · go_simp
          · refine (less_any y.1 x.1 W).mono ?_
            rintro e W' ⟨rfl, hg⟩
            rw [hs.out]
            exact ⟨_, rfl, rfl, hg⟩
        simp only [Act.put, List.setIfInBounds_toArray, List.set_cons_zero, List.set_cons_succ]
        repeat (first
          | (refine wpAs_skip rfl ?_; simp only [Act.put, List.setIfInBounds_toArray, List.set_cons_zero, List.set_cons_succ])
          | (refine wpAs_pure (v := ?_) rfl rfl ?_ ?_; rotate_left; (intro W hC hE; clear hE; skip; clear hC; go_simp; done); simp only [Act.put, List.setIfInBounds_toArray, List.set_cons_zero, List.set_cons_succ])
          | (refine wpAs_pure (v := ?_) rfl rfl ?_ ?_; rotate_left; (intro W hC hE; clear hE; skip; clear hC; go_simp; with_reducible rfl); simp only [Act.put, List.setIfInBounds_toArray, List.set_cons_zero, List.set_cons_succ]))
        refine wpAs_end fun W hC hE => ?_
        have BW := Lib.hid (B4.out.trans (hC.mono B4.out.size))
        clear hE hC
        cases s with
        | true =>
          have hall := Lib.hid (show ∀ j, j < k + 1 → okAt n j = true from fun j hj => by
            rcases Nat.lt_or_ge j k with h | h
            · exact ha.out j h
            · obtain rfl : j = k := by omega
              exact hsucc.out)
          go_wp2_with fail
          go_roundw
          case rel => exact ⟨k + 1, by omega, by go_num, hall.out, BW.out⟩
          case measure => simp [intOf]; omega
        | false =>
          have hr := Lib.hid (hbk.out hsucc.out)
          have BF := Lib.hid (hB.out _ BW.out)
          go_wp2_with fail
          go_ret
          exact ⟨ret_int hr.out.symm, BF.out⟩
  · replace h4 := Lib.hid h4
    go_enter Tryz.func65, Tryz.ntmps65
    go_upto_region 1 with fail
    clear hw0
    go_wp2_with fail
    go_loopw [31] (fun i wr => ∃ k : Nat, k ≤ m ∧ i = .int .i64 k ∧ (∀ j, j < k → okAt n j = true) ∧ Below w0.heap.size w0 wr) (fun i _ => m - (intOf i).toNat)
    case atStart => exact ⟨0, by omega, rfl, fun j hj => by omega, Below.refl _ _⟩
    case round =>
      obtain ⟨k, hk, rfl, ha, hb⟩ := hrel
      replace ha := Lib.hid ha
      replace hb := Lib.hid hb
      have p1 := (hb.out.cell (p := ⟨w.heap.size, 0, none⟩) lt0).trans f1
      have p2 := (hb.out.cell (p := ⟨w.heap.size, 1, none⟩) lt0).trans f2
      by_cases hlt : k < m
      case neg =>
        have hfin := Lib.hid (hgood2.out fun i hi => ha.out i (by omega))
        have BF := Lib.hid (hB.out _ hb.out)
        go_wp2_with fail
        go_ret
        exact ⟨ret_int hfin.out.symm, BF.out⟩
      obtain ⟨x, hx⟩ : ∃ x, n.2[k]? = some x := ⟨_, List.getElem?_eq_getElem (by rw [hm.out]; exact hlt)⟩
      obtain ⟨ad, E, ce, rfl, q1, q2, hinx, FX⟩ := its_old HA.out hx
      have FX' := Lib.hid (fun W (hW : Below wr.heap.size wr W) => FX W ((hB.out _ hb.out).trans (hW.mono (hB.out _ hb.out).size)))
      obtain ⟨⟨z0, z1, z2, z3, z4⟩, hIx⟩ := FX'.out wr (Below.refl _ _)
      obtain ⟨w2, hw2, g0, g1, g2, g3, g4, hs2, hB2, _⟩ := box_five wr (.int .u8 (x.1.1.toNat : Int)) (.int .u32 x.1.2.1) (.int .u32 x.1.2.2) (.int .i64 x.2.1) (.slice E x.2.2.length ce) 110
      have HI := Lib.hid (hIx.below hB2)
      have lt2 : wr.heap.size < w2.heap.size := by omega
      have B2 := Lib.hid (hb.out.trans (hB2.mono hb.out.size))
      have C2 := Lib.hid hB2
      replace hx := Lib.hid hx
      replace hs2 := Lib.hid hs2
      have hbk := Lib.hid (hbad1.out k hlt)
      clear FX hIx hB2 hinx
      unfold itV at *
      go_upto_region 8 with fail
      clear hw2
      go_wp2_with fail
      with_reducible refine (checkI_any _ x _ HI.out).mono ?_
      rintro e3 w3 ⟨rfl, hb3⟩
      have B3 := Lib.hid (B2.out.trans (hb3.mono B2.out.size))
      have C3 := Lib.hid (C2.out.trans (hb3.mono C2.out.size))
      have r0 := (hb3.cell (p := ⟨wr.heap.size, 0, none⟩) lt2).trans g0
      have r1 := (hb3.cell (p := ⟨wr.heap.size, 1, none⟩) lt2).trans g1
      have r2 := (hb3.cell (p := ⟨wr.heap.size, 2, none⟩) lt2).trans g2
      have r3 := (hb3.cell (p := ⟨wr.heap.size, 3, none⟩) lt2).trans g3
      have r4 := (hb3.cell (p := ⟨wr.heap.size, 4, none⟩) lt2).trans g4
      have p3 := (hb3.cell (p := ⟨w.heap.size, 0, none⟩) (Nat.lt_of_lt_of_le lt0 B2.out.size)).trans ((C2.out.cell (p := ⟨w.heap.size, 0, none⟩) (Nat.lt_of_lt_of_le lt0 hb.out.size)).trans p1)
      have p4 := (hb3.cell (p := ⟨w.heap.size, 1, none⟩) (Nat.lt_of_lt_of_le lt0 B2.out.size)).trans ((C2.out.cell (p := ⟨w.heap.size, 1, none⟩) (Nat.lt_of_lt_of_le lt0 hb.out.size)).trans p2)
      replace HI := Lib.hid (HI.out.below hb3)
      have lt3 : wr.heap.size < w3.heap.size := Nat.lt_of_lt_of_le lt2 hb3.size
      clear hb3 g0 g1 g2 g3 g4 z0 z1 z2 z3 z4 p1 p2
      rcases bool_two (mayI x) with hmx | hmx
      · have hr := Lib.hid (hbk.out (okAt_noP hx.out (by rw [okP, hmx]; rfl)))
        have hc := Lib.hid (chkI_bad hmx)
        have BF := Lib.hid (hB.out _ B3.out)
        replace hmx := Lib.hid hmx
        rw [hc.out]
        go_wp2_with fail
        go_ret
        exact ⟨ret_int hr.out.symm, BF.out⟩
      have hc := Lib.hid (chkI_ok hmx)
      replace hmx := Lib.hid hmx
      rw [hc.out]
      have h5q : ¬ (0 : Int) < l := by omega
      have hP := Lib.hid (show okP n.1 x = true by rw [okP, hmx.out, hl.out]; simp; omega)
      obtain ⟨w4, hw4⟩ : ∃ w4, w3 = w4 := ⟨_, rfl⟩
      subst hw4
      have B4 := B3
      have C4 := C3
      have t0 := r0
      have t1 := r1
      have t2 := r2
      have p5 := p4
      have lt4 := lt3
      have lt0' : w.heap.size < w3.heap.size := Nat.lt_of_lt_of_le lt0 B4.out.size
      clear r0 r1 r2 r3 r4 lt3
      rcases (by rcases k with _ | j; exact Or.inl rfl; exact Or.inr ⟨j, rfl⟩ : k = 0 ∨ ∃ j, k = j + 1) with hk0 | ⟨j, hkj⟩
      · have hall := Lib.hid (show ∀ j, j < k + 1 → okAt n j = true from fun j hj => by
          obtain rfl : j = 0 := by omega
          subst hk0
          rw [okAt_zero hx.out, hP.out])
        subst hk0
        go_wp2_with fail
        go_quiet (fail)
        go_wp2_with fail
        go_roundw
        case rel => exact ⟨0 + 1, by omega, by go_num, hall.out, below_drewN B4.out _⟩
        case measure => simp [intOf]; omega
      · obtain ⟨y, hy⟩ : ∃ y, n.2[j]? = some y := ⟨_, List.getElem?_eq_getElem (by rw [hm.out]; omega)⟩
        obtain ⟨ad', E', ce', e', _, _, _, FY⟩ := its_old HA.out hy
        have e'' := Option.some.inj e'
        subst e''
        clear e'
        have BW4 := Lib.hid (hB.out _ B4.out)
        have FYY := Lib.hid fun W (hW : Below _ _ W) => (FY W (BW4.out.trans (hW.mono BW4.out.size))).1
        have hsucc := Lib.hid (show okAt n k = lessK y.1 x.1 by subst hkj; rw [okAt_succ hx.out hy, hP.out]; simp)
        have hj1 : (k : Int) - 1 = (j : Int) := by omega
        replace hy := Lib.hid hy
        obtain ⟨s, hs⟩ : ∃ s, lessK y.1 x.1 = s := ⟨_, rfl⟩
        rw [hs] at hsucc
        replace hs := Lib.hid hs
        have hwj : IntKind.i64.wrap (j : Int) = (j : Int) := IntWalk.i64_in _ (by omega)
        have hj0 : (0 : Int) ≤ (j : Int) := by omega
        have kpos : (0 : Int) < (k : Int) := by omega
        have hjm : (j : Int) < (m : Int) := by omega
        clear FY
        go_wp2_with fail
        refine wp_region_fx (by kernel_rfl) (fun W => Below _ _ W) (fun _ => none) (fun i => match i with
          | 12 => some (.bool s)
          | _ => none) (by kernel_rfl) (Below.refl _ _).drew (fun w w' h hb => h.trans (hb.mono h.size)) (fun j φ x W W' hp => by cases hp) ?_
        repeat (first
          | (refine wpAs_skip rfl ?_; simp only [Act.put, List.setIfInBounds_toArray, List.set_cons_zero, List.set_cons_succ])
          | (refine wpAs_pure (v := ?_) rfl rfl ?_ ?_; rotate_left; (intro W hC hE; clear hE; (obtain ⟨y0, y1, y2, y3, y4⟩ := FYY.out W hC; have x0 := (hC.cell (p := ⟨wr.heap.size, 0, none⟩) lt4).trans t0; have x1 := (hC.cell (p := ⟨wr.heap.size, 1, none⟩) lt4).trans t1; have x2 := (hC.cell (p := ⟨wr.heap.size, 2, none⟩) lt4).trans t2; have p6 := (hC.cell (p := ⟨w.heap.size, 1, none⟩) lt0').trans p5); clear hC; go_simp; done); simp only [Act.put, List.setIfInBounds_toArray, List.set_cons_zero, List.set_cons_succ])
          | (refine wpAs_pure (v := ?_) rfl rfl ?_ ?_; rotate_left; (intro W hC hE; clear hE; (obtain ⟨y0, y1, y2, y3, y4⟩ := FYY.out W hC; have x0 := (hC.cell (p := ⟨wr.heap.size, 0, none⟩) lt4).trans t0; have x1 := (hC.cell (p := ⟨wr.heap.size, 1, none⟩) lt4).trans t1; have x2 := (hC.cell (p := ⟨wr.heap.size, 2, none⟩) lt4).trans t2; have p6 := (hC.cell (p := ⟨w.heap.size, 1, none⟩) lt0').trans p5); clear hC; go_simp; with_reducible rfl); simp only [Act.put, List.setIfInBounds_toArray, List.set_cons_zero, List.set_cons_succ]))
        refine wpAs_fixed rfl rfl rfl ?_ ?_
        · intro W hC hE
          refine does_enter (f := 80) (args := #[kyV y.1, kyV x.1]) ?_ ?_
          · go_simp
          · refine (less_any y.1 x.1 W).mono ?_
            rintro e W' ⟨rfl, hg⟩
            rw [hs.out]
            exact ⟨_, rfl, rfl, hg⟩
        simp only [Act.put, List.setIfInBounds_toArray, List.set_cons_zero, List.set_cons_succ]
        repeat (first
          | (refine wpAs_skip rfl ?_; simp only [Act.put, List.setIfInBounds_toArray, List.set_cons_zero, List.set_cons_succ])
          | (refine wpAs_pure (v := ?_) rfl rfl ?_ ?_; rotate_left; (intro W hC hE; clear hE; skip; clear hC; go_simp; done); simp only [Act.put, List.setIfInBounds_toArray, List.set_cons_zero, List.set_cons_succ])
          | (refine wpAs_pure (v := ?_) rfl rfl ?_ ?_; rotate_left; (intro W hC hE; clear hE; skip; clear hC; go_simp; with_reducible rfl); simp only [Act.put, List.setIfInBounds_toArray, List.set_cons_zero, List.set_cons_succ]))
        refine wpAs_end fun W hC hE => ?_
        have BW := Lib.hid (B4.out.trans (hC.mono B4.out.size))
        clear hE hC
        cases s with
        | true =>
          have hall := Lib.hid (show ∀ j, j < k + 1 → okAt n j = true from fun j hj => by
            rcases Nat.lt_or_ge j k with h | h
            · exact ha.out j h
            · obtain rfl : j = k := by omega
              exact hsucc.out)
          go_wp2_with fail
          go_roundw
          case rel => exact ⟨k + 1, by omega, by go_num, hall.out, BW.out⟩
          case measure => simp [intOf]; omega
        | false =>
          have hr := Lib.hid (hbk.out hsucc.out)
          have BF := Lib.hid (hB.out _ BW.out)
          go_wp2_with fail
          go_ret
          exact ⟨ret_int hr.out.symm, BF.out⟩
end Go.Proofs.YtjlbkcnhbndgbaaGreat

/-
  Package node: Write. Conditions: those that each lemma states.
-/
namespace Go.Proofs.YtjlbkcnhbndgbaaGreat
open Go.RowKit

/-- Three literal bytes, as a row of the call's own. -/
theorem lit_own3 (w : World) (x y z : UInt8) (a b c : Int) (h1 : (x.toNat : Int) = a) (h2 : (y.toNat : Int) = b) (h3 : (z.toNat : Int) = c) : ∃ w1, w.alloc (.cells #[.int .u8 a, .int .u8 b, .int .u8 c] 5) = w1 ∧ w1.ownsRow w.heap.size 5 1 (.slice (some ⟨w.heap.size, 0, none⟩) 3 3) 3 (u8s [x, y, z]) ∧ Below w.heap.size w w1 ∧ w1.heap.size = w.heap.size + 1 := by
  subst h1 h2 h3
  refine ⟨_, rfl, ?_, (Below.refl _ _).alloc (Nat.le_refl _) _, by simp⟩
  have h1 : Row (w.alloc (.cells #[.int .u8 (x.toNat : Int), .int .u8 (y.toNat : Int), .int .u8 (z.toNat : Int)] 5)) w.heap.size [x, y, z] := Row.new w [x, y, z]
  exact h1.own (Nat.le_refl _) (by simp)
theorem u8_small {l : Int} (h0 : 0 ≤ l) (h1 : l < 256) : ((UInt8.ofNat l.toNat).toNat : Int) = l ∧ IntKind.u8.wrap l = l := by
  refine ⟨?_, ?_⟩
  · rw [UInt8.toNat_ofNat']
    omega
  · simp [IntKind.wrap, IntKind.signed, IntKind.bits]
    omega
theorem headN_len (n : Nd) (k : Nat) : (headN n ++ itsB (n.2.take k)).length = 3 + (itsB (n.2.take k)).length := by simp [headN]; omega
theorem itsB_take_len {n : Nd} (h : mayN n = true) (k : Nat) : (itsB (n.2.take k)).length ≤ 120 := by
  have h1 := itsB_len (l := n.2.take k) (fun x hx => mayN_all h x (List.mem_of_mem_take hx))
  have h2 := (mayN_of h).1.2.2.1
  have h3 : (n.2.take k).length ≤ n.2.length := by rw [List.length_take]; omega
  omega

end Go.Proofs.YtjlbkcnhbndgbaaGreat

/-
  Package node: Read. Conditions: those that each lemma states.
-/
namespace Go.Proofs.YtjlbkcnhbndgbaaGreat
open Go.RowKit

def lvlN (body : List UInt8) : Int := ((body[1]?.getD 0).toNat : Int)
def manyN (body : List UInt8) : Nat := (body[2]?.getD 0).toNat
theorem manyN_lt (body : List UInt8) : manyN body < 256 := (body[2]?.getD 0).toNat_lt
theorem lvlN_in (body : List UInt8) : In64 (lvlN body) := by
  have := (body[1]?.getD 0).toNat_lt
  unfold lvlN
  exact ⟨by omega, by omega⟩
def ndN (body : List UInt8) : Nd := (lvlN body, cutL (body.drop 3) (manyN body))
def rdN (body : List UInt8) : Bool := decide (body[0]?.getD 0 = 78) && ((cutTo (body.drop 3) (manyN body)).isSome && (mayN (ndN body) && noughtsB (cutR (body.drop 3) (manyN body))))
noncomputable def reN (b : List UInt8) : Int := if oe b = 0 then (if rdN (ob b) then 0 else 8) else oe b
noncomputable def reV (b : List UInt8) : Nd := if oe b = 0 then (if rdN (ob b) then ndN (ob b) else zeroN) else zeroN
theorem oe_zeroN {b : List UInt8} (h : oe b = 0) : b.length = 128 ∧ fits b ∧ ob b = b.drop 4 ∧ (ob b).length = 124 := by
  unfold oe at h
  by_cases h1 : b.length = 128
  · rw [if_pos h1] at h
    by_cases h2 : fits b
    · have : ob b = b.drop 4 := by unfold ob; rw [if_pos ⟨h1, h2⟩]
      exact ⟨h1, h2, this, by rw [this]; simp [h1]⟩
    · rw [if_neg h2] at h; cases h
  · rw [if_neg h1] at h; cases h
theorem reN_open {b : List UInt8} (h : oe b ≠ 0) : reN b = oe b ∧ reV b = zeroN := by
  unfold reN reV
  rw [if_neg h, if_neg h]
  exact ⟨rfl, rfl⟩
theorem reN_bad {b : List UInt8} (h : oe b = 0) (h' : rdN (ob b) = false) : reN b = 8 ∧ reV b = zeroN := by
  unfold reN reV
  rw [if_pos h, if_pos h, h']
  exact ⟨rfl, rfl⟩
theorem reN_good {b : List UInt8} (h : oe b = 0) (h' : rdN (ob b) = true) : reN b = 0 ∧ reV b = ndN (ob b) := by
  unfold reN reV
  rw [if_pos h, if_pos h, h']
  exact ⟨rfl, rfl⟩
theorem mayN_items {n : Nd} (h : mayN n = true) : n.2.length ≤ 5 := (mayN_of h).1.2.2.1

set_option maxRecDepth 100000 in
set_option maxHeartbeats 4000000 in
theorem nodeRead_any (v : Value) (b : List UInt8) (w : World) (h : rBy (Old w) w [v] b) :
    Calls Tryz.prog 40 #[v] w fun e w' => ∃ u, e = .returned (.tuple #[u, .int .i64 (reN b)]) ∧ Nod (New w.heap.size w') w' u (reV b) ∧ Below w.heap.size w w' := by
  obtain ⟨A, c, rfl, l1, m1, hy⟩ := rBy_byt (B := w.heap.size) (fun p hp => hp) h
  obtain ⟨n, hn⟩ : ∃ n, b.length = n := ⟨_, rfl⟩
  rw [hn] at l1 ⊢
  replace hn := Lib.hid hn
  obtain ⟨w0, hw0, b0, hs0, hB0⟩ := box_pair' w (.int .i64 0) (.slice none 0 0) 47
  have lt0 : w.heap.size < w0.heap.size := by omega
  have HB0 := Lib.hid hB0
  have HY := Lib.hid ((hy.below hB0).more hB0.size)
  -- a refusal, from whatever later world
  have hzero : Hid (∀ (er : Int) (W : World), reN b = er ∧ reV b = zeroN → Below w0.heap.size w0 W → ∃ W9, (W.setCell ⟨w.heap.size, 0, none⟩ (.int .i64 0)).setCell ⟨w.heap.size, 1, none⟩ (.slice none 0 0) = W9 ∧ W9.cell? ⟨w.heap.size, 0, none⟩ = some (.int .i64 0) ∧ W9.cell? ⟨w.heap.size, 1, none⟩ = some (.slice none 0 0) ∧ (∀ o, W.frozen? ⟨w.heap.size, o, none⟩ = false) ∧ W.cell? ⟨w.heap.size, 0, none⟩ = some (.int .i64 0) ∧ W.cell? ⟨w.heap.size, 1, none⟩ = some (.slice none 0 0) ∧
      (∃ u, Ending.returned (.tuple #[.agg #[.int .i64 0, .slice none 0 0], .int .i64 er]) = .returned (.tuple #[u, .int .i64 (reN b)]) ∧ Nod (New w.heap.size W9) W9 u (reV b) ∧ Below w.heap.size w W9)) := Lib.hid fun er W hre hW => by
    have bW := (hW.block w.heap.size lt0).trans b0
    obtain ⟨W9, e9, g9, gr9, gs9⟩ := put_two (u := .int .i64 0) (v := .slice none 0 0) bW
    obtain ⟨k0, k1, kf, _⟩ := two_cells g9
    obtain ⟨y0, y1, yf, _⟩ := two_cells bW
    have hBW := HB0.out.trans (hW.mono HB0.out.size)
    exact ⟨W9, e9, k0, k1, yf, y0, y1, _, by rw [hre.1], by rw [hre.2]; exact nod_zero _ _, hBW.grown gr9 hBW.size (fun q e => by cases e; omega)⟩
  replace b0 := Lib.hid b0
  replace hw0 := Lib.hid hw0
  clear hB0 hs0 h hy
  go_enter Tryz.func40, Tryz.ntmps40
  go_upto_region 1 with fail
  rw [hw0.out]
  clear hw0
  go_wp2_with fail
  with_reducible refine (open_any A n c b hn l1 m1 _ HY.out).mono ?_
  rintro e1 w1 ⟨v1, rfl, ho1, hb1⟩
  have B1 := Lib.hid hb1
  have hBW1 := Lib.hid (show w.heap.size ≤ w1.heap.size from Nat.le_trans (Nat.le_of_lt lt0) hb1.size)
  obtain ⟨er, hoe⟩ : ∃ er, oe b = er := ⟨_, rfl⟩
  rw [hoe]
  by_cases h0 : er = 0
  case neg =>
    have t0 : (er != 0) = true := by simpa using h0
    obtain ⟨W9, e9, k0, k1, yf, y0, y1, hfin⟩ := hzero.out er w1 (by rw [← hoe]; exact reN_open (by rw [hoe]; exact h0)) B1.out
    replace hfin := Lib.hid hfin
    replace h0 := Lib.hid h0
    replace hoe := Lib.hid hoe
    clear ho1 hb1
    go_wp2_with fail
    exact bodyPost_ret (v := .tuple #[.agg #[.int .i64 0, .slice none 0 0], .int .i64 er]) (by simp [results, Tryz.results40, go_sem, k0, k1]) rfl hfin.out
  subst h0
  obtain ⟨hlen, hfits, hob, hl124⟩ := oe_zeroN hoe
  have HZ := Lib.hid (fun W h hW => hzero.out 8 W (reN_bad hoe h) hW)
  have HG := Lib.hid (fun h => reN_good hoe h)
  have hr1 := own_by ho1
  obtain ⟨bd, hbd⟩ : ∃ bd, ob b = bd := ⟨_, rfl⟩
  rw [hbd] at hr1 HZ HG hl124
  replace hbd := Lib.hid hbd
  obtain ⟨Q, cq, rfl, n1, n2, hcell⟩ := rBy_open hr1
  rw [hl124] at n1 hcell hr1 ⊢
  obtain ⟨ad, rfl, hn0, hc0⟩ := hcell 0 (by omega)
  obtain ⟨_, e, hn1', hc1⟩ := hcell 1 (by omega)
  cases e
  obtain ⟨_, e, hn2', hc2⟩ := hcell 2 (by omega)
  cases e
  have z0 : w1.cell? ad = some (.int .u8 ((bd[0]?.getD 0).toNat : Int)) := by simpa [Addr.add] using hc0
  have z1 : w1.cell? ⟨ad.block, ad.off + 1, none⟩ = some (.int .u8 ((bd[1]?.getD 0).toNat : Int)) := by simpa [Addr.add] using hc1
  have z2 : w1.cell? ⟨ad.block, ad.off + 2, none⟩ = some (.int .u8 ((bd[2]?.getD 0).toNat : Int)) := by simpa [Addr.add] using hc2
  have ltb : ad.block < w1.heap.size := World.block_lt_of_cell? _ _ z0
  have hrest := Lib.hid (rBy_rest (stab_by.drop hr1) 3 (by omega))
  have hl := Lib.hid hl124
  replace hoe := Lib.hid hoe
  clear hfits hob hlen hc0 hc1 hc2 hn0 hn1' hn2' ho1 hb1 hcell hl124 hzero
  have hrd : Hid (rdN bd = (decide (bd[0]?.getD 0 = 78) && ((cutTo (bd.drop 3) (manyN bd)).isSome && (mayN (ndN bd) && noughtsB (cutR (bd.drop 3) (manyN bd)))))) := Lib.hid rfl
  obtain ⟨x0, hx0⟩ : ∃ x, bd[0]?.getD 0 = x := ⟨_, rfl⟩
  rw [hx0] at z0 hrd
  replace hx0 := Lib.hid hx0
  by_cases h78 : (x0.toNat : Int) = 78
  case neg =>
    have t0 : ((x0.toNat : Int) != 78) = true := by simpa using h78
    obtain ⟨W9, e9, k0, k1, yf, y0, y1, hfin⟩ := HZ.out w1 (by rw [hrd.out]; simp; intro e; exact absurd (by rw [e]; rfl) h78) B1.out
    replace hfin := Lib.hid hfin
    replace h78 := Lib.hid h78
    clear hr1
    go_wp2_with fail
    exact bodyPost_ret (v := .tuple #[.agg #[.int .i64 0, .slice none 0 0], .int .i64 8]) (by simp [results, Tryz.results40, go_sem, k0, k1]) rfl hfin.out
  have t0 : ((x0.toNat : Int) != 78) = false := by simpa using h78
  have h78' := Lib.hid (show x0 = 78 from UInt8.toNat.inj (by show x0.toNat = 78; omega))
  replace h78 := Lib.hid h78
  obtain ⟨mn, hmn⟩ : ∃ m, manyN bd = m := ⟨_, rfl⟩
  have hmlt := manyN_lt bd
  rw [hmn] at hmlt hrd
  have z2' : w1.cell? ⟨ad.block, ad.off + 2, none⟩ = some (.int .u8 (mn : Int)) := by rw [← hmn]; exact z2
  have hmn' := Lib.hid hmn
  clear z2 hr1 hmn
  have had3 : ad.add 3 = ⟨ad.block, ad.off + 3, none⟩ := by simp [Addr.add]
  rw [had3] at hrest
  have hres := Lib.hid (fun W (hW : Below w1.heap.size w1 W) => nodeCut_any _ (bd.drop 3) mn hmlt W (stab_by.old hrest.out hW))
  go_upto_region 6 with fail
  obtain ⟨L, hL⟩ : ∃ L, cutL (bd.drop 3) mn = L := ⟨_, rfl⟩
  obtain ⟨R, hR⟩ : ∃ R, cutR (bd.drop 3) mn = R := ⟨_, rfl⟩
  obtain ⟨F, hF⟩ : ∃ F, cutF (bd.drop 3) mn = F := ⟨_, rfl⟩
  rw [hL, hR, hF] at hres
  have c3 : ¬ cq = 3 := by omega
  have c4 : (3 : Int) ≤ cq := by omega
  have hwm : IntKind.i64.wrap (mn : Int) = (mn : Int) := IntWalk.i64_in _ (by omega)
  refine wp_region_fx (by kernel_rfl) (fun W => Below w1.heap.size w1 W) (fun i => match i with
      | 6 => some (fun v W => ∃ A c u, v = .tuple #[.slice A L.length c, u, .int .i64 F] ∧ rIts (New w1.heap.size W) W [.slice A L.length c] L ∧ rBy (Old W) W [u] R)
      | 7 => some (fun v W => ∃ A c u, v = .tuple #[.slice A L.length c, u, .int .i64 F] ∧ rIts (New w1.heap.size W) W [.slice A L.length c] L ∧ rBy (Old W) W [u] R)
      | 8 => some (fun v W => rIts (New w1.heap.size W) W [v] L)
      | 9 => some (fun v W => rBy (Old W) W [v] R)
      | _ => none) (fun i => match i with
      | 10 => some (.int .i64 F)
      | _ => none) (by kernel_rfl) (Below.refl _ _).drew (fun w w' h hb => h.trans (hb.mono h.size)) ?tst ?_
  case tst =>
    intro j φ x W W' hp hx hb
    match j, hp with
    | 6, hp =>
      cases hp
      obtain ⟨A, c, u, e, h1, h2⟩ := hx
      exact ⟨A, c, u, e, stab_its.new h1 (Nat.le_refl _) hb, stab_by.old h2 hb⟩
    | 7, hp =>
      cases hp
      obtain ⟨A, c, u, e, h1, h2⟩ := hx
      exact ⟨A, c, u, e, stab_its.new h1 (Nat.le_refl _) hb, stab_by.old h2 hb⟩
    | 8, hp => cases hp; exact stab_its.new hx (Nat.le_refl _) hb
    | 9, hp => cases hp; exact stab_by.old hx hb
  repeat (first
    | (refine wpAs_skip rfl ?_; simp only [Act.put, List.setIfInBounds_toArray, List.set_cons_zero, List.set_cons_succ])
    | (refine wpAs_pure (v := ?_) rfl rfl ?_ ?_; rotate_left; (intro W hC hE; clear hE; (have y2 := (hC.cell (p := ⟨ad.block, ad.off + 2, none⟩) ltb).trans z2'); clear hC; go_simp; done); simp only [Act.put, List.setIfInBounds_toArray, List.set_cons_zero, List.set_cons_succ])
    | (refine wpAs_pure (v := ?_) rfl rfl ?_ ?_; rotate_left; (intro W hC hE; clear hE; (have y2 := (hC.cell (p := ⟨ad.block, ad.off + 2, none⟩) ltb).trans z2'); clear hC; go_simp; with_reducible rfl); simp only [Act.put, List.setIfInBounds_toArray, List.set_cons_zero, List.set_cons_succ]))
  refine wpAs_act rfl rfl ?_ ?_
  · intro W hC hE
    refine does_enter (f := 64) (args := #[.slice (some ⟨ad.block, ad.off + 3, none⟩) 121 (cq - 3), .int .i64 mn]) ?_ ?_
    · go_simp
    · refine (hres.out W hC).mono ?_
      rintro e W' ⟨A, c, u, rfl, h1, h2, hw⟩
      exact ⟨_, rfl, ⟨A, c, u, rfl, stab_its.mono h1 hC.size, h2⟩, hw⟩
  simp only [Act.put, List.setIfInBounds_toArray, List.set_cons_zero, List.set_cons_succ, envAdd]
  intro x30
  refine wpAs_act rfl rfl ?_ ?_
  · intro W hC hE
    have hx := hE.1 rfl
    clear hE
    go_simp
    exact ⟨hx, Below.refl _ _⟩
  simp only [Act.put, List.setIfInBounds_toArray, List.set_cons_zero, List.set_cons_succ, envAdd]
  intro x23
  refine wpAs_act rfl rfl ?_ ?_
  · intro W hC hE
    obtain ⟨A, c, u, rfl, h1, h2⟩ := hE.1 rfl
    clear hE
    have H1 := Lib.hid h1
    clear h1 h2
    go_simp
    exact ⟨H1.out, Below.refl _ _⟩
  simp only [Act.put, List.setIfInBounds_toArray, List.set_cons_zero, List.set_cons_succ, envAdd]
  intro x31
  refine wpAs_act rfl rfl ?_ ?_
  · intro W hC hE
    obtain ⟨A, c, u, rfl, h1, h2⟩ := hE.2.1 rfl
    clear hE
    have H2 := Lib.hid h2
    clear h1 h2
    go_simp
    exact ⟨H2.out, Below.refl _ _⟩
  simp only [Act.put, List.setIfInBounds_toArray, List.set_cons_zero, List.set_cons_succ, envAdd]
  intro x32
  refine wpAs_fixed rfl rfl rfl ?_ ?_
  · intro W hC hE
    obtain ⟨A, c, u, rfl, h1, h2⟩ := hE.2.2.1 rfl
    clear hE h1 h2
    go_simp
    exact ⟨rfl, Below.refl _ _⟩
  simp only [Act.put, List.setIfInBounds_toArray, List.set_cons_zero, List.set_cons_succ]
  repeat (first
    | (refine wpAs_skip rfl ?_; simp only [Act.put, List.setIfInBounds_toArray, List.set_cons_zero, List.set_cons_succ])
    | (refine wpAs_pure (v := ?_) rfl rfl ?_ ?_; rotate_left; (intro W hC hE; clear hE; skip; clear hC; go_simp; done); simp only [Act.put, List.setIfInBounds_toArray, List.set_cons_zero, List.set_cons_succ])
    | (refine wpAs_pure (v := ?_) rfl rfl ?_ ?_; rotate_left; (intro W hC hE; clear hE; skip; clear hC; go_simp; with_reducible rfl); simp only [Act.put, List.setIfInBounds_toArray, List.set_cons_zero, List.set_cons_succ]))
  refine wpAs_end fun wc hC hE => ?_
  have H31 := hE.2.1
  have H32 := hE.1
  clear hE
  have BC := Lib.hid (B1.out.trans (hC.mono B1.out.size))
  have y1 := (hC.cell (p := ⟨ad.block, ad.off + 1, none⟩) ltb).trans z1
  clear hC
  obtain ⟨X, cx, rfl, n3, n4⟩ := its_open H31
  obtain ⟨Y, cy, rfl, n5, n6, hy32⟩ := rBy_byt (B := wc.heap.size) (fun p hp => hp) H32
  cases hct : cutTo (bd.drop 3) mn with
  | none =>
    have hF8 : F = 8 := by rw [← hF]; simp [cutF, hct]
    subst hF8
    obtain ⟨W9, e9, k0, k1, yf, u0, u1, hfin⟩ := HZ.out wc (by rw [hrd.out, hct]; simp) BC.out
    replace hfin := Lib.hid hfin
    replace hct := Lib.hid hct
    replace hF := Lib.hid hF
    clear H31 H32 hy32
    go_wp2_with fail
    exact bodyPost_ret (v := .tuple #[.agg #[.int .i64 0, .slice none 0 0], .int .i64 8]) (by simp [results, Tryz.results40, go_sem, k0, k1]) rfl hfin.out
  | some p =>
    obtain ⟨l', r'⟩ := p
    have hF0 : F = 0 := by rw [← hF]; simp [cutF, hct]
    subst hF0
    have hsome := Lib.hid (show (cutTo (bd.drop 3) mn).isSome = true by rw [hct]; rfl)
    replace hct := Lib.hid hct
    replace hF := Lib.hid hF
    replace hL := Lib.hid hL
    replace hR := Lib.hid hR
    obtain ⟨lv, hlv⟩ : ∃ lv, lvlN bd = lv := ⟨_, rfl⟩
    have hlin := Lib.hid (lvlN_in bd)
    have hnd := Lib.hid (show ndN bd = (lv, L) by rw [ndN, hlv, hmn'.out, hL.out])
    rw [hlv] at hlin
    have y1' : wc.cell? ⟨ad.block, ad.off + 1, none⟩ = some (.int .u8 lv) := by rw [← hlv]; exact y1
    have hlw : IntKind.i64.wrap lv = lv := IntWalk.i64_in _ (by have := hlin.out; exact ⟨this.1, this.2⟩)
    replace hlv := Lib.hid hlv
    clear y1
    obtain ⟨w2, hw2, b2, hs2, hB2⟩ := box_pair' wc (.int .i64 lv) (.slice X L.length cx) 47
    obtain ⟨f1, f2, _, lt2⟩ := two_cells b2
    have N2 : Nod (New w1.heap.size w2) w2 (.agg #[.int .i64 lv, .slice X L.length cx]) (lv, L) := ⟨_, rfl, hlin.out, stab_its.new H31 (Nat.le_refl _) hB2⟩
    have HN2 := Lib.hid N2
    have B2 := Lib.hid (BC.out.trans (hB2.mono BC.out.size))
    have HY2 := Lib.hid ((hy32.below hB2).more hB2.size)
    replace hs2 := Lib.hid hs2
    replace b2 := Lib.hid b2
    clear H31 H32 hy32 N2 hB2
    go_upto_region 10 with fail
    clear hw2 y1'
    go_wp2_with fail
    with_reducible refine (checkN_any _ (lv, L) _ HN2.out.drop).mono ?_
    rintro e3 w3 ⟨rfl, hb3⟩
    have B3 := Lib.hid (B2.out.trans (hb3.mono B2.out.size))
    have HN3 := Lib.hid (HN2.out.new (Nat.le_refl _) hb3)
    have g1 := (hb3.cell (p := ⟨wc.heap.size, 0, none⟩) lt2).trans f1
    have g2 := (hb3.cell (p := ⟨wc.heap.size, 1, none⟩) lt2).trans f2
    have HY3 := Lib.hid ((HY2.out.below hb3).more hb3.size)
    have lt3 : wc.heap.size < w3.heap.size := Nat.lt_of_lt_of_le lt2 hb3.size
    clear hb3 f1 f2
    rcases bool_two (mayN (lv, L)) with hm | hm
    · have hc := Lib.hid (chkN_bad hm)
      obtain ⟨W9, e9, k0, k1, yf, u0, u1, hfin⟩ := HZ.out w3 (by rw [hrd.out, hnd.out, hm]; simp) B3.out
      replace hfin := Lib.hid hfin
      replace hm := Lib.hid hm
      rw [hc.out]
      go_wp2_with fail
      exact bodyPost_ret (v := .tuple #[.agg #[.int .i64 0, .slice none 0 0], .int .i64 8]) (by simp [results, Tryz.results40, go_sem, k0, k1]) rfl hfin.out
    have hc := Lib.hid (chkN_ok hm)
    rw [hc.out]
    obtain ⟨rl, hrl⟩ : ∃ n, R.length = n := ⟨_, rfl⟩
    rw [hrl] at n5 ⊢
    replace hrl := Lib.hid hrl
    go_wp2_with fail
    with_reducible refine (noughts_any Y rl cy R hrl n5 n6 _ HY3.out).mono ?_
    rintro e4 w4 ⟨rfl, rfl⟩
    rcases bool_two (noughtsB R) with hz | hz
    · obtain ⟨W9, e9, k0, k1, yf, u0, u1, hfin⟩ := HZ.out w3 (by rw [hrd.out, hnd.out, hR.out, hz]; simp) B3.out
      replace hfin := Lib.hid hfin
      rw [hz]
      replace hz := Lib.hid hz
      replace hm := Lib.hid hm
      go_wp2_with fail
      exact bodyPost_ret (v := .tuple #[.agg #[.int .i64 0, .slice none 0 0], .int .i64 8]) (by simp [results, Tryz.results40, go_sem, k0, k1]) rfl hfin.out
    · have hgood := Lib.hid (HG.out (by rw [hrd.out, hnd.out, hR.out, hz, hm, hsome.out, h78'.out]; rfl))
      have bW := (B3.out.block w.heap.size lt0).trans b0.out
      obtain ⟨W9, e9, g9, gr9, gs9⟩ := put_two (u := .int .i64 lv) (v := .slice X L.length cx) bW
      obtain ⟨k0, k1, kf, _⟩ := two_cells g9
      obtain ⟨u0, u1, yf, _⟩ := two_cells bW
      have hBW := HB0.out.trans (B3.out.mono HB0.out.size)
      have hfin : Hid (Nod (New w.heap.size W9) W9 (.agg #[.int .i64 lv, .slice X L.length cx]) (reV b) ∧ Below w.heap.size w W9) := Lib.hid ⟨by
        rw [hgood.out.2, hnd.out]
        exact (HN3.out.grown gr9 (fun q e => by cases e; exact Nat.lt_of_lt_of_le lt0 B1.out.size)).map fun p v hp hc => ⟨⟨Nat.le_trans hBW1.out hp.1, hp.2⟩, hc⟩, hBW.grown gr9 hBW.size (fun q e => by cases e; omega)⟩
      rw [hz]
      replace hz := Lib.hid hz
      replace hm := Lib.hid hm
      replace bW := Lib.hid bW
      replace g9 := Lib.hid g9
      clear gr9
      go_wp2_with fail
      exact bodyPost_ret (v := .tuple #[.agg #[.int .i64 lv, .slice X L.length cx], .int .i64 0]) (by simp [results, Tryz.results40, go_sem, k0, k1]) rfl ⟨_, by rw [hgood.out.1], hfin.out.1, hfin.out.2⟩
end Go.Proofs.YtjlbkcnhbndgbaaGreat

/-
  Package room: Node. Conditions: those that each lemma states.
-/
namespace Go.Proofs.YtjlbkcnhbndgbaaGreat
open Go.RowKit

noncomputable def rmE (s : Rm) (n : Int) : Int := if asE s n = 0 then reN (seenD s.1 n.toNat) else asE s n
noncomputable def rmV (s : Rm) (n : Int) : Nd := if asE s n = 0 then reV (seenD s.1 n.toNat) else zeroN
theorem rm_bad {s : Rm} {n : Int} (h : asE s n ≠ 0) : rmE s n = asE s n ∧ rmV s n = zeroN := ⟨by rw [rmE, if_neg h], by rw [rmV, if_neg h]⟩
theorem as_read {s : Rm} {n : Int} (h : asE s n = 0) : ∃ k : Nat, n = k ∧ mayR s = true ∧ 8 ≤ k ∧ k < 256 ∧ chkAt s.1 n = 0 ∧ rdX s.1 n = seenD s.1 k ∧ rmE s n = reN (seenD s.1 k) ∧ rmV s n = reV (seenD s.1 k) ∧ s.2.1[k]?.getD 0 ≠ 0 := by
  rcases as_ways s n with ⟨_, e⟩ | ⟨_, _, e⟩ | ⟨k, _, _, _, _, _, e⟩ | ⟨k, hm, rfl, h8, h256, hx, e⟩
  · rw [e] at h; cases h
  · rw [e] at h; cases h
  · rw [e] at h; cases h
  · have hmd := (mayR_of hm).1
    have ht := thereB_of h256
    exact ⟨k, rfl, hm, h8, h256, by simp [chkAt, hmd, ht], by simp [rdX, chkAt, hmd, ht], by rw [rmE, if_pos h]; rfl, by rw [rmV, if_pos h]; rfl, hx⟩

set_option maxRecDepth 100000 in
set_option maxHeartbeats 4000000 in
theorem nodeR_any (v : Value) (s : Rm) (n : Int) (w : World) (h : Sto (Old w) w v s) :
    Calls Tryz.prog 12 #[v, .int .i64 n] w fun e w' => ∃ u, e = .returned (.tuple #[u, .int .i64 (rmE s n)]) ∧ Nod (New w.heap.size w') w' u (rmV s n) ∧ Below w.heap.size w w' := by
  obtain ⟨A, ca, B, cb, N, cn, L, cl, rfl, _, _, _⟩ := h.open
  obtain ⟨w1, hw1, f1, f2, hsz, hB⟩ : ∃ w1, (w.alloc (.cells #[.slice A s.1.1.length ca, .slice B s.1.2.length cb, .slice N s.2.1.length cn, .slice L s.2.2.length cl] 28)).alloc (.cells #[.int .i64 0, .slice none 0 0] 47) = w1 ∧
      w1.heap[w.heap.size]? = some (.cells #[.slice A s.1.1.length ca, .slice B s.1.2.length cb, .slice N s.2.1.length cn, .slice L s.2.2.length cl] 28 (0, 0)) ∧ w1.heap[w.heap.size + 1]? = some (.cells #[.int .i64 0, .slice none 0 0] 47 (0, 0)) ∧ w1.heap.size = w.heap.size + 2 ∧ Below w.heap.size w w1 := by
    refine ⟨_, rfl, alloc_block (heap_alloc_new _ _), ?_, by simp, ((Below.refl _ w).alloc (Nat.le_refl _) _).alloc (by simp) _⟩
    have := heap_alloc_new (w.alloc (.cells #[.slice A s.1.1.length ca, .slice B s.1.2.length cb, .slice N s.2.1.length cn, .slice L s.2.2.length cl] 28)) (.cells #[.int .i64 0, .slice none 0 0] 47)
    rwa [World.size_alloc] at this
  have H := Lib.hid (h.below hB)
  clear h
  obtain ⟨k0, k1, k2, k3, _, kg⟩ := four_cells f1
  replace hsz := Lib.hid hsz
  replace f2 := Lib.hid f2
  obtain ⟨q, hq⟩ : ∃ q, rmE s n = q := ⟨_, rfl⟩
  by_cases ha : asE s n = 0
  · obtain ⟨k, rfl, hm, h8, h256, hck, hrd, hE, hV, -⟩ := as_read ha
    obtain ⟨b, hb⟩ : ∃ b, seenD s.1 k = b := ⟨_, rfl⟩
    rw [hb] at hrd hE hV
    rw [hE] at hq
    replace hE : Hid (rmE s (k : Int) = q) := Lib.hid (by rw [hE, hq])
    replace hq := Lib.hid hq
    replace ha := Lib.hid ha
    replace hck := Lib.hid hck
    replace hrd := Lib.hid hrd
    replace hV := Lib.hid hV
    replace hb := Lib.hid hb
    go_enter Tryz.func12, Tryz.ntmps12
    go_upto_region 1 with fail
    clear hw1
    go_wp2_with fail
    with_reducible refine (checkTakenR_any _ s (k : Int) _ H.out).mono ?_
    rintro e w2 ⟨rfl, hb2⟩
    rw [ha.out]
    have G2 := (hb2.block w.heap.size kg).trans f1
    obtain ⟨m0, m1, m2, m3, _, mg⟩ := four_cells G2
    have F2 := Lib.hid ((hb2.block (w.heap.size + 1) (by rw [hsz.out]; omega)).trans f2.out)
    have H2 := Lib.hid (H.out.below hb2)
    have s2 : Hid (w.heap.size + 2 ≤ w2.heap.size) := Lib.hid (by have := hb2.size; have := hsz.out; omega)
    replace hb2 := Lib.hid (hB.trans (hb2.mono hB.size))
    clear k0 k1 k2 k3 kg f1 hB G2
    go_wp2_with fail
    with_reducible refine (read_all _ s.1 (k : Int) _ H2.out.parts.1).mono ?_
    rintro e w3 ⟨u3, rfl, h3, hb3⟩
    rw [hck.out]
    rw [hrd.out] at h3
    obtain ⟨R, rc, rfl, _⟩ := id (rBy_open h3)
    have F3 := Lib.hid ((hb3.block (w.heap.size + 1) (by have := s2.out; omega)).trans F2.out)
    have B3 := Lib.hid (hb2.out.trans (hb3.mono hb2.out.size))
    have s3 : Hid (w.heap.size + 2 ≤ w3.heap.size) := Lib.hid (by have := hb3.size; have := s2.out; omega)
    have H3 := Lib.hid (stab_by.drop h3)
    clear hb3 h3 m0 m1 m2 m3 mg F2
    go_wp2_with fail
    with_reducible refine (nodeRead_any _ b _ H3.out).mono ?_
    rintro e w4 ⟨u4, rfl, h4, hb4⟩
    rw [hq.out]
    obtain ⟨P, pc, rfl, _⟩ := id h4.open
    have F4 := (hb4.block (w.heap.size + 1) (by have := s3.out; omega)).trans F3.out
    obtain ⟨m0, m1, m2, m3⟩ := two_cells F4
    obtain ⟨W9, hW9, g9, gr9, gs9⟩ := put_two (u := .int .i64 (reV b).1) (v := .slice P (reV b).2.length pc) F4
    obtain ⟨n0, n1, _, _⟩ := two_cells g9
    have r3 := s3.out
    have l3 := B3.out.size
    have hfin := Lib.hid (show Nod (New w.heap.size W9) W9 (.agg #[.int .i64 (reV b).1, .slice P (reV b).2.length pc]) (rmV s (k : Int)) from by
      rw [hV.out]
      exact (h4.grown gr9 (fun q e => by cases e; omega)).new l3 (Below.refl _ _))
    have hB9 := Lib.hid ((B3.out.trans (hb4.mono B3.out.size)).grown gr9 (Nat.le_trans l3 hb4.size) (fun q e => by cases e; omega))
    replace F4 := Lib.hid F4
    replace g9 := Lib.hid g9
    clear gr9 gs9 h4 hb4 r3 l3
    go_wp2_with fail
    refine bodyPost_ret (v := .tuple #[.agg #[.int .i64 (reV b).1, .slice P (reV b).2.length pc], .int .i64 q]) (by simp [results, Tryz.results12, go_sem, n0, n1]) rfl ?_
    rw [hE.out]
    exact ⟨_, rfl, hfin.out, hB9.out⟩
  · obtain ⟨hE, hV⟩ := rm_bad ha
    rw [hE] at hq
    have hq1 : (q != 0) = true := by rw [← hq]; simpa using ha
    have hq2 : Hid (asE s n = q) := Lib.hid hq
    replace hq : Hid (rmE s n = q) := Lib.hid (by rw [hE]; exact hq)
    replace hV := Lib.hid hV
    clear ha hE
    go_enter Tryz.func12, Tryz.ntmps12
    go_upto_region 1 with fail
    clear hw1
    go_wp2_with fail
    with_reducible refine (checkTakenR_any _ s n _ H.out).mono ?_
    rintro e w2 ⟨rfl, hb2⟩
    rw [hq2.out]
    have F2 := (hb2.block (w.heap.size + 1) (by rw [hsz.out]; omega)).trans f2.out
    replace hb2 := Lib.hid (hB.trans (hb2.mono hB.size))
    obtain ⟨m0, m1, m2, m3⟩ := two_cells F2
    obtain ⟨W9, hW9, g9, gr9, gs9⟩ := put_two (u := .int .i64 0) (v := .slice none 0 0) F2
    obtain ⟨n0, n1, _, _⟩ := two_cells g9
    have hB9 := Lib.hid ((hb2).out.grown gr9 (hb2).out.size (fun q e => by cases e; omega))
    replace g9 := Lib.hid g9
    replace F2 := Lib.hid F2
    clear gr9 gs9
    go_wp2_with fail
    refine bodyPost_ret (v := .tuple #[.agg #[.int .i64 0, .slice none 0 0], .int .i64 q]) (by simp [results, Tryz.results12, go_sem, n0, n1]) rfl ?_
    rw [hV.out, hq.out]
    exact ⟨_, rfl, nod_zero _ _, hB9.out⟩
end Go.Proofs.YtjlbkcnhbndgbaaGreat

/-
  Layer 6's law helpers: leaf. Conditions: those that each lemma states.
-/
namespace Go.Proofs.YtjlbkcnhbndgbaaGreat
open Go.RowKit

def rU4 : Rel (List Int) := rSl 1 (rK .u32)
theorem stab_u4 : Stab rU4 := stab_sl (stab_k _)
theorem u4_at {ok : Addr → Prop} {w : World} {A : Option Addr} {n c k : Nat} {xs : List Int} {x : Int} (h : rU4 ok w [.slice A n c] xs) (hk : xs[k]? = some x) : ∃ ad, A = some ad ∧ ok (ad.add k) ∧ w.cell? (ad.add k) = some (.int .u32 x) ∧ InU x := by
  obtain ⟨_, _, e, _, _, h4⟩ := h
  cases e
  obtain ⟨ad, vs, rfl, _, q, r1, r2, r3⟩ := h4 k x hk
  subst r1
  have := q 0 _ rfl
  rw [Nat.mul_one, Nat.add_zero] at this
  simp [IntKind.min, IntKind.max, IntKind.signed, IntKind.bits] at r2 r3
  exact ⟨ad, rfl, this.1, this.2, r2, by omega⟩
def leafI (x : Int) : It := ((2, 0, x), 0, [])
def leafN (xs : List Int) : Nd := (0, xs.map leafI)
theorem leafI_in {x : Int} (h : InU x) : InI (leafI x) := ⟨⟨⟨by show (0 : Int) ≤ 0; omega, by show (0 : Int) < _; omega⟩, h⟩, ⟨by show _ ≤ (0 : Int); omega, by show (0 : Int) ≤ _; omega⟩⟩

end Go.Proofs.YtjlbkcnhbndgbaaGreat

/-
  Package node: Place. Conditions: those that each lemma states.
-/
namespace Go.Proofs.YtjlbkcnhbndgbaaGreat
open Go.RowKit

def cntK (l : List It) (k : Ky) : Nat := (l.filter fun x => lessK x.1 k).length
theorem cntK_le (l : List It) (k : Ky) : cntK l k ≤ l.length := List.length_filter_le _ _
theorem cntK_take (l : List It) (k : Ky) (i : Nat) : cntK (l.take i) k ≤ i := Nat.le_trans (cntK_le _ _) (List.length_take_le _ _)
theorem cntK_yes {l : List It} {k : Ky} {i : Nat} {x : It} (hx : l[i]? = some x) (h : lessK x.1 k = true) : cntK (l.take (i + 1)) k = cntK (l.take i) k + 1 := by
  unfold cntK
  rw [List.take_add_one, hx, Option.toList_some, List.filter_append]
  simp [h]
theorem cntK_no {l : List It} {k : Ky} {i : Nat} {x : It} (hx : l[i]? = some x) (h : lessK x.1 k = false) : cntK (l.take (i + 1)) k = cntK (l.take i) k := by
  unfold cntK
  rw [List.take_add_one, hx, Option.toList_some, List.filter_append]
  simp [h]
def placeN (n : Nd) (k : Ky) : Nat := cntK n.2 k
def thereN (n : Nd) (k : Ky) : Bool := match n.2[placeN n k]? with
  | none => false
  | some x => decide (x.1 = k)
theorem thereN_out {n : Nd} {k : Ky} (h : n.2.length ≤ placeN n k) : thereN n k = false := by
  unfold thereN
  rw [List.getElem?_eq_none h]
theorem thereN_at {n : Nd} {k : Ky} {x : It} (h : n.2[placeN n k]? = some x) : thereN n k = decide (x.1 = k) := by
  unfold thereN
  rw [h]
set_option maxRecDepth 100000 in
theorem key_guard : Tryz.prog.eqGuardType Tryz.prog.depth 108 = false := by kernel_rfl
set_option maxRecDepth 100000 in
/-- Two keys held against each other, as the walk spells it. -/
theorem key_eq (a b : Ky) (w : World) : (Op.equalIn 10000 108 (kyV a) (kyV b)).run Tryz.prog w = .ok (decide (a = b)) w := by
  have hS : Tryz.prog.underlying 108 = some (.struct (Tryz.prog.fieldsOf 108)) := by kernel_rfl
  have hp : Tryz.prog.stoodInHeld 108 = false := by kernel_rfl
  have u3 := Tryz.underlying5
  have u4 := Tryz.underlying106
  have a3 := Tryz.isAgg5
  have z3 := Tryz.sizeOf5
  have a4 := Tryz.isAgg106
  have z4 := Tryz.sizeOf106
  obtain ⟨a1, a2, a3⟩ := a
  obtain ⟨b1, b2, b3⟩ := b
  have h : a1 = b1 ↔ (a1.toNat : Int) = b1.toNat := ⟨fun h => by rw [h], fun h => UInt8.toNat.inj (by omega)⟩
  simp only [Prod.mk.injEq, h]
  unfold kyV
  rw [show (10000 : Nat) = 9999 + 1 from rfl, run_equalIn_agg w 9999 108 _ _ hS hp]
  simp only [Program.fieldsOf, Tryz.underlying108]
  go_simp
  by_cases h1 : (a1.toNat : Int) = b1.toNat <;> by_cases h2 : a2 = b2 <;> by_cases h3 : a3 = b3 <;> simp [h1, h2, h3]

end Go.Proofs.YtjlbkcnhbndgbaaGreat

/-
  Package node: Same. Conditions: those that each lemma states.
-/
namespace Go.Proofs.YtjlbkcnhbndgbaaGreat
open Go.RowKit

def sameN (a b : Nd) : Bool := decide (a = b)
theorem sameN_self (a : Nd) : sameN a a = true := by simp [sameN]
theorem sameN_eq {a b : Nd} (h : sameN a b = true) : a = b := by simpa [sameN] using h
theorem sameN_comm (a b : Nd) : sameN a b = sameN b a := by
  unfold sameN
  rw [Bool.eq_iff_iff]
  simp only [decide_eq_true_eq]
  exact ⟨fun h => h.symm, fun h => h.symm⟩
def sameIs (xs ys : List It) : Bool := decide (xs = ys)

theorem sameN_parts (a b : Nd) : sameN a b = (decide (a.1 = b.1) && sameIs a.2 b.2) := by
  obtain ⟨a1, a2⟩ := a
  obtain ⟨b1, b2⟩ := b
  unfold sameN sameIs
  rw [Bool.eq_iff_iff]
  simp

end Go.Proofs.YtjlbkcnhbndgbaaGreat

/-
  What nodes and their blocks tell of one another, plain. Layer 6's law helper alive. Conditions: those that each lemma states.
-/
namespace Go.Proofs.YtjlbkcnhbndgbaaGreat
open Go.RowKit

structure InN (n : Nd) : Prop where
  lv : In64 n.1
  it : ∀ x ∈ n.2, InI x
theorem Nod.inN {ok : Addr → Prop} {w : World} {v : Value} {n : Nd} (h : Nod ok w v n) : InN n := by
  obtain ⟨A, c, _, h1, _, _, h2⟩ := h.open
  refine ⟨h1, fun x hx => ?_⟩
  obtain ⟨k, hk⟩ := List.mem_iff_getElem?.1 hx
  obtain ⟨_, _, _, _, _, _, _, _, _, hi⟩ := its_at h2 hk
  exact hi
theorem cutTo_its (l : List It) (xs : List UInt8) (h : ∀ x ∈ l, mayI x = true ∧ InI x) : ∀ k, k ≤ l.length → cutTo (itsB l ++ xs) k = some (l.take k, itsB (l.drop k) ++ xs)
  | 0, _ => by simp [cutTo]
  | k + 1, hk => by
    have hx : l[k]? = some l[k] := List.getElem?_eq_getElem hk
    obtain ⟨h1, h2⟩ := h l[k] (List.getElem_mem hk)
    have hd : itsB (l.drop k) ++ xs = itB l[k] ++ (itsB (l.drop (k + 1)) ++ xs) := by
      rw [List.drop_eq_getElem_cons hk, show itsB (l[k] :: l.drop (k + 1)) = itB l[k] ++ itsB (l.drop (k + 1)) from rfl, List.append_assoc]
    have ih := cutTo_its l xs h k (by omega)
    rw [hd] at ih
    obtain ⟨q0, q1, q2, _⟩ := itB_read l[k] (itsB (l.drop (k + 1)) ++ xs) h2 h1
    rw [cutTo_yes ih q0, q1, q2, List.take_add_one, hx]
    simp
theorem zeros_noughts (k : Nat) : noughtsB (zeros k) = true := by simp [noughtsB, zeros]
theorem noughts_zeros {b : List UInt8} (h : noughtsB b = true) : b = zeros b.length := by
  simp only [noughtsB, List.all_eq_true, beq_iff_eq] at h
  exact List.eq_replicate_iff.2 ⟨rfl, h⟩
theorem told_parts (n : Nd) : toldN n = [78, UInt8.ofNat n.1.toNat, UInt8.ofNat n.2.length] ++ itsB n.2 := rfl
/-- What is written is read. -/
theorem read_blkN {n : Nd} (h : mayN n = true) (hi : InN n) : reN (blkN n) = 0 ∧ reV (blkN n) = n := by
  have hl := toldN_len h
  obtain ⟨⟨s1, s2, s3, _⟩, _⟩ := mayN_of h
  have hob : ob (blkN n) = padN (toldN n) := by
    unfold ob
    rw [if_pos ⟨blkN_length h, fits_seal _⟩]
    exact seal_drop _
  have hoe : oe (blkN n) = 0 := by
    unfold oe
    rw [if_pos (blkN_length h), if_pos (show fits (blkN n) from fits_seal _)]
  obtain ⟨z, hz⟩ : ∃ z, 124 - (toldN n).length = z := ⟨_, rfl⟩
  have hp : padN (toldN n) = 78 :: UInt8.ofNat n.1.toNat :: UInt8.ofNat n.2.length :: (itsB n.2 ++ zeros z) := by
    rw [padN, hz, told_parts]
    simp
  have h0 : (ob (blkN n))[0]?.getD 0 = 78 := by rw [hob, hp]; rfl
  have h1 : lvlN (ob (blkN n)) = n.1 := by
    rw [hob, hp]
    show ((UInt8.ofNat n.1.toNat).toNat : Int) = n.1
    rw [UInt8.toNat_ofNat']
    omega
  have h2 : manyN (ob (blkN n)) = n.2.length := by
    rw [hob, hp]
    show (UInt8.ofNat n.2.length).toNat = n.2.length
    rw [UInt8.toNat_ofNat']
    omega
  have h3 : (ob (blkN n)).drop 3 = itsB n.2 ++ zeros z := by rw [hob, hp]; rfl
  have hc : cutTo ((ob (blkN n)).drop 3) (manyN (ob (blkN n))) = some (n.2, zeros z) := by
    rw [h2, h3, cutTo_its n.2 (zeros z) (fun x hx => ⟨mayN_all h x hx, hi.it x hx⟩) n.2.length (Nat.le_refl _)]
    simp [itsB]
  have hnd : ndN (ob (blkN n)) = n := by
    unfold ndN cutL
    rw [hc, h1]
    rfl
  have hr : rdN (ob (blkN n)) = true := by
    unfold rdN cutR
    rw [h0, hc, hnd, h]
    simp [zeros_noughts]
  obtain ⟨e1, e2⟩ := reN_good hoe hr
  exact ⟨e1, by rw [e2, hnd]⟩
/-- What is read is written so. -/
theorem blkN_read {b : List UInt8} (h : reN b = 0) : mayN (reV b) = true ∧ blkN (reV b) = b ∧ InN (reV b) := by
  have hoe : oe b = 0 := by
    unfold reN at h
    by_cases e : oe b = 0
    · exact e
    · rw [if_neg e] at h; exact absurd h e
  have hrd : rdN (ob b) = true := by
    unfold reN at h
    rw [if_pos hoe] at h
    cases e : rdN (ob b) with
    | true => rfl
    | false => rw [e] at h; cases h
  obtain ⟨e1, e2⟩ := reN_good hoe hrd
  obtain ⟨hlen, hfits, hob, h124⟩ := oe_zeroN hoe
  rw [e2]
  obtain ⟨bd, hbd⟩ : ∃ bd, ob b = bd := ⟨_, rfl⟩
  rw [hbd] at hrd h124 ⊢
  unfold rdN at hrd
  simp only [Bool.and_eq_true, decide_eq_true_eq] at hrd
  obtain ⟨h78, hs, hm, hn⟩ := hrd
  cases hc : cutTo (bd.drop 3) (manyN bd) with
  | none => rw [hc] at hs; cases hs
  | some p =>
    obtain ⟨l, r⟩ := p
    have hL : cutL (bd.drop 3) (manyN bd) = l := by simp [cutL, hc]
    have hR : cutR (bd.drop 3) (manyN bd) = r := by simp [cutR, hc]
    obtain ⟨c1, c2, c3⟩ := cutTo_bytes hc
    rw [hR] at hn
    have hnd : ndN bd = (lvlN bd, l) := by rw [ndN, hL]
    have hin : InN (ndN bd) := by
      rw [hnd]
      exact ⟨lvlN_in bd, fun x hx => (c3 x hx).2⟩
    refine ⟨hm, ?_, hin⟩
    have hsplit : bd = [78, bd[1]?.getD 0, bd[2]?.getD 0] ++ bd.drop 3 := by
      match bd, h124, h78 with
      | x :: y :: z :: q, _, h78 =>
        simp at h78
        simp [h78]
    have hT : toldN (ndN bd) = [78, bd[1]?.getD 0, bd[2]?.getD 0] ++ itsB l := by
      rw [hnd, told_parts, c2]
      have e1 : UInt8.ofNat (lvlN bd).toNat = bd[1]?.getD 0 := by simp [lvlN]
      have e2 : UInt8.ofNat (manyN bd) = bd[2]?.getD 0 := by simp [manyN]
      show [78, UInt8.ofNat (lvlN bd).toNat, UInt8.ofNat (manyN bd)] ++ itsB l = _
      rw [e1, e2]
    have hbody : bd = toldN (ndN bd) ++ r := by
      rw [hT, List.append_assoc, ← c1]
      exact hsplit
    have hpad : padN (toldN (ndN bd)) = bd := by
      have hl2 : (toldN (ndN bd)).length + r.length = 124 := by
        have := congrArg List.length hbody
        rw [List.length_append, h124] at this
        omega
      rw [padN, show 124 - (toldN (ndN bd)).length = r.length by omega, ← noughts_zeros hn]
      exact hbody.symm
    show sealN (toldN (ndN bd)) = b
    have hs : sealN (toldN (ndN bd)) = sealN bd := by
      unfold sealN
      rw [hpad, padN_full h124]
    rw [hs, ← hbd, hob]
    exact seal_back hlen hfits
theorem blkN_inj {a b : Nd} (ha : mayN a = true) (hb : mayN b = true) (ia : InN a) (ib : InN b) : decide (blkN a = blkN b) = sameN a b := by
  unfold sameN
  rw [Bool.eq_iff_iff]
  simp only [decide_eq_true_eq]
  refine ⟨fun h => ?_, fun h => by rw [h]⟩
  rw [← (read_blkN ha ia).2, h, (read_blkN hb ib).2]
theorem reN_no {b : List UInt8} (h : reN b ≠ 0) : reV b = zeroN := by
  by_cases e : oe b = 0
  · cases e2 : rdN (ob b) with
    | true => exact absurd (reN_good e e2).1 h
    | false => exact (reN_bad e e2).2
  · exact (reN_open e).2

/-! ### alive -/
theorem u4_lit (w : World) (t : TypeId) (xs : List Int) (cs : Array Value) (hc : cs.toList = xs.map fun x => Value.int .u32 x) (hb : xs.length ≤ 1000) (h : ∀ x ∈ xs, InU x) :
    rU4 (Old (w.alloc (.cells cs t))) (w.alloc (.cells cs t)) [.slice (some ⟨w.heap.size, 0, none⟩) xs.length xs.length] xs := by
  refine ⟨_, _, rfl, Nat.le_refl _, by omega, fun i x hi => ⟨_, [.int .u32 x], rfl, rfl, fun j v hj => ?_, rfl, ?_, ?_⟩⟩
  · have hj0 : j = 0 := by
      have := (List.getElem?_eq_some_iff.1 hj).1
      simp at this
      omega
    subst hj0
    cases hj
    have hcell : (w.alloc (.cells cs t)).cell? ((⟨w.heap.size, 0, none⟩ : Addr).add (i * 1 + 0)) = some (.int .u32 x) := by
      have e : ((⟨w.heap.size, 0, none⟩ : Addr).add (i * 1 + 0)) = ⟨w.heap.size, i, none⟩ := by unfold Addr.add; split <;> simp_all
      have e2 : cs[i]? = some (.int .u32 x) := by rw [← Array.getElem?_toList, hc, List.getElem?_map, hi]; rfl
      rw [e, ← e2]
      simp
    exact ⟨World.block_lt_of_cell? _ _ hcell, hcell⟩
  · have := (h x (List.mem_of_getElem? hi)).1
    simpa [IntKind.min, IntKind.signed, IntKind.bits] using this
  · have := (h x (List.mem_of_getElem? hi)).2
    simp [IntKind.max, IntKind.signed, IntKind.bits]
    omega
theorem u4_small {xs : List Int} (h : ∀ x ∈ xs, 0 ≤ x ∧ x < 1000) : ∀ x ∈ xs, InU x := fun x hx => by
  have := h x hx
  exact ⟨this.1, by omega⟩
theorem leafN_in {xs : List Int} (h : ∀ x ∈ xs, InU x) : InN (leafN xs) := ⟨⟨by show _ ≤ (0 : Int); omega, by show (0 : Int) ≤ _; omega⟩, fun x hx => by
  obtain ⟨y, hy, rfl⟩ := List.mem_map.1 hx
  exact leafI_in (h y hy)⟩

end Go.Proofs.YtjlbkcnhbndgbaaGreat

/-
  The document's answers of layer 6: May, Check. Conditions: those that each lemma states.
-/
namespace Go.Proofs.YtjlbkcnhbndgbaaGreat
open Go.RowKit

set_option maxRecDepth 100000 in
set_option maxHeartbeats 8000000 in
theorem refMayN_any (v : Value) (n : Nd) (w : World) (h : Nod (Old w) w v n) : Calls Tryz.prog 85 #[v] w fun e w' => e = .returned (.bool (mayN n)) ∧ Below w.heap.size w w' := by
  obtain ⟨A, c, rfl, hin, l1, m1, hA⟩ := h.open
  have hbad0 := Lib.hid (fun hh => mayN_shape (n := n) hh)
  have hbad1 : Hid (∀ k, k < n.2.length → okAt n k = false → mayN n = false) := Lib.hid fun k hk hh => mayN_at hk hh
  have hgood := Lib.hid (fun hh h2 => mayN_mk (n := n) hh h2)
  have HA := Lib.hid hA
  clear h hA
  obtain ⟨m, hm⟩ : ∃ m, n.2.length = m := ⟨_, rfl⟩
  obtain ⟨l, hl⟩ : ∃ l, n.1 = l := ⟨_, rfl⟩
  rw [hm] at l1 hbad0 hbad1 hgood HA ⊢
  rw [hl] at hbad0 hgood hin ⊢
  obtain ⟨i1, i2⟩ := hin
  replace hm := Lib.hid hm
  replace hl := Lib.hid hl
  obtain ⟨w0, hw0, b0, hs0, hB0⟩ := box_pair' w (.int .i64 l) (.slice A m c) 47
  obtain ⟨f1, f2, _, lt0⟩ := two_cells b0
  replace hB0 := Lib.hid hB0
  replace b0 := Lib.hid b0
  replace hs0 := Lib.hid hs0
  by_cases h1 : l < 0
  · have hr := Lib.hid (hbad0.out (by omega))
    go_enter Tryz.func85, Tryz.ntmps85
    go_upto_region 1 with fail
    clear hw0
    go_wp2_with fail
    go_ret
    exact ⟨ret_bool hr.out.symm, hB0.out⟩
  by_cases h2 : 6 ≤ l
  · have hr := Lib.hid (hbad0.out (by omega))
    go_enter Tryz.func85, Tryz.ntmps85
    go_upto_region 1 with fail
    clear hw0
    go_wp2_with fail
    go_ret
    exact ⟨ret_bool hr.out.symm, hB0.out⟩
  by_cases h3 : 5 < m
  · have hr := Lib.hid (hbad0.out (by omega))
    have h3' : (5 : Int) < m := by omega
    go_enter Tryz.func85, Tryz.ntmps85
    go_upto_region 1 with fail
    clear hw0
    go_wp2_with fail
    go_ret
    exact ⟨ret_bool hr.out.symm, hB0.out⟩
  have h3' : ¬ (5 : Int) < m := by omega
  by_cases h4 : 0 < l ∧ m = 0
  · have hr := Lib.hid (hbad0.out (by omega))
    obtain ⟨h4a, h4b⟩ := h4
    have h4c : ((m : Int) == 0) = true := by simp; omega
    replace h4b := Lib.hid h4b
    go_enter Tryz.func85, Tryz.ntmps85
    go_upto_region 1 with fail
    clear hw0
    go_wp2_with fail
    go_ret
    exact ⟨ret_bool hr.out.symm, hB0.out⟩
  have hgood2 := Lib.hid (hgood.out (by omega))
  have hB := Lib.hid (fun wr (hb : Below w0.heap.size w0 wr) => hB0.out.trans (hb.mono hB0.out.size))
  clear hgood hbad0
  go_enter Tryz.func85, Tryz.ntmps85
  go_upto_region 1 with fail
  clear hw0
  go_cut [29] from 5 to 29 (fun c wx => c = .bool false ∧ w0 = wx)
  case first =>
    rcases (by omega : l ≤ 0 ∨ (0 < l ∧ m ≠ 0)) with h5 | ⟨h5, h6⟩
    · have h5' : ¬ (0 : Int) < l := by omega
      replace h4 := Lib.hid h4
      go_wp2_with fail
      go_meet
      exact ⟨rfl, rfl⟩
    · have h6' : ((m : Int) == 0) = false := by simp; omega
      replace h6 := Lib.hid h6
      replace h4 := Lib.hid h4
      go_wp2_with fail
      go_meet
      exact ⟨rfl, rfl⟩
  case rest =>
  obtain ⟨rfl, rfl⟩ := hcut
  replace h4 := Lib.hid h4
  go_wp2_with fail
  go_loopw [3] (fun i wr => ∃ k : Nat, k ≤ m ∧ i = .int .i64 k ∧ (∀ j, j < k → okAt n j = true) ∧ Below w0.heap.size w0 wr) (fun i _ => m - (intOf i).toNat)
  case atStart => exact ⟨0, by omega, rfl, fun j hj => by omega, Below.refl _ _⟩
  case round =>
    obtain ⟨k, hk, rfl, ha, hb⟩ := hrel
    replace ha := Lib.hid ha
    replace hb := Lib.hid hb
    have p1 := (hb.out.cell (p := ⟨w.heap.size, 0, none⟩) lt0).trans f1
    have p2 := (hb.out.cell (p := ⟨w.heap.size, 1, none⟩) lt0).trans f2
    by_cases hlt : k < m
    case neg =>
      have hfin := Lib.hid (hgood2.out fun i hi => ha.out i (by omega))
      have BF := Lib.hid (hB.out _ hb.out)
      go_wp2_with fail
      go_ret
      exact ⟨ret_bool hfin.out.symm, BF.out⟩
    obtain ⟨x, hx⟩ : ∃ x, n.2[k]? = some x := ⟨_, List.getElem?_eq_getElem (by rw [hm.out]; exact hlt)⟩
    obtain ⟨ad, E, ce, rfl, q1, q2, hinx, FX⟩ := its_old HA.out hx
    obtain ⟨⟨z0, z1, z2, z3, z4⟩, hIx⟩ := FX wr (hB.out _ hb.out)
    obtain ⟨w2, hw2, g0, g1, g2, g3, g4, hs2, hB2, _⟩ := box_five wr (.int .u8 (x.1.1.toNat : Int)) (.int .u32 x.1.2.1) (.int .u32 x.1.2.2) (.int .i64 x.2.1) (.slice E x.2.2.length ce) 110
    have lt2 : wr.heap.size < w2.heap.size := by omega
    have B2 := Lib.hid (hb.out.trans (hB2.mono hb.out.size))
    have HI : Hid (∀ W, Below w2.heap.size w2 W → Itm (Old W) W (.agg #[.int .u8 (x.1.1.toNat : Int), .int .u32 x.1.2.1, .int .u32 x.1.2.2, .int .i64 x.2.1, .slice E x.2.2.length ce]) x) := Lib.hid fun W hW => (hIx.below hB2).below hW
    have HX : Hid (∀ W, Below w2.heap.size w2 W → W.cell? ⟨wr.heap.size, 3, none⟩ = some (.int .i64 x.2.1) ∧ W.cell? ⟨wr.heap.size, 4, none⟩ = some (.slice E x.2.2.length ce)) := Lib.hid fun W hW => ⟨(hW.cell (p := ⟨wr.heap.size, 3, none⟩) lt2).trans g3, (hW.cell (p := ⟨wr.heap.size, 4, none⟩) lt2).trans g4⟩
    have HX0 : Hid (∀ W, Below w2.heap.size w2 W → W.cell? ⟨wr.heap.size, 0, none⟩ = some (.int .u8 (x.1.1.toNat : Int)) ∧ W.cell? ⟨wr.heap.size, 1, none⟩ = some (.int .u32 x.1.2.1) ∧ W.cell? ⟨wr.heap.size, 2, none⟩ = some (.int .u32 x.1.2.2)) := Lib.hid fun W hW => ⟨(hW.cell (p := ⟨wr.heap.size, 0, none⟩) lt2).trans g0, (hW.cell (p := ⟨wr.heap.size, 1, none⟩) lt2).trans g1, (hW.cell (p := ⟨wr.heap.size, 2, none⟩) lt2).trans g2⟩
    have HP : Hid (∀ W, Below w2.heap.size w2 W → W.cell? ⟨w.heap.size, 0, none⟩ = some (.int .i64 l) ∧ W.cell? ⟨w.heap.size, 1, none⟩ = some (.slice (some ad) m c)) := Lib.hid fun W hW => ⟨((B2.out.trans (hW.mono B2.out.size)).cell (p := ⟨w.heap.size, 0, none⟩) lt0).trans f1, ((B2.out.trans (hW.mono B2.out.size)).cell (p := ⟨w.heap.size, 1, none⟩) lt0).trans f2⟩
    replace hx := Lib.hid hx
    replace hs2 := Lib.hid hs2
    have hbk := Lib.hid (hbad1.out k hlt)
    have hstep : Hid (okAt n k = true → ∀ j, j < k + 1 → okAt n j = true) := Lib.hid fun h j hj => by
      rcases Nat.lt_or_ge j k with h1 | h1
      · exact ha.out j h1
      · obtain rfl : j = k := by omega
        exact h
    clear FX hIx hinx hB2
    go_upto_region 7 with fail
    clear hw2 z0 z1 z2 z3 z4 g0 g1 g2 g3 g4 p1 p2
    rcases bool_two (mayI x) with hmx | hmx
    · have hr := Lib.hid (hbk.out (okAt_noP hx.out (by rw [okP, hmx]; rfl)))
      replace hmx := Lib.hid hmx
      refine wp_region_fx (by kernel_rfl) (fun W => Below w2.heap.size w2 W) (fun _ => none) (fun i => match i with
        | 1 => some (.bool false)
        | 16 => some (.bool false)
        | _ => none) (by kernel_rfl) (Below.refl _ _).drew (fun w w' h hb => h.trans (hb.mono h.size)) (fun j φ x W W' hp => by cases hp) ?_
      repeat (first
        | (refine wpAs_skip rfl ?_; simp only [Act.put, List.setIfInBounds_toArray, List.set_cons_zero, List.set_cons_succ])
        | (refine wpAs_pure (v := ?_) rfl rfl ?_ ?_; rotate_left; (intro W hC hE; clear hE; (obtain ⟨r0, r1, r2⟩ := HX0.out W hC; obtain ⟨r3, r4⟩ := HX.out W hC); clear hC; go_simp; done); simp only [Act.put, List.setIfInBounds_toArray, List.set_cons_zero, List.set_cons_succ])
        | (refine wpAs_pure (v := ?_) rfl rfl ?_ ?_; rotate_left; (intro W hC hE; clear hE; (obtain ⟨r0, r1, r2⟩ := HX0.out W hC; obtain ⟨r3, r4⟩ := HX.out W hC); clear hC; go_simp; with_reducible rfl); simp only [Act.put, List.setIfInBounds_toArray, List.set_cons_zero, List.set_cons_succ]))
      refine wpAs_fixed rfl rfl rfl ?_ ?_
      · intro W hC hE
        refine does_enter (f := 100) (args := #[.agg #[.int .u8 (x.1.1.toNat : Int), .int .u32 x.1.2.1, .int .u32 x.1.2.2, .int .i64 x.2.1, .slice E x.2.2.length ce]]) ?_ ?_
        · go_simp
        · refine (refMayI_any _ x W (HI.out W hC)).mono ?_
          (rintro e W' ⟨rfl, hg⟩; rw [hmx.out])
          exact ⟨_, rfl, rfl, hg⟩
      simp only [Act.put, List.setIfInBounds_toArray, List.set_cons_zero, List.set_cons_succ]
      iterate 1 (first
        | (refine wpAs_skip rfl ?_; simp only [Act.put, List.setIfInBounds_toArray, List.set_cons_zero, List.set_cons_succ])
        | (refine wpAs_pure (v := ?_) rfl rfl ?_ ?_; rotate_left; (intro W hC hE; clear hE; skip; clear hC; go_simp; with_reducible rfl); simp only [Act.put, List.setIfInBounds_toArray, List.set_cons_zero, List.set_cons_succ]))
      refine wpAs_pure_jump (v := .bool true) 15 rfl rfl rfl ?_ (by kernel_rfl) ?_
      · intro W hC hE
        clear hE hC
        first
          | (go_simp; done)
          | (go_simp; simp; omega)
          | (go_simp; simp_all; done)
      simp only [skipN, Act.put, List.drop_succ_cons, List.drop_zero, List.setIfInBounds_toArray, List.set_cons_zero, List.set_cons_succ]
      iterate 1 (first
        | (refine wpAs_skip rfl ?_; simp only [Act.put, List.setIfInBounds_toArray, List.set_cons_zero, List.set_cons_succ])
        | (refine wpAs_pure (v := ?_) rfl rfl ?_ ?_; rotate_left; (intro W hC hE; clear hE; skip; clear hC; go_simp; with_reducible rfl); simp only [Act.put, List.setIfInBounds_toArray, List.set_cons_zero, List.set_cons_succ]))
      refine wpAs_pure_jump (v := .bool true) 14 rfl rfl rfl ?_ (by kernel_rfl) ?_
      · intro W hC hE
        clear hE hC
        first
          | (go_simp; done)
          | (go_simp; simp; omega)
          | (go_simp; simp_all; done)
      simp only [skipN, Act.put, List.drop_succ_cons, List.drop_zero, List.setIfInBounds_toArray, List.set_cons_zero, List.set_cons_succ]
      iterate 1 (first
        | (refine wpAs_skip rfl ?_; simp only [Act.put, List.setIfInBounds_toArray, List.set_cons_zero, List.set_cons_succ])
        | (refine wpAs_pure (v := ?_) rfl rfl ?_ ?_; rotate_left; (intro W hC hE; clear hE; skip; clear hC; go_simp; with_reducible rfl); simp only [Act.put, List.setIfInBounds_toArray, List.set_cons_zero, List.set_cons_succ]))
      refine wpAs_end fun W hC hE => ?_
      have BF := Lib.hid (hB.out _ (B2.out.trans (hC.mono B2.out.size)))
      clear hE hC
      go_wp2_with fail
      go_ret
      exact ⟨ret_bool hr.out.symm, BF.out⟩
    replace hmx := Lib.hid hmx
    rcases (by rcases k with _ | j; exact Or.inl rfl; exact Or.inr ⟨j, rfl⟩ : k = 0 ∨ ∃ j, k = j + 1) with hk0 | ⟨j, hkj⟩
    · have kz : ¬ (0 : Int) < (k : Int) := by omega
      have hsucc := Lib.hid (show okAt n k = okP n.1 x by subst hk0; exact okAt_zero hx.out)
      replace hk0 := Lib.hid hk0
      refine wp_region_fx (by kernel_rfl) (fun W => Below w2.heap.size w2 W) (fun _ => none) (fun i => match i with
        | 1 => some (.bool true)
        | 16 => some (.bool true)
        | _ => none) (by kernel_rfl) (Below.refl _ _).drew (fun w w' h hb => h.trans (hb.mono h.size)) (fun j φ x W W' hp => by cases hp) ?_
      repeat (first
        | (refine wpAs_skip rfl ?_; simp only [Act.put, List.setIfInBounds_toArray, List.set_cons_zero, List.set_cons_succ])
        | (refine wpAs_pure (v := ?_) rfl rfl ?_ ?_; rotate_left; (intro W hC hE; clear hE; (obtain ⟨r0, r1, r2⟩ := HX0.out W hC; obtain ⟨r3, r4⟩ := HX.out W hC); clear hC; go_simp; done); simp only [Act.put, List.setIfInBounds_toArray, List.set_cons_zero, List.set_cons_succ])
        | (refine wpAs_pure (v := ?_) rfl rfl ?_ ?_; rotate_left; (intro W hC hE; clear hE; (obtain ⟨r0, r1, r2⟩ := HX0.out W hC; obtain ⟨r3, r4⟩ := HX.out W hC); clear hC; go_simp; with_reducible rfl); simp only [Act.put, List.setIfInBounds_toArray, List.set_cons_zero, List.set_cons_succ]))
      refine wpAs_fixed rfl rfl rfl ?_ ?_
      · intro W hC hE
        refine does_enter (f := 100) (args := #[.agg #[.int .u8 (x.1.1.toNat : Int), .int .u32 x.1.2.1, .int .u32 x.1.2.2, .int .i64 x.2.1, .slice E x.2.2.length ce]]) ?_ ?_
        · go_simp
        · refine (refMayI_any _ x W (HI.out W hC)).mono ?_
          (rintro e W' ⟨rfl, hg⟩; rw [hmx.out])
          exact ⟨_, rfl, rfl, hg⟩
      simp only [Act.put, List.setIfInBounds_toArray, List.set_cons_zero, List.set_cons_succ]
      iterate 4 (first
        | (refine wpAs_skip rfl ?_; simp only [Act.put, List.setIfInBounds_toArray, List.set_cons_zero, List.set_cons_succ])
        | (refine wpAs_pure (v := ?_) rfl rfl ?_ ?_; rotate_left; (intro W hC hE; clear hE; skip; clear hC; go_simp; with_reducible rfl); simp only [Act.put, List.setIfInBounds_toArray, List.set_cons_zero, List.set_cons_succ]))
      refine wpAs_pure_jump (v := .bool false) 11 rfl rfl rfl ?_ (by kernel_rfl) ?_
      · intro W hC hE
        clear hE hC
        first
          | (go_simp; done)
          | (go_simp; simp; omega)
          | (go_simp; simp_all; done)
      simp only [skipN, Act.put, List.drop_succ_cons, List.drop_zero, List.setIfInBounds_toArray, List.set_cons_zero, List.set_cons_succ]
      iterate 2 (first
        | (refine wpAs_skip rfl ?_; simp only [Act.put, List.setIfInBounds_toArray, List.set_cons_zero, List.set_cons_succ])
        | (refine wpAs_pure (v := ?_) rfl rfl ?_ ?_; rotate_left; (intro W hC hE; clear hE; skip; clear hC; go_simp; with_reducible rfl); simp only [Act.put, List.setIfInBounds_toArray, List.set_cons_zero, List.set_cons_succ]))
      iterate 4 (first
        | (refine wpAs_skip rfl ?_; simp only [Act.put, List.setIfInBounds_toArray, List.set_cons_zero, List.set_cons_succ])
        | (refine wpAs_pure (v := ?_) rfl rfl ?_ ?_; rotate_left; (intro W hC hE; clear hE; (obtain ⟨p3, p4⟩ := HP.out W hC); clear hC; go_simp; with_reducible rfl); simp only [Act.put, List.setIfInBounds_toArray, List.set_cons_zero, List.set_cons_succ]))
      by_cases h7 : l ≤ 0
      · have h7' : ¬ (0 : Int) < l := by omega
        have hall := Lib.hid (hstep.out (by rw [hsucc.out, okP, hmx.out, hl.out]; simp [h7]))
        refine wpAs_pure_jump (v := .bool false) 9 rfl rfl rfl ?_ (by kernel_rfl) ?_
        · intro W hC hE
          clear hE hC
          first
            | (go_simp; done)
            | (go_simp; simp; omega)
            | (go_simp; simp_all; done)
        simp only [skipN, Act.put, List.drop_succ_cons, List.drop_zero, List.setIfInBounds_toArray, List.set_cons_zero, List.set_cons_succ]
        iterate 2 (first
          | (refine wpAs_skip rfl ?_; simp only [Act.put, List.setIfInBounds_toArray, List.set_cons_zero, List.set_cons_succ])
          | (refine wpAs_pure (v := ?_) rfl rfl ?_ ?_; rotate_left; (intro W hC hE; clear hE; skip; clear hC; go_simp; with_reducible rfl); simp only [Act.put, List.setIfInBounds_toArray, List.set_cons_zero, List.set_cons_succ]))
        refine wpAs_end fun W hC hE => ?_
        have BW := Lib.hid (B2.out.trans (hC.mono B2.out.size))
        clear hE hC
        go_wp2_with fail
        go_roundw
        case rel => exact ⟨k + 1, by omega, by go_num, hall.out, BW.out⟩
        case measure => simp [intOf]; omega
      · have h7' : (0 : Int) < l := by omega
        refine wpAs_pure_jump (v := .bool true) 0 rfl rfl rfl ?_ (by kernel_rfl) ?_
        · intro W hC hE
          clear hE hC
          first
            | (go_simp; done)
            | (go_simp; simp; omega)
            | (go_simp; simp_all; done)
        simp only [skipN, Act.put, List.drop_zero, List.setIfInBounds_toArray, List.set_cons_zero, List.set_cons_succ]
        iterate 3 (first
          | (refine wpAs_skip rfl ?_; simp only [Act.put, List.setIfInBounds_toArray, List.set_cons_zero, List.set_cons_succ])
          | (refine wpAs_pure (v := ?_) rfl rfl ?_ ?_; rotate_left; (intro W hC hE; clear hE; (obtain ⟨p3, p4⟩ := HP.out W hC; obtain ⟨r3, r4⟩ := HX.out W hC); clear hC; go_simp; with_reducible rfl); simp only [Act.put, List.setIfInBounds_toArray, List.set_cons_zero, List.set_cons_succ]))
        by_cases h8 : x.2.1 = 0
        · have h8' : (x.2.1 == 0) = true := by simpa using h8
          have hr := Lib.hid (hbk.out (okAt_noP hx.out (by rw [okP, hmx.out, hl.out, refersI]; simp [h8]; omega)))
          replace h8 := Lib.hid h8
          refine wpAs_pure_jump (v := .bool true) 4 rfl rfl rfl ?_ (by kernel_rfl) ?_
          · intro W hC hE
            clear hE hC
            first
              | (go_simp; done)
              | (go_simp; simp; omega)
              | (go_simp; simp_all; done)
          simp only [skipN, Act.put, List.drop_succ_cons, List.drop_zero, List.setIfInBounds_toArray, List.set_cons_zero, List.set_cons_succ]
          iterate 3 (first
            | (refine wpAs_skip rfl ?_; simp only [Act.put, List.setIfInBounds_toArray, List.set_cons_zero, List.set_cons_succ])
            | (refine wpAs_pure (v := ?_) rfl rfl ?_ ?_; rotate_left; (intro W hC hE; clear hE; skip; clear hC; go_simp; with_reducible rfl); simp only [Act.put, List.setIfInBounds_toArray, List.set_cons_zero, List.set_cons_succ]))
          refine wpAs_end fun W hC hE => ?_
          have BF := Lib.hid (hB.out _ (B2.out.trans (hC.mono B2.out.size)))
          clear hE hC
          go_wp2_with fail
          go_ret
          exact ⟨ret_bool hr.out.symm, BF.out⟩
        · have h8' : (x.2.1 == 0) = false := by simpa using h8
          by_cases h9 : x.2.2.length = 0
          · have h9' : ¬ (0 : Int) < (x.2.2.length : Int) := by omega
            have hall := Lib.hid (hstep.out (by rw [hsucc.out, okP, hmx.out, refersI]; simp [h8, h9]))
            replace h8 := Lib.hid h8
            replace h9 := Lib.hid h9
            refine wpAs_pure_jump (v := .bool false) 0 rfl rfl rfl ?_ (by kernel_rfl) ?_
            · intro W hC hE
              clear hE hC
              first
                | (go_simp; done)
                | (go_simp; simp; omega)
                | (go_simp; simp_all; done)
            simp only [skipN, Act.put, List.drop_zero, List.setIfInBounds_toArray, List.set_cons_zero, List.set_cons_succ]
            iterate 7 (first
              | (refine wpAs_skip rfl ?_; simp only [Act.put, List.setIfInBounds_toArray, List.set_cons_zero, List.set_cons_succ])
              | (refine wpAs_pure (v := ?_) rfl rfl ?_ ?_; rotate_left; (intro W hC hE; clear hE; (obtain ⟨r3, r4⟩ := HX.out W hC); clear hC; go_simp; with_reducible rfl); simp only [Act.put, List.setIfInBounds_toArray, List.set_cons_zero, List.set_cons_succ]))
            refine wpAs_end fun W hC hE => ?_
            have BW := Lib.hid (B2.out.trans (hC.mono B2.out.size))
            clear hE hC
            go_wp2_with fail
            go_roundw
            case rel => exact ⟨k + 1, by omega, by go_num, hall.out, BW.out⟩
            case measure => simp [intOf]; omega
          · have h9' : (0 : Int) < (x.2.2.length : Int) := by omega
            have hr := Lib.hid (hbk.out (okAt_noP hx.out (by rw [okP, hmx.out, hl.out, refersI]; simp [h9]; omega)))
            replace h8 := Lib.hid h8
            replace h9 := Lib.hid h9
            refine wpAs_pure_jump (v := .bool false) 0 rfl rfl rfl ?_ (by kernel_rfl) ?_
            · intro W hC hE
              clear hE hC
              first
                | (go_simp; done)
                | (go_simp; simp; omega)
                | (go_simp; simp_all; done)
            simp only [skipN, Act.put, List.drop_zero, List.setIfInBounds_toArray, List.set_cons_zero, List.set_cons_succ]
            iterate 7 (first
              | (refine wpAs_skip rfl ?_; simp only [Act.put, List.setIfInBounds_toArray, List.set_cons_zero, List.set_cons_succ])
              | (refine wpAs_pure (v := ?_) rfl rfl ?_ ?_; rotate_left; (intro W hC hE; clear hE; (obtain ⟨r3, r4⟩ := HX.out W hC); clear hC; go_simp; with_reducible rfl); simp only [Act.put, List.setIfInBounds_toArray, List.set_cons_zero, List.set_cons_succ]))
            refine wpAs_end fun W hC hE => ?_
            have BF := Lib.hid (hB.out _ (B2.out.trans (hC.mono B2.out.size)))
            clear hE hC
            go_wp2_with fail
            go_ret
            exact ⟨ret_bool hr.out.symm, BF.out⟩
    · obtain ⟨y, hy⟩ : ∃ y, n.2[j]? = some y := ⟨_, List.getElem?_eq_getElem (by rw [hm.out]; omega)⟩
      obtain ⟨ad', E', ce', e', _, _, _, FY⟩ := its_old HA.out hy
      have e'' := Option.some.inj e'
      subst e''
      clear e'
      have FYY := Lib.hid fun W (hW : Below w2.heap.size w2 W) => (FY W ((hB.out _ B2.out).trans (hW.mono (hB.out _ B2.out).size))).1
      have hs0 := okAt_succ (n := n) (k := j) (x := x) (p := y) (by rw [← hkj]; exact hx.out) hy
      rw [← hkj] at hs0
      have hj1 : (k : Int) - 1 = (j : Int) := by omega
      have hwj : IntKind.i64.wrap (j : Int) = (j : Int) := IntWalk.i64_in _ (by omega)
      have hj0 : (0 : Int) ≤ (j : Int) := by omega
      have kpos : (0 : Int) < (k : Int) := by omega
      have hjm : (j : Int) < (m : Int) := by omega
      replace hy := Lib.hid hy
      replace hkj := Lib.hid hkj
      clear FY
      rcases bool_two (lessK y.1 x.1) with hs | hs
      · have hr := Lib.hid (hbk.out (by rw [hs0, hs]; simp))
        replace hs := Lib.hid hs
        replace hs0 := Lib.hid hs0
        refine wp_region_fx (by kernel_rfl) (fun W => Below w2.heap.size w2 W) (fun _ => none) (fun i => match i with
          | 1 => some (.bool true)
          | 16 => some (.bool false)
          | _ => none) (by kernel_rfl) (Below.refl _ _).drew (fun w w' h hb => h.trans (hb.mono h.size)) (fun j φ x W W' hp => by cases hp) ?_
        repeat (first
          | (refine wpAs_skip rfl ?_; simp only [Act.put, List.setIfInBounds_toArray, List.set_cons_zero, List.set_cons_succ])
          | (refine wpAs_pure (v := ?_) rfl rfl ?_ ?_; rotate_left; (intro W hC hE; clear hE; (obtain ⟨r0, r1, r2⟩ := HX0.out W hC; obtain ⟨r3, r4⟩ := HX.out W hC); clear hC; go_simp; done); simp only [Act.put, List.setIfInBounds_toArray, List.set_cons_zero, List.set_cons_succ])
          | (refine wpAs_pure (v := ?_) rfl rfl ?_ ?_; rotate_left; (intro W hC hE; clear hE; (obtain ⟨r0, r1, r2⟩ := HX0.out W hC; obtain ⟨r3, r4⟩ := HX.out W hC); clear hC; go_simp; with_reducible rfl); simp only [Act.put, List.setIfInBounds_toArray, List.set_cons_zero, List.set_cons_succ]))
        refine wpAs_fixed rfl rfl rfl ?_ ?_
        · intro W hC hE
          refine does_enter (f := 100) (args := #[.agg #[.int .u8 (x.1.1.toNat : Int), .int .u32 x.1.2.1, .int .u32 x.1.2.2, .int .i64 x.2.1, .slice E x.2.2.length ce]]) ?_ ?_
          · go_simp
          · refine (refMayI_any _ x W (HI.out W hC)).mono ?_
            (rintro e W' ⟨rfl, hg⟩; rw [hmx.out])
            exact ⟨_, rfl, rfl, hg⟩
        simp only [Act.put, List.setIfInBounds_toArray, List.set_cons_zero, List.set_cons_succ]
        iterate 4 (first
          | (refine wpAs_skip rfl ?_; simp only [Act.put, List.setIfInBounds_toArray, List.set_cons_zero, List.set_cons_succ])
          | (refine wpAs_pure (v := ?_) rfl rfl ?_ ?_; rotate_left; (intro W hC hE; clear hE; skip; clear hC; go_simp; with_reducible rfl); simp only [Act.put, List.setIfInBounds_toArray, List.set_cons_zero, List.set_cons_succ]))
        refine wpAs_pure_jump (v := .bool true) 0 rfl rfl rfl ?_ (by kernel_rfl) ?_
        · intro W hC hE
          clear hE hC
          first
            | (go_simp; done)
            | (go_simp; simp; omega)
            | (go_simp; simp_all; done)
        simp only [skipN, Act.put, List.drop_zero, List.setIfInBounds_toArray, List.set_cons_zero, List.set_cons_succ]
        iterate 9 (first
          | (refine wpAs_skip rfl ?_; simp only [Act.put, List.setIfInBounds_toArray, List.set_cons_zero, List.set_cons_succ])
          | (refine wpAs_pure (v := ?_) rfl rfl ?_ ?_; rotate_left; (intro W hC hE; clear hE; (obtain ⟨p3, p4⟩ := HP.out W hC; obtain ⟨y0, y1, y2, y3, y4⟩ := FYY.out W hC; obtain ⟨r0, r1, r2⟩ := HX0.out W hC); clear hC; go_simp; with_reducible rfl); simp only [Act.put, List.setIfInBounds_toArray, List.set_cons_zero, List.set_cons_succ]))
        refine wpAs_fixed rfl rfl rfl ?_ ?_
        · intro W hC hE
          refine does_enter (f := 101) (args := #[kyV y.1, kyV x.1]) ?_ ?_
          · go_simp
          · refine (refLess_any y.1 x.1 W).mono ?_
            (rintro e W' ⟨rfl, hg⟩; rw [hs.out])
            exact ⟨_, rfl, rfl, hg⟩
        simp only [Act.put, List.setIfInBounds_toArray, List.set_cons_zero, List.set_cons_succ]
        iterate 3 (first
          | (refine wpAs_skip rfl ?_; simp only [Act.put, List.setIfInBounds_toArray, List.set_cons_zero, List.set_cons_succ])
          | (refine wpAs_pure (v := ?_) rfl rfl ?_ ?_; rotate_left; (intro W hC hE; clear hE; skip; clear hC; go_simp; with_reducible rfl); simp only [Act.put, List.setIfInBounds_toArray, List.set_cons_zero, List.set_cons_succ]))
        refine wpAs_pure_jump (v := .bool true) 14 rfl rfl rfl ?_ (by kernel_rfl) ?_
        · intro W hC hE
          clear hE hC
          first
            | (go_simp; done)
            | (go_simp; simp; omega)
            | (go_simp; simp_all; done)
        simp only [skipN, Act.put, List.drop_succ_cons, List.drop_zero, List.setIfInBounds_toArray, List.set_cons_zero, List.set_cons_succ]
        iterate 1 (first
          | (refine wpAs_skip rfl ?_; simp only [Act.put, List.setIfInBounds_toArray, List.set_cons_zero, List.set_cons_succ])
          | (refine wpAs_pure (v := ?_) rfl rfl ?_ ?_; rotate_left; (intro W hC hE; clear hE; skip; clear hC; go_simp; with_reducible rfl); simp only [Act.put, List.setIfInBounds_toArray, List.set_cons_zero, List.set_cons_succ]))
        refine wpAs_end fun W hC hE => ?_
        have BF := Lib.hid (hB.out _ (B2.out.trans (hC.mono B2.out.size)))
        clear hE hC
        go_wp2_with fail
        go_ret
        exact ⟨ret_bool hr.out.symm, BF.out⟩
      · have hsucc := Lib.hid (show okAt n k = okP n.1 x by rw [hs0, hs]; simp)
        replace hs := Lib.hid hs
        replace hs0 := Lib.hid hs0
        refine wp_region_fx (by kernel_rfl) (fun W => Below w2.heap.size w2 W) (fun _ => none) (fun i => match i with
          | 1 => some (.bool true)
          | 16 => some (.bool true)
          | _ => none) (by kernel_rfl) (Below.refl _ _).drew (fun w w' h hb => h.trans (hb.mono h.size)) (fun j φ x W W' hp => by cases hp) ?_
        repeat (first
          | (refine wpAs_skip rfl ?_; simp only [Act.put, List.setIfInBounds_toArray, List.set_cons_zero, List.set_cons_succ])
          | (refine wpAs_pure (v := ?_) rfl rfl ?_ ?_; rotate_left; (intro W hC hE; clear hE; (obtain ⟨r0, r1, r2⟩ := HX0.out W hC; obtain ⟨r3, r4⟩ := HX.out W hC); clear hC; go_simp; done); simp only [Act.put, List.setIfInBounds_toArray, List.set_cons_zero, List.set_cons_succ])
          | (refine wpAs_pure (v := ?_) rfl rfl ?_ ?_; rotate_left; (intro W hC hE; clear hE; (obtain ⟨r0, r1, r2⟩ := HX0.out W hC; obtain ⟨r3, r4⟩ := HX.out W hC); clear hC; go_simp; with_reducible rfl); simp only [Act.put, List.setIfInBounds_toArray, List.set_cons_zero, List.set_cons_succ]))
        refine wpAs_fixed rfl rfl rfl ?_ ?_
        · intro W hC hE
          refine does_enter (f := 100) (args := #[.agg #[.int .u8 (x.1.1.toNat : Int), .int .u32 x.1.2.1, .int .u32 x.1.2.2, .int .i64 x.2.1, .slice E x.2.2.length ce]]) ?_ ?_
          · go_simp
          · refine (refMayI_any _ x W (HI.out W hC)).mono ?_
            (rintro e W' ⟨rfl, hg⟩; rw [hmx.out])
            exact ⟨_, rfl, rfl, hg⟩
        simp only [Act.put, List.setIfInBounds_toArray, List.set_cons_zero, List.set_cons_succ]
        iterate 4 (first
          | (refine wpAs_skip rfl ?_; simp only [Act.put, List.setIfInBounds_toArray, List.set_cons_zero, List.set_cons_succ])
          | (refine wpAs_pure (v := ?_) rfl rfl ?_ ?_; rotate_left; (intro W hC hE; clear hE; skip; clear hC; go_simp; with_reducible rfl); simp only [Act.put, List.setIfInBounds_toArray, List.set_cons_zero, List.set_cons_succ]))
        refine wpAs_pure_jump (v := .bool true) 0 rfl rfl rfl ?_ (by kernel_rfl) ?_
        · intro W hC hE
          clear hE hC
          first
            | (go_simp; done)
            | (go_simp; simp; omega)
            | (go_simp; simp_all; done)
        simp only [skipN, Act.put, List.drop_zero, List.setIfInBounds_toArray, List.set_cons_zero, List.set_cons_succ]
        iterate 9 (first
          | (refine wpAs_skip rfl ?_; simp only [Act.put, List.setIfInBounds_toArray, List.set_cons_zero, List.set_cons_succ])
          | (refine wpAs_pure (v := ?_) rfl rfl ?_ ?_; rotate_left; (intro W hC hE; clear hE; (obtain ⟨p3, p4⟩ := HP.out W hC; obtain ⟨y0, y1, y2, y3, y4⟩ := FYY.out W hC; obtain ⟨r0, r1, r2⟩ := HX0.out W hC); clear hC; go_simp; with_reducible rfl); simp only [Act.put, List.setIfInBounds_toArray, List.set_cons_zero, List.set_cons_succ]))
        refine wpAs_fixed rfl rfl rfl ?_ ?_
        · intro W hC hE
          refine does_enter (f := 101) (args := #[kyV y.1, kyV x.1]) ?_ ?_
          · go_simp
          · refine (refLess_any y.1 x.1 W).mono ?_
            (rintro e W' ⟨rfl, hg⟩; rw [hs.out])
            exact ⟨_, rfl, rfl, hg⟩
        simp only [Act.put, List.setIfInBounds_toArray, List.set_cons_zero, List.set_cons_succ]
        iterate 3 (first
          | (refine wpAs_skip rfl ?_; simp only [Act.put, List.setIfInBounds_toArray, List.set_cons_zero, List.set_cons_succ])
          | (refine wpAs_pure (v := ?_) rfl rfl ?_ ?_; rotate_left; (intro W hC hE; clear hE; skip; clear hC; go_simp; with_reducible rfl); simp only [Act.put, List.setIfInBounds_toArray, List.set_cons_zero, List.set_cons_succ]))
        iterate 4 (first
          | (refine wpAs_skip rfl ?_; simp only [Act.put, List.setIfInBounds_toArray, List.set_cons_zero, List.set_cons_succ])
          | (refine wpAs_pure (v := ?_) rfl rfl ?_ ?_; rotate_left; (intro W hC hE; clear hE; (obtain ⟨p3, p4⟩ := HP.out W hC); clear hC; go_simp; with_reducible rfl); simp only [Act.put, List.setIfInBounds_toArray, List.set_cons_zero, List.set_cons_succ]))
        by_cases h7 : l ≤ 0
        · have h7' : ¬ (0 : Int) < l := by omega
          have hall := Lib.hid (hstep.out (by rw [hsucc.out, okP, hmx.out, hl.out]; simp [h7]))
          refine wpAs_pure_jump (v := .bool false) 9 rfl rfl rfl ?_ (by kernel_rfl) ?_
          · intro W hC hE
            clear hE hC
            first
              | (go_simp; done)
              | (go_simp; simp; omega)
              | (go_simp; simp_all; done)
          simp only [skipN, Act.put, List.drop_succ_cons, List.drop_zero, List.setIfInBounds_toArray, List.set_cons_zero, List.set_cons_succ]
          iterate 2 (first
            | (refine wpAs_skip rfl ?_; simp only [Act.put, List.setIfInBounds_toArray, List.set_cons_zero, List.set_cons_succ])
            | (refine wpAs_pure (v := ?_) rfl rfl ?_ ?_; rotate_left; (intro W hC hE; clear hE; skip; clear hC; go_simp; with_reducible rfl); simp only [Act.put, List.setIfInBounds_toArray, List.set_cons_zero, List.set_cons_succ]))
          refine wpAs_end fun W hC hE => ?_
          have BW := Lib.hid (B2.out.trans (hC.mono B2.out.size))
          clear hE hC
          go_wp2_with fail
          go_roundw
          case rel => exact ⟨k + 1, by omega, by go_num, hall.out, BW.out⟩
          case measure => simp [intOf]; omega
        · have h7' : (0 : Int) < l := by omega
          refine wpAs_pure_jump (v := .bool true) 0 rfl rfl rfl ?_ (by kernel_rfl) ?_
          · intro W hC hE
            clear hE hC
            first
              | (go_simp; done)
              | (go_simp; simp; omega)
              | (go_simp; simp_all; done)
          simp only [skipN, Act.put, List.drop_zero, List.setIfInBounds_toArray, List.set_cons_zero, List.set_cons_succ]
          iterate 3 (first
            | (refine wpAs_skip rfl ?_; simp only [Act.put, List.setIfInBounds_toArray, List.set_cons_zero, List.set_cons_succ])
            | (refine wpAs_pure (v := ?_) rfl rfl ?_ ?_; rotate_left; (intro W hC hE; clear hE; (obtain ⟨p3, p4⟩ := HP.out W hC; obtain ⟨r3, r4⟩ := HX.out W hC); clear hC; go_simp; with_reducible rfl); simp only [Act.put, List.setIfInBounds_toArray, List.set_cons_zero, List.set_cons_succ]))
          by_cases h8 : x.2.1 = 0
          · have h8' : (x.2.1 == 0) = true := by simpa using h8
            have hr := Lib.hid (hbk.out (okAt_noP hx.out (by rw [okP, hmx.out, hl.out, refersI]; simp [h8]; omega)))
            replace h8 := Lib.hid h8
            refine wpAs_pure_jump (v := .bool true) 4 rfl rfl rfl ?_ (by kernel_rfl) ?_
            · intro W hC hE
              clear hE hC
              first
                | (go_simp; done)
                | (go_simp; simp; omega)
                | (go_simp; simp_all; done)
            simp only [skipN, Act.put, List.drop_succ_cons, List.drop_zero, List.setIfInBounds_toArray, List.set_cons_zero, List.set_cons_succ]
            iterate 3 (first
              | (refine wpAs_skip rfl ?_; simp only [Act.put, List.setIfInBounds_toArray, List.set_cons_zero, List.set_cons_succ])
              | (refine wpAs_pure (v := ?_) rfl rfl ?_ ?_; rotate_left; (intro W hC hE; clear hE; skip; clear hC; go_simp; with_reducible rfl); simp only [Act.put, List.setIfInBounds_toArray, List.set_cons_zero, List.set_cons_succ]))
            refine wpAs_end fun W hC hE => ?_
            have BF := Lib.hid (hB.out _ (B2.out.trans (hC.mono B2.out.size)))
            clear hE hC
            go_wp2_with fail
            go_ret
            exact ⟨ret_bool hr.out.symm, BF.out⟩
          · have h8' : (x.2.1 == 0) = false := by simpa using h8
            by_cases h9 : x.2.2.length = 0
            · have h9' : ¬ (0 : Int) < (x.2.2.length : Int) := by omega
              have hall := Lib.hid (hstep.out (by rw [hsucc.out, okP, hmx.out, refersI]; simp [h8, h9]))
              replace h8 := Lib.hid h8
              replace h9 := Lib.hid h9
              refine wpAs_pure_jump (v := .bool false) 0 rfl rfl rfl ?_ (by kernel_rfl) ?_
              · intro W hC hE
                clear hE hC
                first
                  | (go_simp; done)
                  | (go_simp; simp; omega)
                  | (go_simp; simp_all; done)
              simp only [skipN, Act.put, List.drop_zero, List.setIfInBounds_toArray, List.set_cons_zero, List.set_cons_succ]
              iterate 7 (first
                | (refine wpAs_skip rfl ?_; simp only [Act.put, List.setIfInBounds_toArray, List.set_cons_zero, List.set_cons_succ])
                | (refine wpAs_pure (v := ?_) rfl rfl ?_ ?_; rotate_left; (intro W hC hE; clear hE; (obtain ⟨r3, r4⟩ := HX.out W hC); clear hC; go_simp; with_reducible rfl); simp only [Act.put, List.setIfInBounds_toArray, List.set_cons_zero, List.set_cons_succ]))
              refine wpAs_end fun W hC hE => ?_
              have BW := Lib.hid (B2.out.trans (hC.mono B2.out.size))
              clear hE hC
              go_wp2_with fail
              go_roundw
              case rel => exact ⟨k + 1, by omega, by go_num, hall.out, BW.out⟩
              case measure => simp [intOf]; omega
            · have h9' : (0 : Int) < (x.2.2.length : Int) := by omega
              have hr := Lib.hid (hbk.out (okAt_noP hx.out (by rw [okP, hmx.out, hl.out, refersI]; simp [h9]; omega)))
              replace h8 := Lib.hid h8
              replace h9 := Lib.hid h9
              refine wpAs_pure_jump (v := .bool false) 0 rfl rfl rfl ?_ (by kernel_rfl) ?_
              · intro W hC hE
                clear hE hC
                first
                  | (go_simp; done)
                  | (go_simp; simp; omega)
                  | (go_simp; simp_all; done)
              simp only [skipN, Act.put, List.drop_zero, List.setIfInBounds_toArray, List.set_cons_zero, List.set_cons_succ]
              iterate 7 (first
                | (refine wpAs_skip rfl ?_; simp only [Act.put, List.setIfInBounds_toArray, List.set_cons_zero, List.set_cons_succ])
                | (refine wpAs_pure (v := ?_) rfl rfl ?_ ?_; rotate_left; (intro W hC hE; clear hE; (obtain ⟨r3, r4⟩ := HX.out W hC); clear hC; go_simp; with_reducible rfl); simp only [Act.put, List.setIfInBounds_toArray, List.set_cons_zero, List.set_cons_succ]))
              refine wpAs_end fun W hC hE => ?_
              have BF := Lib.hid (hB.out _ (B2.out.trans (hC.mono B2.out.size)))
              clear hE hC
              go_wp2_with fail
              go_ret
              exact ⟨ret_bool hr.out.symm, BF.out⟩

end Go.Proofs.YtjlbkcnhbndgbaaGreat

/-
  The document's answers of layer 6: told, Block, Write. Conditions: those that each lemma states.
-/
namespace Go.Proofs.YtjlbkcnhbndgbaaGreat
open Go.RowKit

set_option maxRecDepth 100000 in
set_option maxHeartbeats 4000000 in
theorem refTold_ok (v : Value) (n : Nd) (w : World) (h : Nod (Old w) w v n) (hm : mayN n = true) :
    Calls Tryz.prog 87 #[v] w fun e w' => ∃ u, e = .returned u ∧ rBy (New w.heap.size w') w' [u] (toldN n) ∧ Below w.heap.size w w' := by
  obtain ⟨A, c, rfl, hin, l1, m1, hA⟩ := h.open
  obtain ⟨w1, hw1, b0, hs0, hB0⟩ := box_pair' w (.int .i64 n.1) (.slice A n.2.length c) 47
  obtain ⟨f1, f2, _, lt1⟩ := two_cells b0
  have HA := Lib.hid hA
  have B1 := Lib.hid hB0
  replace hs0 := Lib.hid hs0
  clear h hA hB0 b0 hin
  have hmay := Lib.hid hm
  obtain ⟨⟨s1, s2, s3, _⟩, _⟩ := mayN_of hm
  obtain ⟨m, hmm⟩ : ∃ m, n.2.length = m := ⟨_, rfl⟩
  have hu1 := u8_small s1 (by omega)
  have hu2 := u8_small (l := (n.2.length : Int)) (by omega) (by omega)
  have hhead := Lib.hid (show headN n = [78, UInt8.ofNat n.1.toNat, UInt8.ofNat n.2.length] from rfl)
  rw [Int.toNat_natCast] at hu2
  rw [hmm] at l1 f2 hw1 HA s3 hu2 hhead ⊢
  obtain ⟨l, hl⟩ : ∃ l, n.1 = l := ⟨_, rfl⟩
  rw [hl] at f1 hw1 s1 s2 hu1 hhead ⊢
  replace hl := Lib.hid hl
  replace hmm := Lib.hid hmm
  clear hm
  obtain ⟨w2, hw2, own2, hb2, hs2⟩ := lit_own3 w1 78 (UInt8.ofNat l.toNat) (UInt8.ofNat m) 78 l m rfl hu1.1 hu2.1
  rw [← hhead.out] at own2
  have q1 := hu1.2
  have q2 := hu2.2
  have lt2 : w.heap.size < w2.heap.size := Nat.lt_of_lt_of_le lt1 hb2.size
  have hb2' := Lib.hid hb2
  replace own2 := Lib.hid own2
  replace hu1 := Lib.hid hu1
  replace hu2 := Lib.hid hu2
  replace hs2 := Lib.hid hs2
  clear hb2
  go_enter Tryz.func87, Tryz.ntmps87
  go_upto_region 1 with fail
  clear hw1
  go_upto_region 2 with fail
  clear hw2
  go_wp2_with fail
  go_loopw [3, 4] (fun b i wr => ∃ k : Nat, k ≤ m ∧ i = .int .i64 k ∧ wr.ownsRow w1.heap.size 5 1 b (3 + (itsB (n.2.take k)).length) (u8s (headN n ++ itsB (n.2.take k))) ∧ Below w1.heap.size w1 wr) (fun _ i _ => m - (intOf i).toNat)
  case atStart => exact ⟨0, by omega, rfl, by simpa [itsB] using own2.out, hb2'.out⟩
  case round =>
    obtain ⟨k, hk, rfl, hown, hb⟩ := hrel
    replace hb := Lib.hid hb
    have h63 := itsB_take_len hmay.out k
    obtain ⟨B, cb, rfl, c1, c2, hby⟩ := own_byt hown
    have BF := Lib.hid (B1.out.trans (hb.out.mono B1.out.size))
    have p4 := (hb.out.cell (p := ⟨w.heap.size, 1, none⟩) lt1).trans f2
    by_cases hlt : k < m
    case neg =>
      have hkm : Hid (n.2.take k = n.2) := Lib.hid (List.take_of_length_le (by rw [hmm.out]; omega))
      rw [hkm.out] at hown c1 ⊢
      have hfin := Lib.hid (show rBy (New w.heap.size wr) wr [.slice B (3 + (itsB n.2).length) cb] (toldN n) from stab_by.mono (own_by hown) B1.out.size)
      obtain ⟨q, hq⟩ : ∃ q, 3 + (itsB n.2).length = q := ⟨_, rfl⟩
      rw [hq] at hfin c1 ⊢
      clear hown hq hby
      go_wp2_with fail
      go_ret
      exact ⟨_, rfl, hfin.out, BF.out⟩
    obtain ⟨x, hx⟩ : ∃ x, n.2[k]? = some x := ⟨_, List.getElem?_eq_getElem (by rw [hmm.out]; exact hlt)⟩
    obtain ⟨ad, E, ce, rfl, _, _, hinx, FX⟩ := its_old HA.out hx
    obtain ⟨⟨z0, z1, z2, z3, z4⟩, hIx⟩ := FX wr BF.out
    have HI := Lib.hid hIx
    have hmx := Lib.hid (okP_may (mayN_item hmay.out hx))
    have htk := Lib.hid (itsB_take hx)
    have hlx := Lib.hid (show (itB x).length ≤ 24 by have := (mayI_of hmx.out).2; rw [itB_length]; omega)
    have HO := Lib.hid hown
    have i1 : (0 : Int) ≤ (k : Int) := by omega
    have i2 : (k : Int) < (m : Int) := by omega
    replace hx := Lib.hid hx
    clear FX hinx hIx hown hby
    unfold itV at *
    go_wp2_with fail
    with_reducible refine (refBytes_ok _ x _ HI.out hmx.out).mono ?_
    rintro e4 w4 ⟨u, rfl, hu, hb4⟩
    obtain ⟨U, cu, rfl, _, _, hyu⟩ := rBy_byt (B := w4.heap.size) (fun p hp => hp.2.1) hu
    have B4 := hb.out.trans (hb4.mono hb.out.size)
    obtain ⟨v5, w5, hr5, o5, ba5⟩ := app_own_byt _ (3 + (itsB (n.2.take k)).length) (itB x).length cu _ (itB x) U w1.heap.size w4 (own_below HO.out hb4) hyu rfl (by have := hlx.out; omega) B4.size
    have B5 := Lib.hid (B4.trans ba5)
    have H5 := Lib.hid hr5
    have o5' := Lib.hid (show w5.ownsRow w1.heap.size 5 1 v5 (3 + (itsB (n.2.take (k + 1))).length) (u8s (headN n ++ itsB (n.2.take (k + 1)))) by
      rw [htk.out, List.length_append, ← List.append_assoc, ← Nat.add_assoc]
      exact o5)
    clear hu hb4 hyu hr5 o5 ba5 B4
    go_wp2_with (at_builtin; refine wpList_append_run rfl _ _ _ rfl rfl rfl H5.out ?_; clear H5)
    go_roundw
    case rel => exact ⟨k + 1, by omega, by go_num, o5'.out, B5.out⟩
    case measure => simp [intOf]; omega

end Go.Proofs.YtjlbkcnhbndgbaaGreat

/-
  The document's answers of layer 6: same (bytes with noughts behind); what a block tells, plain. Conditions: those that each lemma states.
-/
namespace Go.Proofs.YtjlbkcnhbndgbaaGreat
open Go.RowKit

def samAt (b t : List UInt8) (i : Nat) : Bool := if i < t.length then b[i]?.getD 0 == t[i]?.getD 0 else b[i]?.getD 0 == 0
def samB (b t : List UInt8) : Bool := (List.range b.length).all (samAt b t) && decide (t.length ≤ b.length)
theorem samB_no {b t : List UInt8} {k : Nat} (hk : k < b.length) (h : samAt b t k = false) : samB b t = false := by
  cases e : samB b t with
  | false => rfl
  | true =>
    simp only [samB, Bool.and_eq_true, List.all_eq_true] at e
    have := e.1 k (by simpa using hk)
    rw [h] at this
    cases this
theorem samB_end {b t : List UInt8} (h : ∀ k, k < b.length → samAt b t k = true) : samB b t = decide (t.length ≤ b.length) := by
  have : (List.range b.length).all (samAt b t) = true := by
    rw [List.all_eq_true]
    exact fun x hx => h x (by simpa using hx)
  rw [samB, this, Bool.true_and]
theorem samB_of {b t : List UInt8} (h : samB b t = true) : ∃ r, noughtsB r = true ∧ b = t ++ r := by
  simp only [samB, Bool.and_eq_true, List.all_eq_true, decide_eq_true_eq] at h
  obtain ⟨h1, h2⟩ := h
  have h3 : ∀ i, i < b.length → samAt b t i = true := fun i hi => h1 i (by simpa using hi)
  refine ⟨b.drop t.length, ?_, ?_⟩
  · unfold noughtsB
    rw [List.all_eq_true]
    intro x hx
    obtain ⟨j, hj⟩ := List.mem_iff_getElem?.1 hx
    rw [List.getElem?_drop] at hj
    have := h3 (t.length + j) (List.getElem?_eq_some_iff.1 hj).1
    unfold samAt at this
    rw [if_neg (by omega), hj] at this
    simpa using this
  · apply List.ext_getElem?
    intro i
    rcases Nat.lt_or_ge i t.length with hi | hi
    · rw [List.getElem?_append_left hi]
      have := h3 i (by omega)
      unfold samAt at this
      rw [if_pos hi, List.getElem?_eq_getElem hi, List.getElem?_eq_getElem (show i < b.length by omega)] at this
      rw [List.getElem?_eq_getElem hi, List.getElem?_eq_getElem (show i < b.length by omega)]
      simpa using this
    · rw [List.getElem?_append_right hi, List.getElem?_drop]
      congr 1
      omega
theorem samB_mk {t r : List UInt8} (h : noughtsB r = true) : samB (t ++ r) t = true := by
  have h2 : ∀ i, samAt (t ++ r) t i = true := fun i => by
    unfold samAt
    split
    · rename_i hi
      rw [List.getElem?_append_left hi]
      simp
    · rename_i hi
      rw [List.getElem?_append_right (by omega), noughts_zeros h]
      unfold zeros
      rw [List.getElem?_replicate]
      split <;> simp
  rw [samB_end fun i _ => h2 i]
  simp

set_option maxRecDepth 100000 in
set_option maxHeartbeats 4000000 in
theorem refSamN_any (A B : Option Addr) (n c m d : Nat) (b t : List UInt8) (hn : Hid (b.length = n)) (hm : Hid (t.length = m)) (l1 : n ≤ c) (m1 : c ≤ 9223372036854775807) (_ : m ≤ d) (_ : d ≤ 9223372036854775807) (w : World) (hb : Byt w w.heap.size A b) (ht : Byt w w.heap.size B t) :
    Calls Tryz.prog 86 #[.slice A n c, .slice B m d] w fun e w' => e = .returned (.bool (samB b t)) ∧ Below w.heap.size w w' := by
  have HB := Lib.hid hb
  have HT := Lib.hid ht
  clear hb ht
  have hdef := Lib.hid (fun (k : Nat) (hk : k < b.length) (h : samAt b t k = false) => samB_no hk h)
  have hend := Lib.hid (fun h => samB_end (b := b) (t := t) h)
  go_enter Tryz.func86, Tryz.ntmps86
  go_wp2_with fail
  go_loopw [5] (fun i wr => ∃ k : Nat, k ≤ n ∧ i = .int .i64 k ∧ (∀ j, j < k → samAt b t j = true) ∧ Below w.heap.size w wr) (fun i _ => n - (intOf i).toNat)
  case atStart => exact ⟨0, by omega, rfl, fun j hj => by omega, Below.refl _ _⟩
  case round =>
    obtain ⟨k, hk, rfl, ha, hbw⟩ := hrel
    replace ha := Lib.hid ha
    replace hbw := Lib.hid hbw
    by_cases hlt : k < n
    · obtain ⟨ad, rfl, _, hc⟩ := (HB.out.below hbw.out) (by rw [hn.out]; omega)
      replace hc := hc k (by rw [hn.out]; exact hlt)
      have hbad := Lib.hid (hdef.out k (by rw [hn.out]; exact hlt))
      have hstep : Hid (samAt b t k = true → ∀ j, j < k + 1 → samAt b t j = true) := Lib.hid fun h j hj => by
        rcases Nat.lt_or_ge j k with h1 | h1
        · exact ha.out j h1
        · obtain rfl : j = k := by omega
          exact h
      have hat : samAt b t k = if k < t.length then b[k]?.getD 0 == t[k]?.getD 0 else b[k]?.getD 0 == 0 := rfl
      rw [hm.out] at hat
      have i1 : (0 : Int) ≤ (k : Int) := by omega
      have i2 : (k : Int) < (n : Int) := by omega
      obtain ⟨x, hx⟩ : ∃ x, b[k]?.getD 0 = x := ⟨_, rfl⟩
      rw [hx] at hc hat
      replace hx := Lib.hid hx
      by_cases hkm : k < m
      · obtain ⟨bd, rfl, _, hc2⟩ := (HT.out.below hbw.out) (by rw [hm.out]; omega)
        replace hc2 := hc2 k (by rw [hm.out]; exact hkm)
        obtain ⟨y, hy⟩ : ∃ y, t[k]?.getD 0 = y := ⟨_, rfl⟩
        rw [hy] at hc2 hat
        replace hy := Lib.hid hy
        rw [if_pos hkm] at hat
        have i3 : (k : Int) < (m : Int) := by omega
        by_cases e : x = y
        · have hall := Lib.hid (hstep.out (by rw [hat, e]; simp))
          clear hat
          subst e
          have he : ((x.toNat : Int) != (x.toNat : Int)) = false := by simp
          go_wp2_with fail
          have i5 : decide (m ≤ k) = false := by simp; omega
          go_quiet (fail)
          go_wp2_with fail
          go_roundw
          case rel => exact ⟨k + 1, by omega, by go_num, hall.out, below_drewN hbw.out _⟩
          case measure => simp [intOf]; omega
        · have he : ((x.toNat : Int) != (y.toNat : Int)) = true := by
            have : x.toNat ≠ y.toNat := fun h => e (UInt8.toNat.inj h)
            simp
            omega
          have hr := Lib.hid (hbad.out (by rw [hat]; simpa using e))
          replace e := Lib.hid e
          clear hat
          go_wp2_with fail
          go_quiet (fail)
          go_wp2_with fail
          go_ret
          exact ⟨ret_bool hr.out.symm, below_drewN hbw.out _⟩
      · rw [if_neg hkm] at hat
        have i3 : ¬ (k : Int) < (m : Int) := by omega
        have i4 : (m : Int) ≤ (k : Int) := by omega
        by_cases e : x = 0
        · have he : ((x.toNat : Int) != 0) = false := by rw [e]; rfl
          have hall := Lib.hid (hstep.out (by rw [hat, e]; rfl))
          replace e := Lib.hid e
          clear hat
          go_wp2_with fail
          go_quiet (fail)
          go_wp2_with fail
          go_roundw
          case rel => exact ⟨k + 1, by omega, by go_num, hall.out, below_drewN hbw.out _⟩
          case measure => simp [intOf]; omega
        · have he : ((x.toNat : Int) != 0) = true := by
            have : x.toNat ≠ 0 := fun h => e (UInt8.toNat.inj h)
            simp
            omega
          have hr := Lib.hid (hbad.out (by rw [hat]; simpa using e))
          replace e := Lib.hid e
          clear hat
          go_wp2_with fail
          go_quiet (fail)
          go_wp2_with fail
          go_ret
          exact ⟨ret_bool hr.out.symm, below_drewN hbw.out _⟩
    · have hr := Lib.hid (hend.out fun j hj => ha.out j (by have := hn.out; omega))
      rw [hn.out, hm.out] at hr
      by_cases h9 : m ≤ n
      · have i3 : (m : Int) ≤ (n : Int) := by omega
        have hr2 := Lib.hid (show samB b t = true by rw [hr.out]; simpa using h9)
        go_wp2_with fail
        go_ret
        exact ⟨ret_bool hr2.out.symm, hbw.out⟩
      · have i3 : ¬ (m : Int) ≤ (n : Int) := by omega
        have hr2 := Lib.hid (show samB b t = false by rw [hr.out]; simpa using h9)
        go_wp2_with fail
        go_ret
        exact ⟨ret_bool hr2.out.symm, hbw.out⟩

/-! ### What the document's reading takes for a node -/
def capN (bd : List UInt8) : Nat := min (manyN bd) 6
def ndR (bd : List UInt8) : Nd := (lvlN bd, cutL (bd.drop 3) (capN bd))
def rdR (bd : List UInt8) : Bool := (cutTo (bd.drop 3) (capN bd)).isSome && (mayN (ndR bd) && samB bd (toldN (ndR bd)))
theorem rdR_eq {bd : List UInt8} (h124 : bd.length = 124) : rdR bd = rdN bd ∧ (rdR bd = true → ndR bd = ndN bd) := by
  by_cases hm : manyN bd ≤ 6
  · have hc : capN bd = manyN bd := by unfold capN; omega
    have hnd : ndR bd = ndN bd := by unfold ndR ndN; rw [hc]
    refine ⟨?_, fun _ => hnd⟩
    unfold rdR rdN
    rw [hnd, hc]
    cases hct : cutTo (bd.drop 3) (manyN bd) with
    | none => simp
    | some p =>
      obtain ⟨l, r⟩ := p
      have hL : cutL (bd.drop 3) (manyN bd) = l := by simp [cutL, hct]
      have hR : cutR (bd.drop 3) (manyN bd) = r := by simp [cutR, hct]
      obtain ⟨c1, c2, _⟩ := cutTo_bytes hct
      rw [hR]
      have hT : toldN (ndN bd) = [78, bd[1]?.getD 0, bd[2]?.getD 0] ++ itsB l := by
        rw [ndN, hL, told_parts, c2]
        have e1 : UInt8.ofNat (lvlN bd).toNat = bd[1]?.getD 0 := by simp [lvlN]
        have e2 : UInt8.ofNat (manyN bd) = bd[2]?.getD 0 := by simp [manyN]
        show [78, UInt8.ofNat (lvlN bd).toNat, UInt8.ofNat (manyN bd)] ++ itsB l = _
        rw [e1, e2]
      have hsplit : bd = [bd[0]?.getD 0, bd[1]?.getD 0, bd[2]?.getD 0] ++ bd.drop 3 := by
        match bd, h124 with
        | x :: y :: z :: q, _ => simp
      have key : samB bd (toldN (ndN bd)) = (decide (bd[0]?.getD 0 = 78) && noughtsB r) := by
        rw [Bool.eq_iff_iff, Bool.and_eq_true, decide_eq_true_iff]
        constructor
        · intro h
          obtain ⟨r', hr', e⟩ := samB_of h
          rw [hT] at e
          have h0 : bd[0]?.getD 0 = 78 := by rw [e]; rfl
          refine ⟨h0, ?_⟩
          have h1 : bd.drop 3 = itsB l ++ r' := by rw [e]; rfl
          rw [c1] at h1
          have := List.append_cancel_left h1
          rw [this]
          exact hr'
        · rintro ⟨h0, hr⟩
          have e : bd = toldN (ndN bd) ++ r := by
            rw [hT, List.append_assoc, ← c1, ← h0]
            exact hsplit
          have := samB_mk (t := toldN (ndN bd)) hr
          rwa [← e] at this
      rw [key]
      cases decide (bd[0]?.getD 0 = 78) <;> cases noughtsB r <;> cases mayN (ndN bd) <;> rfl
  · have hc : capN bd = 6 := by unfold capN; omega
    have h1 : rdR bd = false := by
      unfold rdR
      rw [hc]
      cases hct : cutTo (bd.drop 3) 6 with
      | none => rfl
      | some p =>
        obtain ⟨l, r⟩ := p
        have hL : cutL (bd.drop 3) 6 = l := by simp [cutL, hct]
        obtain ⟨_, c2, _⟩ := cutTo_bytes hct
        have : mayN (ndR bd) = false := mayN_shape (fun hh => by
          have := hh.2.2.1
          rw [ndR, hc, hL] at this
          simp only at this
          omega)
        rw [this]
        rfl
    have h2 : rdN bd = false := by
      unfold rdN
      cases hct : cutTo (bd.drop 3) (manyN bd) with
      | none => simp
      | some p =>
        obtain ⟨l, r⟩ := p
        have hL : cutL (bd.drop 3) (manyN bd) = l := by simp [cutL, hct]
        obtain ⟨_, c2, _⟩ := cutTo_bytes hct
        have : mayN (ndN bd) = false := mayN_shape (fun hh => by
          have := hh.2.2.1
          rw [ndN, hL] at this
          simp only at this
          omega)
        rw [this]
        simp
    exact ⟨by rw [h1, h2], fun h => by rw [h1] at h; cases h⟩
end Go.Proofs.YtjlbkcnhbndgbaaGreat

/-
  The document's answers of layer 6: Read. Conditions: those that each lemma states.
-/
namespace Go.Proofs.YtjlbkcnhbndgbaaGreat
open Go.RowKit

theorem reN_ref {b : List UInt8} (h : oe b = 0) : reN b = (if rdR (ob b) then 0 else 8) ∧ reV b = (if rdR (ob b) then ndR (ob b) else zeroN) := by
  obtain ⟨_, _, _, h124⟩ := oe_zeroN h
  obtain ⟨e1, e2⟩ := rdR_eq h124
  cases e : rdR (ob b) with
  | true => exact ⟨(reN_good h (by rw [← e1, e])).1, by rw [(reN_good h (by rw [← e1, e])).2, ← e2 e]; rfl⟩
  | false => exact ⟨(reN_bad h (by rw [← e1, e])).1, (reN_bad h (by rw [← e1, e])).2⟩

set_option maxRecDepth 100000 in
set_option maxHeartbeats 8000000 in
theorem refReadN_any (v : Value) (b : List UInt8) (w : World) (h : rBy (Old w) w [v] b) :
    Calls Tryz.prog 67 #[v] w fun e w' => ∃ u, e = .returned (.tuple #[u, .int .i64 (reN b)]) ∧ Nod (New w.heap.size w') w' u (reV b) ∧ Below w.heap.size w w' := by
  obtain ⟨A, c, rfl, l1, m1, hy⟩ := rBy_byt (B := w.heap.size) (fun p hp => hp) h
  obtain ⟨n, hn⟩ : ∃ n, b.length = n := ⟨_, rfl⟩
  rw [hn] at l1 ⊢
  replace hn := Lib.hid hn
  obtain ⟨w0, hw0, b0, hs0, hB0⟩ := box_pair' w (.int .i64 0) (.slice none 0 0) 47
  have lt0 : w.heap.size < w0.heap.size := by omega
  have HB0 := Lib.hid hB0
  have HY := Lib.hid ((hy.below hB0).more hB0.size)
  have hzero : Hid (∀ (er : Int) (W : World), reN b = er ∧ reV b = zeroN → Below w0.heap.size w0 W → ∃ W9, (W.setCell ⟨w.heap.size, 0, none⟩ (.int .i64 0)).setCell ⟨w.heap.size, 1, none⟩ (.slice none 0 0) = W9 ∧ W9.cell? ⟨w.heap.size, 0, none⟩ = some (.int .i64 0) ∧ W9.cell? ⟨w.heap.size, 1, none⟩ = some (.slice none 0 0) ∧ (∀ o, W.frozen? ⟨w.heap.size, o, none⟩ = false) ∧ W.cell? ⟨w.heap.size, 0, none⟩ = some (.int .i64 0) ∧ W.cell? ⟨w.heap.size, 1, none⟩ = some (.slice none 0 0) ∧
      (∃ u, Ending.returned (.tuple #[.agg #[.int .i64 0, .slice none 0 0], .int .i64 er]) = .returned (.tuple #[u, .int .i64 (reN b)]) ∧ Nod (New w.heap.size W9) W9 u (reV b) ∧ Below w.heap.size w W9)) := Lib.hid fun er W hre hW => by
    have bW := (hW.block w.heap.size lt0).trans b0
    obtain ⟨W9, e9, g9, gr9, gs9⟩ := put_two (u := .int .i64 0) (v := .slice none 0 0) bW
    obtain ⟨k0, k1, kf, _⟩ := two_cells g9
    obtain ⟨y0, y1, yf, _⟩ := two_cells bW
    have hBW := HB0.out.trans (hW.mono HB0.out.size)
    exact ⟨W9, e9, k0, k1, yf, y0, y1, _, by rw [hre.1], by rw [hre.2]; exact nod_zero _ _, hBW.grown gr9 hBW.size (fun q e => by cases e; omega)⟩
  replace b0 := Lib.hid b0
  replace hw0 := Lib.hid hw0
  clear hB0 hs0 h hy
  go_enter Tryz.func67, Tryz.ntmps67
  go_upto_region 1 with fail
  rw [hw0.out]
  clear hw0
  go_wp2_with fail
  with_reducible refine (openRef_any A n c b hn l1 m1 _ HY.out).mono ?_
  rintro e1 w1 ⟨v1, rfl, ho1, hb1⟩
  have B1 := Lib.hid hb1
  have hBW1 := Lib.hid (show w.heap.size ≤ w1.heap.size from Nat.le_trans (Nat.le_of_lt lt0) hb1.size)
  obtain ⟨er, hoe⟩ : ∃ er, oe b = er := ⟨_, rfl⟩
  rw [hoe]
  by_cases h0 : er = 0
  case neg =>
    have t0 : (er != 0) = true := by simpa using h0
    obtain ⟨W9, e9, k0, k1, yf, y0, y1, hfin⟩ := hzero.out er w1 (by rw [← hoe]; exact reN_open (by rw [hoe]; exact h0)) B1.out
    replace hfin := Lib.hid hfin
    replace h0 := Lib.hid h0
    replace hoe := Lib.hid hoe
    clear ho1 hb1
    go_wp2_with fail
    exact bodyPost_ret (v := .tuple #[.agg #[.int .i64 0, .slice none 0 0], .int .i64 er]) (by simp [results, Tryz.results67, go_sem, k0, k1]) rfl hfin.out
  subst h0
  obtain ⟨hlen, hfits, hob, hl124⟩ := oe_zeroN hoe
  have hre := reN_ref hoe
  have hr1 := own_by ho1
  obtain ⟨bd, hbd⟩ : ∃ bd, ob b = bd := ⟨_, rfl⟩
  rw [hbd] at hr1 hre hl124
  have HZ : Hid (∀ W, rdR bd = false → Below w0.heap.size w0 W → _) := Lib.hid (fun W h hW => hzero.out 8 W (by rw [hre.1, hre.2, h]; exact ⟨rfl, rfl⟩) hW)
  have HG : Hid (rdR bd = true → reN b = 0 ∧ reV b = ndR bd) := Lib.hid (fun h => by rw [hre.1, hre.2, h]; exact ⟨rfl, rfl⟩)
  replace hbd := Lib.hid hbd
  obtain ⟨Q, cq, rfl, n1, n2, hcell⟩ := rBy_open hr1
  rw [hl124] at n1 hcell hr1 ⊢
  obtain ⟨ad, rfl, hn0, hc0⟩ := hcell 0 (by omega)
  obtain ⟨_, e, hn1', hc1⟩ := hcell 1 (by omega)
  cases e
  obtain ⟨_, e, hn2', hc2⟩ := hcell 2 (by omega)
  cases e
  have z0 : w1.cell? ad = some (.int .u8 ((bd[0]?.getD 0).toNat : Int)) := by simpa [Addr.add] using hc0
  have z1 : w1.cell? ⟨ad.block, ad.off + 1, none⟩ = some (.int .u8 ((bd[1]?.getD 0).toNat : Int)) := by simpa [Addr.add] using hc1
  have z2 : w1.cell? ⟨ad.block, ad.off + 2, none⟩ = some (.int .u8 ((bd[2]?.getD 0).toNat : Int)) := by simpa [Addr.add] using hc2
  have ltb : ad.block < w1.heap.size := World.block_lt_of_cell? _ _ z0
  have hbody := Lib.hid (stab_by.drop hr1)
  have hrest := rBy_rest hbody.out 3 (by omega)
  have had3 : ad.add 3 = ⟨ad.block, ad.off + 3, none⟩ := by simp [Addr.add]
  rw [had3] at hrest
  replace hrest : Hid (rBy (Old w1) w1 [.slice (some ⟨ad.block, ad.off + 3, none⟩) 121 (cq - 3)] (bd.drop 3)) := Lib.hid hrest
  have hl := Lib.hid hl124
  replace hoe := Lib.hid hoe
  clear hre hfits hob hlen hc0 hc1 hc2 hn0 hn1' hn2' ho1 hb1 hcell hl124 hzero hr1 z0
  have hrd : Hid (rdR bd = ((cutTo (bd.drop 3) (capN bd)).isSome && (mayN (ndR bd) && samB bd (toldN (ndR bd))))) := Lib.hid rfl
  obtain ⟨lv, hlv⟩ : ∃ lv, lvlN bd = lv := ⟨_, rfl⟩
  have hlin := lvlN_in bd
  rw [hlv] at hlin
  have z1' : w1.cell? ⟨ad.block, ad.off + 1, none⟩ = some (.int .u8 lv) := by rw [← hlv]; exact z1
  have hlw : IntKind.i64.wrap lv = lv := IntWalk.i64_in _ ⟨hlin.1, hlin.2⟩
  obtain ⟨mn, hmn⟩ : ∃ m, manyN bd = m := ⟨_, rfl⟩
  have hmlt := manyN_lt bd
  rw [hmn] at hmlt
  have hcap := Lib.hid (show capN bd = min mn 6 by rw [← hmn]; rfl)
  have z2' : w1.cell? ⟨ad.block, ad.off + 2, none⟩ = some (.int .u8 (mn : Int)) := by rw [← hmn]; exact z2
  have hwm : IntKind.i64.wrap (mn : Int) = (mn : Int) := IntWalk.i64_in _ (by omega)
  replace hmn := Lib.hid hmn
  replace hlv := Lib.hid hlv
  replace hlin := Lib.hid hlin
  obtain ⟨w2, hw2, g2, hs2, hB2⟩ := box_pair' w1 (.int .i64 lv) (.slice none 0 0) 47
  obtain ⟨e20, e21, e22, lt2⟩ := two_cells g2
  obtain ⟨w3, hw3, g3, gr3, gs3⟩ := put_snd (u := .slice none 0 0) g2
  have hB3 := Lib.hid (hB2.grown gr3 hB2.size (fun q e => by cases e; omega))
  have s23 := Lib.hid gs3
  replace g3 := Lib.hid g3
  replace hs2 := Lib.hid hs2
  have c3 : ¬ cq = 3 := by omega
  have c4 : (3 : Int) ≤ cq := by omega
  clear z1 z2 gr3 gs3
  go_upto_region 5 with fail
  clear hw2 hw3 e20 e21 e22 z1'
  go_wp2_with fail
  go_loopw [7, 8] (fun q i wr => ∃ (k : Nat) (l : List It) (r : List UInt8) (A1 : Option Addr) (c1 : Nat), k ≤ min mn 6 ∧ i = .int .i64 k ∧ l.length = k ∧ cutTo (bd.drop 3) k = some (l, r) ∧ rBy (Old w1) w1 [q] r ∧ wr.heap[w1.heap.size]? = some (.cells #[.int .i64 lv, .slice A1 k c1] 47 (0, 0)) ∧ RowOf rIt 5 110 w3.heap.size wr A1 c1 l ∧ Below w1.heap.size w1 wr ∧ w3.heap.size ≤ wr.heap.size) (fun _ i _ => 7 - (intOf i).toNat)
  case atStart => exact ⟨0, [], bd.drop 3, none, 0, by omega, rfl, rfl, rfl, hrest.out, g3.out, RowOf.nil _ _ _ _ _, hB3.out, Nat.le_refl _⟩
  case round =>
    obtain ⟨k, l, r, A1, c1, hk, rfl, hll, hcut, hq, hz, hrow, hb, hsz⟩ := hrel
    obtain ⟨r2, r3, r4, r5⟩ := two_cells hz
    have y2 := (hb.cell (p := ⟨ad.block, ad.off + 2, none⟩) ltb).trans z2'
    replace hrow := Lib.hid hrow
    replace hcut := Lib.hid hcut
    replace hll := Lib.hid hll
    have hz' := Lib.hid hz
    replace hb := Lib.hid hb
    obtain ⟨R0, cr, rfl, n3, n4, _⟩ := id (rBy_open hq)
    obtain ⟨nq, hnq⟩ : ∃ n, r.length = n := ⟨_, rfl⟩
    rw [hnq] at n3 hq ⊢
    replace hnq := Lib.hid hnq
    replace hq := Lib.hid hq
    have hqr := Lib.hid (stab_by.old hq.out hb.out)
    have BR := Lib.hid (B1.out.trans (hb.out.mono B1.out.size))
    clear hz
    by_cases hlt : k < mn ∧ k ≤ 5
    case neg =>
      have hcapk : capN bd = k := by rw [hcap.out]; omega
      by_cases hlt1 : k < mn
      · have i1 : (k : Int) < mn := by omega
        have i2 : ¬ (k : Int) ≤ 5 := by omega
        have hL := Lib.hid (show cutL (bd.drop 3) (capN bd) = l by rw [hcapk]; simp [cutL, hcut.out])
        have hsome := Lib.hid (show (cutTo (bd.drop 3) (capN bd)).isSome = true by rw [hcapk, hcut.out]; rfl)
        have hnd := Lib.hid (show ndR bd = (lv, l) by rw [ndR, hL.out, hlv.out])
        have hN0 : Nod (New w3.heap.size wr) wr (.agg #[.int .i64 lv, .slice A1 k c1]) (lv, l) := ⟨_, rfl, hlin.out, by
          have h1 := hrow.out.rel stab_it
          rwa [hll.out] at h1⟩
        have HN0 := Lib.hid hN0
        replace hcapk := Lib.hid hcapk
        clear hN0
        go_wp2_with fail
        with_reducible refine (refMayN_any _ (lv, l) _ HN0.out.drop).mono ?_
        rintro e5 w5 ⟨rfl, hb5⟩
        have B5 := Lib.hid (BR.out.trans (hb5.mono BR.out.size))
        have HN5 := Lib.hid (HN0.out.new (Nat.le_refl _) hb5)
        have t2 := (hb5.cell (p := ⟨w1.heap.size, 0, none⟩) r5).trans r2
        have t3 := (hb5.cell (p := ⟨w1.heap.size, 1, none⟩) r5).trans r3
        have t5 : w1.heap.size < w5.heap.size := Nat.lt_of_lt_of_le r5 hb5.size
        have C5 := Lib.hid (hb.out.trans (hb5.mono hb.out.size))
        clear hb5 r2 r3 r4 y2
        rcases bool_two (mayN (lv, l)) with hm | hm
        · obtain ⟨W9, e9, k0, k1, yf, u0, u1, hfin⟩ := HZ.out w5 (by rw [hrd.out, hnd.out, hm]; simp) B5.out
          replace hfin := Lib.hid hfin
          rw [hm]
          replace hm := Lib.hid hm
          go_wp2_with fail
          exact bodyPost_ret (v := .tuple #[.agg #[.int .i64 0, .slice none 0 0], .int .i64 8]) (by simp [results, Tryz.results67, go_sem, k0, k1]) rfl hfin.out
        rw [hm]
        have hm' := Lib.hid hm
        clear hm
        go_wp2_with fail
        with_reducible refine (refTold_ok _ (lv, l) _ HN5.out.drop hm'.out).mono ?_
        rintro e6 w6 ⟨u6, rfl, hu6, hb6⟩
        obtain ⟨U, cu, rfl, g6, g6', hyu⟩ := rBy_byt (B := w6.heap.size) (fun p hp => hp.2.1) hu6
        obtain ⟨tl, htl⟩ : ∃ q, (toldN (lv, l)).length = q := ⟨_, rfl⟩
        rw [htl] at g6 ⊢
        replace htl := Lib.hid htl
        have B6 := Lib.hid (B5.out.trans (hb6.mono B5.out.size))
        have C6 := Lib.hid (C5.out.trans (hb6.mono C5.out.size))
        have HN6 := Lib.hid (HN5.out.new (Nat.le_refl _) hb6)
        have s2 := (hb6.cell (p := ⟨w1.heap.size, 0, none⟩) t5).trans t2
        have s3 := (hb6.cell (p := ⟨w1.heap.size, 1, none⟩) t5).trans t3
        have s5 : w1.heap.size < w6.heap.size := Nat.lt_of_lt_of_le t5 hb6.size
        have HYU := Lib.hid hyu
        have HYB : Hid (Byt w6 w6.heap.size (some ad) bd) := Lib.hid (by
          obtain ⟨_, _, e, _, _, h⟩ := rBy_byt (B := w6.heap.size) (fun p hp => hp) (stab_by.old hbody.out C6.out)
          rw [hl.out] at e
          cases e
          exact h)
        clear hu6 hb6 hyu t2 t3 t5
        go_wp2_with fail
        with_reducible refine (refSamN_any (some ad) U 124 cq tl cu bd (toldN (lv, l)) hl htl n1 n2 g6 g6' _ HYB.out HYU.out).mono ?_
        rintro e7 w7 ⟨rfl, hb7⟩
        have B7 := Lib.hid (B6.out.trans (hb7.mono B6.out.size))
        have HN7 := Lib.hid (HN6.out.new (Nat.le_refl _) hb7)
        have t2 := (hb7.cell (p := ⟨w1.heap.size, 0, none⟩) s5).trans s2
        have t3 := (hb7.cell (p := ⟨w1.heap.size, 1, none⟩) s5).trans s3
        clear hb7 s2 s3
        rcases bool_two (samB bd (toldN (lv, l))) with hz | hz
        · obtain ⟨W9, e9, k0, k1, yf, u0, u1, hfin⟩ := HZ.out w7 (by rw [hrd.out, hnd.out, hz]; simp) B7.out
          replace hfin := Lib.hid hfin
          rw [hz]
          replace hz := Lib.hid hz
          go_wp2_with fail
          exact bodyPost_ret (v := .tuple #[.agg #[.int .i64 0, .slice none 0 0], .int .i64 8]) (by simp [results, Tryz.results67, go_sem, k0, k1]) rfl hfin.out
        · have hgood := Lib.hid (HG.out (by rw [hrd.out, hnd.out, hz, hm'.out, hsome.out]; rfl))
          have bW := (B7.out.block w.heap.size lt0).trans b0.out
          obtain ⟨W9, e9, g9, gr9, gs9⟩ := put_two (u := .int .i64 lv) (v := .slice A1 k c1) bW
          obtain ⟨k0, k1, kf, _⟩ := two_cells g9
          obtain ⟨u0, u1, yf, _⟩ := two_cells bW
          have hBW := HB0.out.trans (B7.out.mono HB0.out.size)
          have hlt3 : w.heap.size < w3.heap.size := Nat.lt_of_lt_of_le lt0 (Nat.le_trans B1.out.size hB3.out.size)
          have hfin : Hid (Nod (New w.heap.size W9) W9 (.agg #[.int .i64 lv, .slice A1 k c1]) (reV b) ∧ Below w.heap.size w W9) := Lib.hid ⟨by
            rw [hgood.out.2, hnd.out]
            exact (HN7.out.grown gr9 (fun q e => by cases e; exact hlt3)).map fun p v hp hc => ⟨⟨Nat.le_trans (Nat.le_of_lt hlt3) hp.1, hp.2⟩, hc⟩, hBW.grown gr9 hBW.size (fun q e => by cases e; omega)⟩
          rw [hz]
          replace hz := Lib.hid hz
          replace bW := Lib.hid bW
          replace g9 := Lib.hid g9
          clear gr9
          go_wp2_with fail
          exact bodyPost_ret (v := .tuple #[.agg #[.int .i64 lv, .slice A1 k c1], .int .i64 0]) (by simp [results, Tryz.results67, go_sem, k0, k1]) rfl ⟨_, by rw [hgood.out.1], hfin.out.1, hfin.out.2⟩
      · have i1 : ¬ (k : Int) < mn := by omega
        have hL := Lib.hid (show cutL (bd.drop 3) (capN bd) = l by rw [hcapk]; simp [cutL, hcut.out])
        have hsome := Lib.hid (show (cutTo (bd.drop 3) (capN bd)).isSome = true by rw [hcapk, hcut.out]; rfl)
        have hnd := Lib.hid (show ndR bd = (lv, l) by rw [ndR, hL.out, hlv.out])
        have hN0 : Nod (New w3.heap.size wr) wr (.agg #[.int .i64 lv, .slice A1 k c1]) (lv, l) := ⟨_, rfl, hlin.out, by
          have h1 := hrow.out.rel stab_it
          rwa [hll.out] at h1⟩
        have HN0 := Lib.hid hN0
        replace hcapk := Lib.hid hcapk
        clear hN0
        go_wp2_with fail
        with_reducible refine (refMayN_any _ (lv, l) _ HN0.out.drop).mono ?_
        rintro e5 w5 ⟨rfl, hb5⟩
        have B5 := Lib.hid (BR.out.trans (hb5.mono BR.out.size))
        have HN5 := Lib.hid (HN0.out.new (Nat.le_refl _) hb5)
        have t2 := (hb5.cell (p := ⟨w1.heap.size, 0, none⟩) r5).trans r2
        have t3 := (hb5.cell (p := ⟨w1.heap.size, 1, none⟩) r5).trans r3
        have t5 : w1.heap.size < w5.heap.size := Nat.lt_of_lt_of_le r5 hb5.size
        have C5 := Lib.hid (hb.out.trans (hb5.mono hb.out.size))
        clear hb5 r2 r3 r4 y2
        rcases bool_two (mayN (lv, l)) with hm | hm
        · obtain ⟨W9, e9, k0, k1, yf, u0, u1, hfin⟩ := HZ.out w5 (by rw [hrd.out, hnd.out, hm]; simp) B5.out
          replace hfin := Lib.hid hfin
          rw [hm]
          replace hm := Lib.hid hm
          go_wp2_with fail
          exact bodyPost_ret (v := .tuple #[.agg #[.int .i64 0, .slice none 0 0], .int .i64 8]) (by simp [results, Tryz.results67, go_sem, k0, k1]) rfl hfin.out
        rw [hm]
        have hm' := Lib.hid hm
        clear hm
        go_wp2_with fail
        with_reducible refine (refTold_ok _ (lv, l) _ HN5.out.drop hm'.out).mono ?_
        rintro e6 w6 ⟨u6, rfl, hu6, hb6⟩
        obtain ⟨U, cu, rfl, g6, g6', hyu⟩ := rBy_byt (B := w6.heap.size) (fun p hp => hp.2.1) hu6
        obtain ⟨tl, htl⟩ : ∃ q, (toldN (lv, l)).length = q := ⟨_, rfl⟩
        rw [htl] at g6 ⊢
        replace htl := Lib.hid htl
        have B6 := Lib.hid (B5.out.trans (hb6.mono B5.out.size))
        have C6 := Lib.hid (C5.out.trans (hb6.mono C5.out.size))
        have HN6 := Lib.hid (HN5.out.new (Nat.le_refl _) hb6)
        have s2 := (hb6.cell (p := ⟨w1.heap.size, 0, none⟩) t5).trans t2
        have s3 := (hb6.cell (p := ⟨w1.heap.size, 1, none⟩) t5).trans t3
        have s5 : w1.heap.size < w6.heap.size := Nat.lt_of_lt_of_le t5 hb6.size
        have HYU := Lib.hid hyu
        have HYB : Hid (Byt w6 w6.heap.size (some ad) bd) := Lib.hid (by
          obtain ⟨_, _, e, _, _, h⟩ := rBy_byt (B := w6.heap.size) (fun p hp => hp) (stab_by.old hbody.out C6.out)
          rw [hl.out] at e
          cases e
          exact h)
        clear hu6 hb6 hyu t2 t3 t5
        go_wp2_with fail
        with_reducible refine (refSamN_any (some ad) U 124 cq tl cu bd (toldN (lv, l)) hl htl n1 n2 g6 g6' _ HYB.out HYU.out).mono ?_
        rintro e7 w7 ⟨rfl, hb7⟩
        have B7 := Lib.hid (B6.out.trans (hb7.mono B6.out.size))
        have HN7 := Lib.hid (HN6.out.new (Nat.le_refl _) hb7)
        have t2 := (hb7.cell (p := ⟨w1.heap.size, 0, none⟩) s5).trans s2
        have t3 := (hb7.cell (p := ⟨w1.heap.size, 1, none⟩) s5).trans s3
        clear hb7 s2 s3
        rcases bool_two (samB bd (toldN (lv, l))) with hz | hz
        · obtain ⟨W9, e9, k0, k1, yf, u0, u1, hfin⟩ := HZ.out w7 (by rw [hrd.out, hnd.out, hz]; simp) B7.out
          replace hfin := Lib.hid hfin
          rw [hz]
          replace hz := Lib.hid hz
          go_wp2_with fail
          exact bodyPost_ret (v := .tuple #[.agg #[.int .i64 0, .slice none 0 0], .int .i64 8]) (by simp [results, Tryz.results67, go_sem, k0, k1]) rfl hfin.out
        · have hgood := Lib.hid (HG.out (by rw [hrd.out, hnd.out, hz, hm'.out, hsome.out]; rfl))
          have bW := (B7.out.block w.heap.size lt0).trans b0.out
          obtain ⟨W9, e9, g9, gr9, gs9⟩ := put_two (u := .int .i64 lv) (v := .slice A1 k c1) bW
          obtain ⟨k0, k1, kf, _⟩ := two_cells g9
          obtain ⟨u0, u1, yf, _⟩ := two_cells bW
          have hBW := HB0.out.trans (B7.out.mono HB0.out.size)
          have hlt3 : w.heap.size < w3.heap.size := Nat.lt_of_lt_of_le lt0 (Nat.le_trans B1.out.size hB3.out.size)
          have hfin : Hid (Nod (New w.heap.size W9) W9 (.agg #[.int .i64 lv, .slice A1 k c1]) (reV b) ∧ Below w.heap.size w W9) := Lib.hid ⟨by
            rw [hgood.out.2, hnd.out]
            exact (HN7.out.grown gr9 (fun q e => by cases e; exact hlt3)).map fun p v hp hc => ⟨⟨Nat.le_trans (Nat.le_of_lt hlt3) hp.1, hp.2⟩, hc⟩, hBW.grown gr9 hBW.size (fun q e => by cases e; omega)⟩
          rw [hz]
          replace hz := Lib.hid hz
          replace bW := Lib.hid bW
          replace g9 := Lib.hid g9
          clear gr9
          go_wp2_with fail
          exact bodyPost_ret (v := .tuple #[.agg #[.int .i64 lv, .slice A1 k c1], .int .i64 0]) (by simp [results, Tryz.results67, go_sem, k0, k1]) rfl ⟨_, by rw [hgood.out.1], hfin.out.1, hfin.out.2⟩
    obtain ⟨hlt1, hlt2⟩ := hlt
    have i1 : (k : Int) < mn := by omega
    have i2 : (k : Int) ≤ 5 := by omega
    go_wp2_with fail
    with_reducible refine (refReadI_any _ r _ hqr.out).mono ?_
    rintro e3 w4 ⟨u3, rfl, hu3, hb3⟩
    obtain ⟨D, dc, rfl, hin, _, _, hby⟩ := id hu3.open
    obtain ⟨w5, hw5, s0, s1, s2, s3, s4, hs4, hb4, b4⟩ := box_five w4 (.int .u8 ((itR r).1.1.toNat : Int)) (.int .u32 (itR r).1.2.1) (.int .u32 (itR r).1.2.2) (.int .i64 (itR r).2.1) (.slice D (itR r).2.2.length dc) 110
    have C4 := Lib.hid (hb3.trans (hb4.mono hb3.size))
    have B4 := Lib.hid (hb.out.trans (C4.out.mono hb.out.size))
    have hI4 := Lib.hid (hu3.new (Nat.le_refl _) hb4)
    obtain ⟨x, hx⟩ : ∃ x, itR r = x := ⟨_, rfl⟩
    rw [hx] at hin s0 s1 s2 s3 s4 b4 hI4 hw5 ⊢
    replace hs4 := Lib.hid hs4
    replace hx := Lib.hid hx
    have x3 := (C4.out.cell (p := ⟨w1.heap.size, 1, none⟩) r5).trans r3
    clear hb3 hb4 hu3 hby r2 r3 r4
    unfold itV at *
    go_upto_region 10 with fail
    clear hw5
    rcases bool_ways (okR r) with hok | hok
    · have hE := Lib.hid (show itE r = 8 by simp [itE, hok])
      have hno := Lib.hid (cutTo_none (cutTo_no hcut.out hok) (show k + 1 ≤ capN bd by rw [hcap.out]; omega))
      obtain ⟨W9, e9, k0, k1, yf, u0, u1, hfin⟩ := HZ.out w5 (by rw [hrd.out, hno.out]; rfl) (B1.out.trans (B4.out.mono B1.out.size))
      replace hfin := Lib.hid hfin
      rw [hE.out]
      replace hok := Lib.hid hok
      go_wp2_with fail
      exact bodyPost_ret (v := .tuple #[.agg #[.int .i64 0, .slice none 0 0], .int .i64 8]) (by simp [results, Tryz.results67, go_sem, k0, k1]) rfl hfin.out
    have hE := Lib.hid (show itE r = 0 by simp [itE, hok])
    obtain ⟨m, hm1, hm2, hm3, hm4⟩ := read_itB hok
    have hyes := cutTo_yes hcut.out hok
    rw [hm1, show ((m : Int)).toNat = m by omega, hx.out] at hyes
    have hrl : 12 ≤ nq := by have := okC_yes (okR_fields hok).1; have := hnq.out; omega
    rw [hnq.out] at hm2
    rw [hE.out, hm1]
    replace hyes := Lib.hid hyes
    replace hok := Lib.hid hok
    clear hm1 hm3 hm4
    obtain ⟨w6, hw6, _, _, _, _, _, hs5, hb5, b5⟩ := box_five w5 (.int .u8 (x.1.1.toNat : Int)) (.int .u32 x.1.2.1) (.int .u32 x.1.2.2) (.int .i64 x.2.1) (.slice D x.2.2.length dc) 110
    have C5 := C4.out.trans (hb5.mono C4.out.size)
    have hI5 := hI4.out.new (Nat.le_refl _) hb5
    have hx5 : rBy (NewBut w3.heap.size A1 w6) w6 [.slice D x.2.2.length dc] x.2.2 := by
      obtain ⟨d, e, _, hd⟩ := hI5
      have ed : d = .slice D x.2.2.length dc := by injection e with e; simpa using e.symm
      subst ed
      exact stab_by _ _ _ _ _ _ (fun p v hp hc => ⟨hrow.out.but (Nat.le_refl _) hsz hp, hc⟩) hd
    have row5 := RowOf.below stab_it hrow.out C5
    obtain ⟨A2, c2, w7, hr2, row7, _, ba7⟩ := its_push row5 w5.heap.size x _ 1 k hll.out b5 (by omega) (Nat.le_trans hsz C5.size) hin hx5
    have s23' := s23.out
    have lt12 : w1.heap.size < w3.heap.size := by omega
    have g7 := (ba7.block w1.heap.size lt12).trans ((C5.block w1.heap.size r5).trans hz'.out)
    obtain ⟨w8, hw8, g8, gr8, gs8⟩ := put_snd (u := .slice A2 (k + 1) c2) g7
    have row8 := Lib.hid (RowOf.grown stab_it row7 gr8 (fun q e => by cases e; omega))
    have hb7 : Below w1.heap.size w1 w7 := (hb.out.trans (C5.mono hb.out.size)).trans (ba7.mono (Nat.le_of_lt lt12))
    have hb8 := Lib.hid (hb7.grown gr8 hb7.size (fun q e => by cases e; omega))
    have sz8 := Lib.hid (show w3.heap.size ≤ w8.heap.size by rw [gs8]; exact Nat.le_trans (Nat.le_trans hsz C5.size) ba7.size)
    obtain ⟨y5, y6, y7, y8⟩ := two_cells g7
    have H2 := Lib.hid hr2
    have hll2 := Lib.hid (show (l ++ [x]).length = k + 1 by simp [hll.out])
    obtain ⟨qa, rfl⟩ : ∃ qa, R0 = some qa := by
      obtain ⟨_, _, e, _, _, h4⟩ := rBy_open hq.out
      cases e
      obtain ⟨qa, e, _⟩ := h4 0 (by have := hnq.out; omega)
      exact ⟨qa, e⟩
    have hrest2 := Lib.hid (rBy_rest hq.out m (by rw [hnq.out]; exact hm2))
    have hnil : Hid (m = nq → ∀ ok, rBy ok w1 [.slice (some qa) 0 0] (r.drop m)) := Lib.hid fun e ok => by
      rw [List.drop_of_length_le (by rw [hnq.out]; omega)]
      exact rBy_part0 _ _ _
    replace hs5 := Lib.hid hs5
    replace b5 := Lib.hid b5
    replace hI5 := Lib.hid hI5
    replace g8 := Lib.hid g8
    replace g7 := Lib.hid g7
    clear hr2 row7 gr8 ba7 hb7 gs8 hx5 row5 C5 hb5 hin s23'
    have d1 : (0 : Int) ≤ (m : Int) := by omega
    have d2 : (m : Int) ≤ cr := by omega
    have d3 : (m : Int) ≤ nq := by omega
    by_cases hmc : m = cr
    · go_wp2_with (at_builtin; refine wpList_append_run rfl _ _ _ rfl rfl rfl H2.out ?_; clear H2)
      go_roundw
      case rel => exact ⟨k + 1, l ++ [x], r.drop m, A2, c2, by omega, by go_num, hll2.out, hyes.out, hnil.out (by omega) _, g8.out, row8.out, hb8.out, sz8.out⟩
      case measure => simp [intOf]; omega
    · go_wp2_with (at_builtin; refine wpList_append_run rfl _ _ _ rfl rfl rfl H2.out ?_; clear H2)
      go_roundw
      case rel => exact ⟨k + 1, l ++ [x], r.drop m, A2, c2, by omega, by go_num, hll2.out, hyes.out, hrest2.out, g8.out, row8.out, hb8.out, sz8.out⟩
      case measure => simp [intOf]; omega
end Go.Proofs.YtjlbkcnhbndgbaaGreat

/-
  The document's answers of layer 8: Read, Node. Conditions: those that each lemma states.
-/
namespace Go.Proofs.YtjlbkcnhbndgbaaGreat
open Go.RowKit

theorem reV_zero {b : List UInt8} (h : reN b ≠ 0) : reV b = zeroN := by
  unfold reN at h
  unfold reV
  by_cases h0 : oe b = 0
  · rw [if_pos h0] at h ⊢
    by_cases h1 : rdN (ob b) = true
    · rw [if_pos h1] at h; exact absurd rfl h
    · rw [if_neg h1]
  · rw [if_neg h0]
theorem reN_ways {b : List UInt8} (hb : b.length = 128) : reN b = 0 ∨ reN b = 8 := by
  unfold reN
  by_cases h0 : oe b = 0
  · rw [if_pos h0]
    by_cases h1 : rdN (ob b) = true
    · rw [if_pos h1]; exact .inl rfl
    · rw [if_neg h1]; exact .inr rfl
  · rw [if_neg h0]
    unfold oe at h0 ⊢
    rw [if_pos hb] at h0 ⊢
    split
    · rename_i h; rw [if_pos h] at h0; exact absurd rfl h0
    · exact .inr rfl
theorem seen_128 {d : Dk} {k : Nat} (hm : mayB d = true) (hk : k < 256) : (seenD d k).length = 128 := by
  obtain ⟨h1, _, h3, h4⟩ := may_of hm
  unfold seenD
  have e : d.1[k]? = some (d.1[k]'(by omega)) := List.getElem?_eq_getElem _
  refine seenW_length (h3 k _ (by rw [e]; rfl)) fun x hx => ?_
  obtain ⟨i, hi⟩ := List.getElem?_of_mem hx
  exact (h4 i x hi).2.2
set_option maxRecDepth 100000 in
set_option maxHeartbeats 4000000 in
theorem refReadR_ok (v : Value) (s : Rm) (k : Nat) (ha : asE s (k : Int) = 0) (w : World) (h : Sto (Old w) w v s) :
    Calls Tryz.prog 41 #[v, .int .i64 k] w fun e w' => ∃ u, e = .returned (.tuple #[u, .bool (reN (seenD s.1 k) == 0)]) ∧ Nod (New w.heap.size w') w' u (reV (seenD s.1 k)) ∧ Below w.heap.size w w' := by
  obtain ⟨k', hk', hm, h8, h256, -, -, -, -, hx0⟩ := as_read ha
  obtain rfl : k' = k := by omega
  obtain ⟨A, ca, B, cb, N, cn, L, cl, rfl, _, _, _⟩ := h.open
  obtain ⟨w1, hw1, f1, f2, hsz, hB⟩ : ∃ w1, (w.alloc (.cells #[.slice A s.1.1.length ca, .slice B s.1.2.length cb, .slice N s.2.1.length cn, .slice L s.2.2.length cl] 28)).alloc (.cells #[.int .i64 0, .slice none 0 0] 47) = w1 ∧
      w1.heap[w.heap.size]? = some (.cells #[.slice A s.1.1.length ca, .slice B s.1.2.length cb, .slice N s.2.1.length cn, .slice L s.2.2.length cl] 28 (0, 0)) ∧ w1.heap[w.heap.size + 1]? = some (.cells #[.int .i64 0, .slice none 0 0] 47 (0, 0)) ∧ w1.heap.size = w.heap.size + 2 ∧ Below w.heap.size w w1 := by
    refine ⟨_, rfl, alloc_block (heap_alloc_new _ _), ?_, by simp, ((Below.refl _ w).alloc (Nat.le_refl _) _).alloc (by simp) _⟩
    have := heap_alloc_new (w.alloc (.cells #[.slice A s.1.1.length ca, .slice B s.1.2.length cb, .slice N s.2.1.length cn, .slice L s.2.2.length cl] 28)) (.cells #[.int .i64 0, .slice none 0 0] 47)
    rwa [World.size_alloc] at this
  have H := Lib.hid (h.below hB)
  clear h hk'
  obtain ⟨k0, k1, k2, k3, _, kg⟩ := four_cells f1
  obtain ⟨ad, bd, rfl, rfl, hl1, hl2, _, _, had, _, hc⟩ := tables_at hm H.out.parts.2.1 H.out.parts.2.2
  have q1 := (hc k' h256).1
  obtain ⟨x, hx⟩ : ∃ x, s.2.1[k']?.getD 0 = x := ⟨_, rfl⟩
  rw [hx] at q1 hx0
  have t0 := byte_unlike (y := 0) (q := 0) rfl hx0
  have i1 : ¬ (k' : Int) < 8 := by omega
  have i2 : ¬ 256 ≤ (k' : Int) := by omega
  have i3 : k' < s.2.1.length := by omega
  have hk1 : Hid (k' < s.1.1.length) := Lib.hid (by have := (may_of (mayR_of hm).1).1; omega)
  obtain ⟨b, hb⟩ : ∃ b, seenD s.1 k' = b := ⟨_, rfl⟩
  rw [hb]
  obtain ⟨q, hq⟩ : ∃ q, reN b = q := ⟨_, rfl⟩
  obtain ⟨V, hV⟩ : ∃ V, reV b = V := ⟨_, rfl⟩
  rw [hq, hV]
  replace hsz := Lib.hid hsz
  replace f1 := Lib.hid f1
  replace f2 := Lib.hid f2
  replace hx := Lib.hid hx
  replace hl1 := Lib.hid hl1
  replace hl2 := Lib.hid hl2
  replace hb := Lib.hid hb
  replace hq := Lib.hid hq
  replace hV := Lib.hid hV
  clear hc hx0 ha hm
  go_enter Tryz.func41, Tryz.ntmps41
  go_upto_region 1 with fail
  clear hw1
  go_wp2_with fail
  with_reducible refine (refSeen_any _ s.1 k' hk1.out _ H.out.parts.1).mono ?_
  rintro e w2 ⟨u2, rfl, h2, hb2⟩
  rw [hb.out] at h2
  have U2 := Lib.hid (stab_by.old h2 hb2)
  have B2 := Lib.hid (hB.trans (hb2.mono hB.size))
  have F2 := Lib.hid ((hb2.block (w.heap.size + 1) (by rw [hsz.out]; omega)).trans f2.out)
  have s2 : Hid (w.heap.size + 2 ≤ w2.heap.size) := Lib.hid (by have := hb2.size; have := hsz.out; omega)
  clear h2 hb2 k0 k1 k2 k3 kg q1 H
  go_wp2_with fail
  with_reducible refine (refReadN_any _ b _ U2.out).mono ?_
  rintro e w3 ⟨u3, rfl, h3, hb3⟩
  rw [hq.out]
  rw [hV.out] at h3
  obtain ⟨P, pc, rfl, _⟩ := id h3.open
  have F3 := (hb3.block (w.heap.size + 1) (by have := s2.out; omega)).trans F2.out
  obtain ⟨w4, hw4, g4, hs4, hb4⟩ := box_pair' w3 (.int .i64 V.1) (.slice P V.2.length pc) 47
  have F4 := (hb4.block (w.heap.size + 1) (by have := s2.out; have := hb3.size; omega)).trans F3
  have N4 := h3.new (Nat.le_refl _) hb4
  have B4 := B2.out.trans ((hb3.trans (hb4.mono hb3.size)).mono B2.out.size)
  obtain ⟨m0, m1, _, _⟩ := two_cells g4
  obtain ⟨c0, c1, c2, c3⟩ := two_cells F4
  obtain ⟨W9, hW9, g9, gr9, gs9⟩ := put_two (u := .int .i64 V.1) (v := .slice P V.2.length pc) F4
  obtain ⟨n0, n1, _, _⟩ := two_cells g9
  have r2 := s2.out
  have l2 := B2.out.size
  have hfin := Lib.hid (show Nod (New w.heap.size W9) W9 (.agg #[.int .i64 V.1, .slice P V.2.length pc]) V from (N4.grown gr9 (fun q e => by cases e; omega)).new l2 (Below.refl _ _))
  have hB9 := Lib.hid (B4.grown gr9 B4.size (fun q e => by cases e; omega))
  replace F4 := Lib.hid F4
  replace F3 := Lib.hid F3
  replace g4 := Lib.hid g4
  replace g9 := Lib.hid g9
  replace hs4 := Lib.hid hs4
  clear gr9 gs9 N4 h3 hb3 hb4 B4 r2 l2
  go_upto_region 4 with fail
  clear hw4
  go_wp2_with fail
  refine bodyPost_ret (v := .tuple #[.agg #[.int .i64 V.1, .slice P V.2.length pc], .bool (q == 0)]) (by simp [results, Tryz.results41, go_sem, n0, n1]) rfl ?_
  exact ⟨_, rfl, hfin.out, hB9.out⟩

set_option maxRecDepth 100000 in
set_option maxHeartbeats 4000000 in
theorem refNodeR_any (v : Value) (s : Rm) (n : Int) (w : World) (h : Sto (Old w) w v s) :
    Calls Tryz.prog 13 #[v, .int .i64 n] w fun e w' => ∃ u, e = .returned (.tuple #[u, .int .i64 (rmE s n)]) ∧ Nod (New w.heap.size w') w' u (rmV s n) ∧ Below w.heap.size w w' := by
  obtain ⟨A, ca, B, cb, N, cn, L, cl, rfl, _, _, _⟩ := h.open
  obtain ⟨w1, hw1, f1, f2, hsz, hB⟩ : ∃ w1, (w.alloc (.cells #[.slice A s.1.1.length ca, .slice B s.1.2.length cb, .slice N s.2.1.length cn, .slice L s.2.2.length cl] 28)).alloc (.cells #[.int .i64 0, .slice none 0 0] 47) = w1 ∧
      w1.heap[w.heap.size]? = some (.cells #[.slice A s.1.1.length ca, .slice B s.1.2.length cb, .slice N s.2.1.length cn, .slice L s.2.2.length cl] 28 (0, 0)) ∧ w1.heap[w.heap.size + 1]? = some (.cells #[.int .i64 0, .slice none 0 0] 47 (0, 0)) ∧ w1.heap.size = w.heap.size + 2 ∧ Below w.heap.size w w1 := by
    refine ⟨_, rfl, alloc_block (heap_alloc_new _ _), ?_, by simp, ((Below.refl _ w).alloc (Nat.le_refl _) _).alloc (by simp) _⟩
    have := heap_alloc_new (w.alloc (.cells #[.slice A s.1.1.length ca, .slice B s.1.2.length cb, .slice N s.2.1.length cn, .slice L s.2.2.length cl] 28)) (.cells #[.int .i64 0, .slice none 0 0] 47)
    rwa [World.size_alloc] at this
  have H := Lib.hid (h.below hB)
  clear h
  obtain ⟨k0, k1, k2, k3, _, kg⟩ := four_cells f1
  replace hsz := Lib.hid hsz
  replace f2 := Lib.hid f2
  obtain ⟨q, hq⟩ : ∃ q, rmE s n = q := ⟨_, rfl⟩
  by_cases ha : asE s n = 0
  · obtain ⟨k, rfl, hm, h8, h256, -, -, hE, hV, -⟩ := as_read ha
    have h08 := reN_ways (seen_128 (mayR_of hm).1 h256)
    rw [← hE, hq] at h08
    rw [hq] at hE
    have hrd := Lib.hid (fun (W : World) (hW : Sto (Old W) W (.agg #[.slice A s.1.1.length ca, .slice B s.1.2.length cb, .slice N s.2.1.length cn, .slice L s.2.2.length cl]) s) => refReadR_ok _ s k ha W hW)
    obtain ⟨V, hVV⟩ : ∃ V, reV (seenD s.1 k) = V := ⟨_, rfl⟩
    rw [← hE, hVV] at hrd
    rw [hVV] at hV
    have hz : q ≠ 0 → V = zeroN := fun h => by rw [← hVV]; exact reV_zero (by rw [← hE]; exact h)
    replace hz := Lib.hid hz
    replace hE := Lib.hid hE
    replace hVV := Lib.hid hVV
    replace hV := Lib.hid hV
    replace hq := Lib.hid hq
    have ha' := Lib.hid ha
    clear ha
    go_enter Tryz.func13, Tryz.ntmps13
    go_upto_region 1 with fail
    clear hw1
    go_wp2_with fail
    with_reducible refine (refAskedR_any _ s (k : Int) _ H.out).mono ?_
    rintro e w2 ⟨rfl, hb2⟩
    rw [ha'.out]
    have G2 := (hb2.block w.heap.size kg).trans f1
    obtain ⟨m0, m1, m2, m3, _, mg⟩ := four_cells G2
    have F2 := Lib.hid ((hb2.block (w.heap.size + 1) (by rw [hsz.out]; omega)).trans f2.out)
    have H2 := Lib.hid (H.out.below hb2)
    have s2 : Hid (w.heap.size + 2 ≤ w2.heap.size) := Lib.hid (by have := hb2.size; have := hsz.out; omega)
    replace hb2 := Lib.hid (hB.trans (hb2.mono hB.size))
    clear k0 k1 k2 k3 kg f1 hB G2
    go_wp2_with fail
    with_reducible refine (hrd.out _ H2.out).mono ?_
    rintro e w3 ⟨u3, rfl, h3, hb3⟩
    obtain ⟨P, pc, rfl, _⟩ := id h3.open
    have F3 := (hb3.block (w.heap.size + 1) (by have := s2.out; omega)).trans F2.out
    obtain ⟨w4, hw4, g4, hs4, hb4⟩ := box_pair' w3 (.int .i64 V.1) (.slice P V.2.length pc) 47
    have F4 := (hb4.block (w.heap.size + 1) (by have := s2.out; have := hb3.size; omega)).trans F3
    have N4 := h3.new (Nat.le_refl _) hb4
    have B4 := Lib.hid (hb2.out.trans ((hb3.trans (hb4.mono hb3.size)).mono hb2.out.size))
    obtain ⟨p0, p1, _, _⟩ := two_cells g4
    have r2 := s2.out
    have l2 := hb2.out.size
    rcases h08 with rfl | rfl
    · obtain ⟨c0, c1, c2, c3⟩ := two_cells F4
      obtain ⟨W9, hW9, g9, gr9, gs9⟩ := put_two (u := .int .i64 V.1) (v := .slice P V.2.length pc) F4
      obtain ⟨n0, n1, _, _⟩ := two_cells g9
      have hfin := Lib.hid (show Nod (New w.heap.size W9) W9 (.agg #[.int .i64 V.1, .slice P V.2.length pc]) V from (N4.grown gr9 (fun q e => by cases e; omega)).new l2 (Below.refl _ _))
      have hB9 := Lib.hid (B4.out.grown gr9 B4.out.size (fun q e => by cases e; omega))
      replace F4 := Lib.hid F4
      replace F3 := Lib.hid F3
      replace g4 := Lib.hid g4
      replace g9 := Lib.hid g9
      replace hs4 := Lib.hid hs4
      clear gr9 gs9 N4 h3 hb3 hb4 r2 l2
      go_upto_region 5 with fail
      clear hw4
      go_wp2_with fail
      refine bodyPost_ret (v := .tuple #[.agg #[.int .i64 V.1, .slice P V.2.length pc], .int .i64 0]) (by simp [results, Tryz.results13, go_sem, n0, n1]) rfl ?_
      rw [hq.out, hV.out]
      exact ⟨_, rfl, hfin.out, hB9.out⟩
    · have hVz : Hid (rmV s (k : Int) = zeroN) := Lib.hid (by rw [hV.out]; exact hz.out (by decide))
      obtain ⟨c0, c1, c2, c3⟩ := two_cells F4
      obtain ⟨W9, hW9, g9, gr9, gs9⟩ := put_two (u := .int .i64 0) (v := .slice none 0 0) F4
      obtain ⟨n0, n1, _, _⟩ := two_cells g9
      have hB9 := Lib.hid (B4.out.grown gr9 B4.out.size (fun q e => by cases e; omega))
      replace F4 := Lib.hid F4
      replace F3 := Lib.hid F3
      replace g4 := Lib.hid g4
      replace g9 := Lib.hid g9
      replace hs4 := Lib.hid hs4
      clear gr9 gs9 N4 h3 hb3 hb4 r2 l2
      go_upto_region 5 with fail
      clear hw4
      go_wp2_with fail
      refine bodyPost_ret (v := .tuple #[.agg #[.int .i64 0, .slice none 0 0], .int .i64 8]) (by simp [results, Tryz.results13, go_sem, n0, n1]) rfl ?_
      rw [hq.out, hVz.out]
      exact ⟨_, rfl, nod_zero _ _, hB9.out⟩
  · obtain ⟨hE, hV⟩ := rm_bad ha
    rw [hE] at hq
    have hq1 : (q != 0) = true := by rw [← hq]; simpa using ha
    have hq2 : Hid (asE s n = q) := Lib.hid hq
    replace hq : Hid (rmE s n = q) := Lib.hid (by rw [hE]; exact hq)
    replace hV := Lib.hid hV
    clear ha hE
    go_enter Tryz.func13, Tryz.ntmps13
    go_upto_region 1 with fail
    clear hw1
    go_wp2_with fail
    with_reducible refine (refAskedR_any _ s n _ H.out).mono ?_
    rintro e w2 ⟨rfl, hb2⟩
    rw [hq2.out]
    have F2 := (hb2.block (w.heap.size + 1) (by rw [hsz.out]; omega)).trans f2.out
    replace hb2 := Lib.hid (hB.trans (hb2.mono hB.size))
    obtain ⟨m0, m1, m2, m3⟩ := two_cells F2
    obtain ⟨W9, hW9, g9, gr9, gs9⟩ := put_two (u := .int .i64 0) (v := .slice none 0 0) F2
    obtain ⟨n0, n1, _, _⟩ := two_cells g9
    have hB9 := Lib.hid ((hb2).out.grown gr9 (hb2).out.size (fun q e => by cases e; omega))
    replace g9 := Lib.hid g9
    replace F2 := Lib.hid F2
    clear gr9 gs9
    go_wp2_with fail
    refine bodyPost_ret (v := .tuple #[.agg #[.int .i64 0, .slice none 0 0], .int .i64 q]) (by simp [results, Tryz.results13, go_sem, n0, n1]) rfl ?_
    rw [hV.out, hq.out]
    exact ⟨_, rfl, nod_zero _ _, hB9.out⟩
end Go.Proofs.YtjlbkcnhbndgbaaGreat

/-
  Layer 8: package room's Twin, and the document's. Conditions: those that each lemma states.
-/
namespace Go.Proofs.YtjlbkcnhbndgbaaGreat
open Go.RowKit

def SmallR (s : Rm) : Prop := Small s.1 ∧ s.2.1.length ≤ 10000 ∧ s.2.2.length ≤ 10000
theorem smallR_of_great {s : Rm} (h : greatR s = false) : SmallR s := by
  obtain ⟨h1, h2, h3⟩ := greatR_of h
  exact ⟨small_of_great h1, h2, h3⟩
theorem smallR_may {s : Rm} (h : mayR s = true) : SmallR s := by
  obtain ⟨h1, h2, h3⟩ := mayR_of h
  exact ⟨small_of_may h1, by rw [mayT_len h2]; omega, by rw [mayT_len h3]; omega⟩
theorem smallR_empty : SmallR emptyR := by
  refine ⟨small_of_great ?_, by simp [emptyR], by simp [emptyR]⟩
  rfl

/-- What stands in a box that is filled last. -/
theorem sto_fin {lo : Nat} {w1 W W9 : World} {P Q N L : Value} {s : Rm} {g : Nat} (hd : Dsk (New w1.heap.size W) W (.agg #[P, Q]) s.1) (hn : rBy (New w1.heap.size W) W [N] s.2.1) (hl : rBy (New w1.heap.size W) W [L] s.2.2) (hg : g < w1.heap.size) (hlo : lo ≤ w1.heap.size) (gr : W.grownBy W9 (some g)) : Sto (New lo W9) W9 (.agg #[P, Q, N, L]) s :=
  Sto.mk ((hd.grown gr (fun q e => by cases e; exact hg)).new hlo (Below.refl _ _)) (stab_by.new (stab_by.grown hn gr (fun q e => by cases e; exact hg)) hlo (Below.refl _ _)) (stab_by.new (stab_by.grown hl gr (fun q e => by cases e; exact hg)) hlo (Below.refl _ _))

set_option maxRecDepth 100000 in
set_option maxHeartbeats 4000000 in
theorem twinR_any (v : Value) (s : Rm) (hsm : SmallR s) (w : World) (h : Sto (Old w) w v s) :
    Calls Tryz.prog 22 #[v] w fun e w' => ∃ A ca B cb N cn L cl, e = .returned (.agg #[.slice A s.1.1.length ca, .slice B s.1.2.length cb, .slice N s.2.1.length cn, .slice L s.2.2.length cl]) ∧ Sto (New w.heap.size w') w' (.agg #[.slice A s.1.1.length ca, .slice B s.1.2.length cb, .slice N s.2.1.length cn, .slice L s.2.2.length cl]) s ∧ Below w.heap.size w w' := by
  obtain ⟨A, ca, B, cb, N, cn, L, cl, w1, rfl, hw1, f1, f2, hsz, hB, H⟩ := box_sto2 h
  clear h
  obtain ⟨m0, m1, m2, m3, _, mg⟩ := four_cells f1
  replace hsz := Lib.hid hsz
  replace f1 := Lib.hid f1
  replace f2 := Lib.hid f2
  replace hsm := Lib.hid hsm
  go_enter Tryz.func22, Tryz.ntmps22
  go_upto_region 1 with fail
  clear hw1
  refine wp_region_tails (by kernel_rfl) 10 (fun W => Below w1.heap.size w1 W) (fun i => match i with
      | 2 => some (fun v W => Dsk (New w1.heap.size W) W v s.1)
      | 5 => some (fun v W => rBy (New w1.heap.size W) W [v] s.2.1)
      | 8 => some (fun v W => rBy (New w1.heap.size W) W [v] s.2.2)
      | 9 => some (fun v W => ∃ P p Q r Y y X x, v = .agg #[.slice P s.1.1.length p, .slice Q s.1.2.length r, .slice Y s.2.1.length y, .slice X s.2.2.length x] ∧ Dsk (New w1.heap.size W) W (.agg #[.slice P s.1.1.length p, .slice Q s.1.2.length r]) s.1 ∧ rBy (New w1.heap.size W) W [.slice Y s.2.1.length y] s.2.1 ∧ rBy (New w1.heap.size W) W [.slice X s.2.2.length x] s.2.2)
      | _ => none) (fun _ => none) (by decide) (by kernel_rfl) (by kernel_rfl) (Below.refl _ _).drew (fun w w' h hb => h.trans (hb.mono h.size)) ?tst ?_
  case tst =>
    intro j φ x W W' hp hx hb
    match j, hp with
    | 2, hp => cases hp; exact hx.new (Nat.le_refl _) hb
    | 5, hp => cases hp; exact stab_by.new hx (Nat.le_refl _) hb
    | 8, hp => cases hp; exact stab_by.new hx (Nat.le_refl _) hb
    | 9, hp =>
      cases hp
      obtain ⟨P, p, Q, r, Y, y, X, x, e1, e2, e3, e4⟩ := hx
      exact ⟨P, p, Q, r, Y, y, X, x, e1, e2.new (Nat.le_refl _) hb, stab_by.new e3 (Nat.le_refl _) hb, stab_by.new e4 (Nat.le_refl _) hb⟩
  simp only [List.take_succ_cons, List.take_zero, List.drop_succ_cons, List.drop_zero]
  repeat (first
    | (refine wpAs_skip rfl ?_; simp only [Act.put, List.setIfInBounds_toArray, List.set_cons_zero, List.set_cons_succ])
    | (refine wpAs_pure (v := ?_) rfl rfl ?_ ?_; rotate_left; (intro W hC hE; clear hE; (have z0 := (hC.cell (p := ⟨w.heap.size, 0, none⟩) mg).trans m0; have z1 := (hC.cell (p := ⟨w.heap.size, 1, none⟩) mg).trans m1); clear hC; go_simp; done); simp only [Act.put, List.setIfInBounds_toArray, List.set_cons_zero, List.set_cons_succ])
    | (refine wpAs_pure (v := ?_) rfl rfl ?_ ?_; rotate_left; (intro W hC hE; clear hE; (have z0 := (hC.cell (p := ⟨w.heap.size, 0, none⟩) mg).trans m0; have z1 := (hC.cell (p := ⟨w.heap.size, 1, none⟩) mg).trans m1); clear hC; go_simp; with_reducible rfl); simp only [Act.put, List.setIfInBounds_toArray, List.set_cons_zero, List.set_cons_succ]))
  refine wpAs_act rfl rfl ?_ ?_
  · intro W hC hE
    clear hE
    refine does_enter (f := 36) (args := #[.agg #[.slice A s.1.1.length ca, .slice B s.1.2.length cb]]) ?_ ?_
    · go_simp
    · refine (twin_any _ s.1 W hsm.out.1 (H.out.below hC).parts.1).mono ?_
      rintro e W' ⟨u, rfl, hu, hb⟩
      exact ⟨_, rfl, hu.new hC.size (Below.refl _ _), hb⟩
  simp only [Act.put, List.setIfInBounds_toArray, List.set_cons_zero, List.set_cons_succ, envAdd]
  intro x5
  repeat (first
    | (refine wpAs_skip rfl ?_; simp only [Act.put, List.setIfInBounds_toArray, List.set_cons_zero, List.set_cons_succ])
    | (refine wpAs_pure (v := ?_) rfl rfl ?_ ?_; rotate_left; (intro W hC hE; clear hE; (have z2 := (hC.cell (p := ⟨w.heap.size, 2, none⟩) mg).trans m2); clear hC; go_simp; done); simp only [Act.put, List.setIfInBounds_toArray, List.set_cons_zero, List.set_cons_succ])
    | (refine wpAs_pure (v := ?_) rfl rfl ?_ ?_; rotate_left; (intro W hC hE; clear hE; (have z2 := (hC.cell (p := ⟨w.heap.size, 2, none⟩) mg).trans m2); clear hC; go_simp; with_reducible rfl); simp only [Act.put, List.setIfInBounds_toArray, List.set_cons_zero, List.set_cons_succ]))
  refine wpAs_act rfl rfl ?_ ?_
  · intro W hC hE
    clear hE
    refine does_enter (f := 33) (args := #[.slice N s.2.1.length cn]) ?_ ?_
    · go_simp
    · refine (clone_by _ s.2.1 W (by have := hsm.out.2.1; omega) (H.out.below hC).parts.2.1).mono ?_
      rintro e W' ⟨u, rfl, ho, hb⟩
      exact ⟨_, rfl, stab_by.new ho hC.size (Below.refl _ _), hb⟩
  simp only [Act.put, List.setIfInBounds_toArray, List.set_cons_zero, List.set_cons_succ, envAdd]
  intro x8
  repeat (first
    | (refine wpAs_skip rfl ?_; simp only [Act.put, List.setIfInBounds_toArray, List.set_cons_zero, List.set_cons_succ])
    | (refine wpAs_pure (v := ?_) rfl rfl ?_ ?_; rotate_left; (intro W hC hE; clear hE; (have z3 := (hC.cell (p := ⟨w.heap.size, 3, none⟩) mg).trans m3); clear hC; go_simp; done); simp only [Act.put, List.setIfInBounds_toArray, List.set_cons_zero, List.set_cons_succ])
    | (refine wpAs_pure (v := ?_) rfl rfl ?_ ?_; rotate_left; (intro W hC hE; clear hE; (have z3 := (hC.cell (p := ⟨w.heap.size, 3, none⟩) mg).trans m3); clear hC; go_simp; with_reducible rfl); simp only [Act.put, List.setIfInBounds_toArray, List.set_cons_zero, List.set_cons_succ]))
  refine wpAs_act rfl rfl ?_ ?_
  · intro W hC hE
    clear hE
    refine does_enter (f := 33) (args := #[.slice L s.2.2.length cl]) ?_ ?_
    · go_simp
    · refine (clone_by _ s.2.2 W (by have := hsm.out.2.2; omega) (H.out.below hC).parts.2.2).mono ?_
      rintro e W' ⟨u, rfl, ho, hb⟩
      exact ⟨_, rfl, stab_by.new ho hC.size (Below.refl _ _), hb⟩
  simp only [Act.put, List.setIfInBounds_toArray, List.set_cons_zero, List.set_cons_succ, envAdd]
  intro x11
  refine wpAs_act rfl rfl ?_ ?_
  · intro W hC hE
    have h11 := hE.1 rfl
    have h8 := hE.2.1 rfl
    have h5 := hE.2.2.1 rfl
    obtain ⟨X, x, rfl, _⟩ := rBy_open h11
    obtain ⟨Y, y, rfl, _⟩ := rBy_open h8
    obtain ⟨P, p, Q, r, rfl, _⟩ := h5.open
    have h11' := Lib.hid h11
    have h8' := Lib.hid h8
    have h5' := Lib.hid h5
    clear hE hC h11 h8 h5
    go_simp
    exact ⟨⟨P, p, Q, r, Y, y, X, x, rfl, h5'.out, h8'.out, h11'.out⟩, Below.refl _ _⟩
  simp only [Act.put, List.setIfInBounds_toArray, List.set_cons_zero, List.set_cons_succ, envAdd]
  intro x12
  refine wpAs_end fun W hC hE => ?_
  obtain ⟨⟨P, p, Q, r, Y, y, X, x, rfl, hd, hn, hl⟩, _⟩ := hE
  have bW := (hC.block (w.heap.size + 1) (by rw [hsz.out]; omega)).trans f2.out
  obtain ⟨c0, c1, c2, c3, c4, c5⟩ := four_cells bW
  obtain ⟨W9, hW9, g9, gr9, gs9⟩ := put_four (a' := .slice P s.1.1.length p) (b' := .slice Q s.1.2.length r) (c' := .slice Y s.2.1.length y) (d' := .slice X s.2.2.length x) bW
  obtain ⟨n0, n1, n2, n3, _, _⟩ := four_cells g9
  have BW := hB.trans (hC.mono hB.size)
  have hfin := Lib.hid (sto_fin (lo := w.heap.size) hd hn hl (by rw [hsz.out]; omega) hB.size gr9)
  have hB9 := Lib.hid (BW.grown gr9 BW.size (fun q e => by cases e; omega))
  clear hd hn hl gr9 gs9 BW hC
  replace bW := Lib.hid bW
  replace g9 := Lib.hid g9
  go_wp2_with fail
  refine bodyPost_ret (v := .agg #[.slice P s.1.1.length p, .slice Q s.1.2.length r, .slice Y s.2.1.length y, .slice X s.2.2.length x]) (by simp [results, Tryz.results22, go_sem, n0, n1, n2, n3]) rfl ?_
  exact ⟨_, _, _, _, _, _, _, _, rfl, hfin.out, hB9.out⟩
set_option maxRecDepth 100000 in
set_option maxHeartbeats 4000000 in
theorem refTwinR_any (v : Value) (s : Rm) (hsm : SmallR s) (w : World) (h : Sto (Old w) w v s) :
    Calls Tryz.prog 5 #[v] w fun e w' => ∃ A ca B cb N cn L cl, e = .returned (.agg #[.slice A s.1.1.length ca, .slice B s.1.2.length cb, .slice N s.2.1.length cn, .slice L s.2.2.length cl]) ∧ Sto (New w.heap.size w') w' (.agg #[.slice A s.1.1.length ca, .slice B s.1.2.length cb, .slice N s.2.1.length cn, .slice L s.2.2.length cl]) s ∧ Below w.heap.size w w' := by
  obtain ⟨A, ca, B, cb, N, cn, L, cl, w1, rfl, hw1, f1, f2, hsz, hB, H⟩ := box_sto2 h
  clear h
  obtain ⟨m0, m1, m2, m3, _, mg⟩ := four_cells f1
  replace hsz := Lib.hid hsz
  replace f1 := Lib.hid f1
  replace f2 := Lib.hid f2
  replace hsm := Lib.hid hsm
  go_enter Tryz.func5, Tryz.ntmps5
  go_upto_region 1 with fail
  clear hw1
  refine wp_region_tails (by kernel_rfl) 10 (fun W => Below w1.heap.size w1 W) (fun i => match i with
      | 2 => some (fun v W => Dsk (New w1.heap.size W) W v s.1)
      | 5 => some (fun v W => rBy (New w1.heap.size W) W [v] s.2.1)
      | 8 => some (fun v W => rBy (New w1.heap.size W) W [v] s.2.2)
      | 9 => some (fun v W => ∃ P p Q r Y y X x, v = .agg #[.slice P s.1.1.length p, .slice Q s.1.2.length r, .slice Y s.2.1.length y, .slice X s.2.2.length x] ∧ Dsk (New w1.heap.size W) W (.agg #[.slice P s.1.1.length p, .slice Q s.1.2.length r]) s.1 ∧ rBy (New w1.heap.size W) W [.slice Y s.2.1.length y] s.2.1 ∧ rBy (New w1.heap.size W) W [.slice X s.2.2.length x] s.2.2)
      | _ => none) (fun _ => none) (by decide) (by kernel_rfl) (by kernel_rfl) (Below.refl _ _).drew (fun w w' h hb => h.trans (hb.mono h.size)) ?tst ?_
  case tst =>
    intro j φ x W W' hp hx hb
    match j, hp with
    | 2, hp => cases hp; exact hx.new (Nat.le_refl _) hb
    | 5, hp => cases hp; exact stab_by.new hx (Nat.le_refl _) hb
    | 8, hp => cases hp; exact stab_by.new hx (Nat.le_refl _) hb
    | 9, hp =>
      cases hp
      obtain ⟨P, p, Q, r, Y, y, X, x, e1, e2, e3, e4⟩ := hx
      exact ⟨P, p, Q, r, Y, y, X, x, e1, e2.new (Nat.le_refl _) hb, stab_by.new e3 (Nat.le_refl _) hb, stab_by.new e4 (Nat.le_refl _) hb⟩
  simp only [List.take_succ_cons, List.take_zero, List.drop_succ_cons, List.drop_zero]
  repeat (first
    | (refine wpAs_skip rfl ?_; simp only [Act.put, List.setIfInBounds_toArray, List.set_cons_zero, List.set_cons_succ])
    | (refine wpAs_pure (v := ?_) rfl rfl ?_ ?_; rotate_left; (intro W hC hE; clear hE; (have z0 := (hC.cell (p := ⟨w.heap.size, 0, none⟩) mg).trans m0; have z1 := (hC.cell (p := ⟨w.heap.size, 1, none⟩) mg).trans m1); clear hC; go_simp; done); simp only [Act.put, List.setIfInBounds_toArray, List.set_cons_zero, List.set_cons_succ])
    | (refine wpAs_pure (v := ?_) rfl rfl ?_ ?_; rotate_left; (intro W hC hE; clear hE; (have z0 := (hC.cell (p := ⟨w.heap.size, 0, none⟩) mg).trans m0; have z1 := (hC.cell (p := ⟨w.heap.size, 1, none⟩) mg).trans m1); clear hC; go_simp; with_reducible rfl); simp only [Act.put, List.setIfInBounds_toArray, List.set_cons_zero, List.set_cons_succ]))
  refine wpAs_act rfl rfl ?_ ?_
  · intro W hC hE
    clear hE
    refine does_enter (f := 25) (args := #[.agg #[.slice A s.1.1.length ca, .slice B s.1.2.length cb]]) ?_ ?_
    · go_simp
    · refine (refTwin_any _ s.1 W hsm.out.1 (H.out.below hC).parts.1).mono ?_
      rintro e W' ⟨u, rfl, hu, hb⟩
      exact ⟨_, rfl, hu.new hC.size (Below.refl _ _), hb⟩
  simp only [Act.put, List.setIfInBounds_toArray, List.set_cons_zero, List.set_cons_succ, envAdd]
  intro x5
  repeat (first
    | (refine wpAs_skip rfl ?_; simp only [Act.put, List.setIfInBounds_toArray, List.set_cons_zero, List.set_cons_succ])
    | (refine wpAs_pure (v := ?_) rfl rfl ?_ ?_; rotate_left; (intro W hC hE; clear hE; (have z2 := (hC.cell (p := ⟨w.heap.size, 2, none⟩) mg).trans m2); clear hC; go_simp; done); simp only [Act.put, List.setIfInBounds_toArray, List.set_cons_zero, List.set_cons_succ])
    | (refine wpAs_pure (v := ?_) rfl rfl ?_ ?_; rotate_left; (intro W hC hE; clear hE; (have z2 := (hC.cell (p := ⟨w.heap.size, 2, none⟩) mg).trans m2); clear hC; go_simp; with_reducible rfl); simp only [Act.put, List.setIfInBounds_toArray, List.set_cons_zero, List.set_cons_succ]))
  refine wpAs_act rfl rfl ?_ ?_
  · intro W hC hE
    clear hE
    obtain ⟨v', W', hr, hy, hb⟩ := app_copy (.slice N s.2.1.length cn) s.2.1 W (by have := hsm.out.2.1; omega) (H.out.below hC).parts.2.1
    exact does_append _ _ _ rfl rfl rfl hr ⟨stab_by.new hy hC.size (Below.refl _ _), hb⟩
  simp only [Act.put, List.setIfInBounds_toArray, List.set_cons_zero, List.set_cons_succ, envAdd]
  intro x8
  repeat (first
    | (refine wpAs_skip rfl ?_; simp only [Act.put, List.setIfInBounds_toArray, List.set_cons_zero, List.set_cons_succ])
    | (refine wpAs_pure (v := ?_) rfl rfl ?_ ?_; rotate_left; (intro W hC hE; clear hE; (have z3 := (hC.cell (p := ⟨w.heap.size, 3, none⟩) mg).trans m3); clear hC; go_simp; done); simp only [Act.put, List.setIfInBounds_toArray, List.set_cons_zero, List.set_cons_succ])
    | (refine wpAs_pure (v := ?_) rfl rfl ?_ ?_; rotate_left; (intro W hC hE; clear hE; (have z3 := (hC.cell (p := ⟨w.heap.size, 3, none⟩) mg).trans m3); clear hC; go_simp; with_reducible rfl); simp only [Act.put, List.setIfInBounds_toArray, List.set_cons_zero, List.set_cons_succ]))
  refine wpAs_act rfl rfl ?_ ?_
  · intro W hC hE
    clear hE
    obtain ⟨v', W', hr, hy, hb⟩ := app_copy (.slice L s.2.2.length cl) s.2.2 W (by have := hsm.out.2.2; omega) (H.out.below hC).parts.2.2
    exact does_append _ _ _ rfl rfl rfl hr ⟨stab_by.new hy hC.size (Below.refl _ _), hb⟩
  simp only [Act.put, List.setIfInBounds_toArray, List.set_cons_zero, List.set_cons_succ, envAdd]
  intro x11
  refine wpAs_act rfl rfl ?_ ?_
  · intro W hC hE
    have h11 := hE.1 rfl
    have h8 := hE.2.1 rfl
    have h5 := hE.2.2.1 rfl
    obtain ⟨X, x, rfl, _⟩ := rBy_open h11
    obtain ⟨Y, y, rfl, _⟩ := rBy_open h8
    obtain ⟨P, p, Q, r, rfl, _⟩ := h5.open
    have h11' := Lib.hid h11
    have h8' := Lib.hid h8
    have h5' := Lib.hid h5
    clear hE hC h11 h8 h5
    go_simp
    exact ⟨⟨P, p, Q, r, Y, y, X, x, rfl, h5'.out, h8'.out, h11'.out⟩, Below.refl _ _⟩
  simp only [Act.put, List.setIfInBounds_toArray, List.set_cons_zero, List.set_cons_succ, envAdd]
  intro x12
  refine wpAs_end fun W hC hE => ?_
  obtain ⟨⟨P, p, Q, r, Y, y, X, x, rfl, hd, hn, hl⟩, _⟩ := hE
  have bW := (hC.block (w.heap.size + 1) (by rw [hsz.out]; omega)).trans f2.out
  obtain ⟨c0, c1, c2, c3, c4, c5⟩ := four_cells bW
  obtain ⟨W9, hW9, g9, gr9, gs9⟩ := put_four (a' := .slice P s.1.1.length p) (b' := .slice Q s.1.2.length r) (c' := .slice Y s.2.1.length y) (d' := .slice X s.2.2.length x) bW
  obtain ⟨n0, n1, n2, n3, _, _⟩ := four_cells g9
  have BW := hB.trans (hC.mono hB.size)
  have hfin := Lib.hid (sto_fin (lo := w.heap.size) hd hn hl (by rw [hsz.out]; omega) hB.size gr9)
  have hB9 := Lib.hid (BW.grown gr9 BW.size (fun q e => by cases e; omega))
  clear hd hn hl gr9 gs9 BW hC
  replace bW := Lib.hid bW
  replace g9 := Lib.hid g9
  go_wp2_with fail
  refine bodyPost_ret (v := .agg #[.slice P s.1.1.length p, .slice Q s.1.2.length r, .slice Y s.2.1.length y, .slice X s.2.2.length x]) (by simp [results, Tryz.results5, go_sem, n0, n1, n2, n3]) rfl ?_
  exact ⟨_, _, _, _, _, _, _, _, rfl, hfin.out, hB9.out⟩
end Go.Proofs.YtjlbkcnhbndgbaaGreat

/-
  Layer 8: the laws' alive. Conditions: those that each lemma states.
-/
namespace Go.Proofs.YtjlbkcnhbndgbaaGreat
open Go.RowKit

theorem row_lies {W : World} {g : Nat} {xs : List UInt8} {n : Nat} (h : W.heap[g]? = some (.cells (rowA xs) 5 (0, 0))) (hl : xs.length = n) (hb : n ≤ 9223372036854775807) : rBy (Old W) W [.slice (some ⟨g, 0, none⟩) n n] xs := by
  subst hl
  have hg := (Array.getElem?_eq_some_iff.1 h).1
  refine ⟨some ⟨g, 0, none⟩, xs.length, rfl, Nat.le_refl _, hb, fun i x hi => ⟨⟨g, 0, none⟩, [.int .u8 (x.toNat : Int)], rfl, rfl, fun j v hj => ?_, rfl⟩⟩
  have hj0 : j = 0 := by
    have := (List.getElem?_eq_some_iff.1 hj).1
    simp at this
    omega
  subst hj0
  simp at hj
  subst hj
  refine ⟨by show (Addr.add _ _).block < _; rw [add_block]; exact hg, ?_⟩
  have e : (⟨g, 0, none⟩ : Addr).add (i * 1 + 0) = ⟨g, i, none⟩ := by simp [add_off]
  rw [e]
  simp [World.cell?, h, rowA, u8s, hi]

/-- What is free in a new store, and what Take does to it. -/
theorem new_free : (freeL newR).length = 248 ∧ freeL newR = 8 :: 9 :: (freeL newR).drop 2 := by decide +kernel
theorem may_new : mayR newR = true := mayR_mk may_zero may_zeros may_zeros
theorem new_take {b : List UInt8} (hb : b.length = 128) : tkE newR b = 0 ∧ tkN newR b = 8 ∧ tkK newR = 8 ∧ (tkV newR b).1.1.length = 256 ∧ (tkV newR b).1.2.length = 1 ∧ (tkV newR b).2.1.length = 256 ∧ (tkV newR b).2.2.length = 256 ∧ (tkV newR b).2.1[8]?.getD 0 = 1 := by
  have h0 : tkE newR b = 0 := tk_yes may_new hb (by rw [new_free.2]; simp) (by rw [newR, zero_len2]; omega)
  have hk : tkK newR = 8 := by rw [tkK, new_free.2]; rfl
  obtain ⟨_, _, _, _, _, _, _, _, hN, hV⟩ := tk_ok h0
  have hc := (tk_counts h0).1
  rw [hk] at hN hV hc
  refine ⟨h0, hN, hk, ?_, ?_, ?_, ?_, hc⟩
  · rw [hV, wrD_fst]; exact zero_len1
  · rw [hV, wrD_len]; rfl
  · rw [hV, List.length_set]; exact zeros_length 256
  · rw [hV]; exact zeros_length 256

end Go.Proofs.YtjlbkcnhbndgbaaGreat

/-
  Layer 8: what the laws want: lists of numbers in a bag; what Free and Take tell, opened. Conditions: those that each lemma states.
-/
namespace Go.Proofs.YtjlbkcnhbndgbaaGreat
open Go.RowKit

def OldZ (v : Value) (xs : List Int) : World → Prop := fun w => rInts (Old w) w [v] xs
theorem lasts_oldZ (v : Value) (xs : List Int) : Lasts (OldZ v xs) := fun _ _ h hb => stab_ints.old h hb
theorem intsN_len (l : List Nat) : (intsN l).length = l.length := by simp [intsN]
theorem intsN_get {l : List Nat} {i : Nat} {x : Nat} (h : l[i]? = some x) : (intsN l)[i]? = some (x : Int) := by simp [intsN, h]
/-- The numbers of a list, cell by cell. -/
theorem ints_at {w : World} {X : Option Addr} {m c : Nat} {l : List Nat} (h : rInts (Old w) w [.slice X m c] (intsN l)) : m = l.length ∧ m ≤ c ∧ ∀ (i x : Nat), l[i]? = some x → ∃ ad, X = some ad ∧ (ad.add i).block < w.heap.size ∧ w.cell? (ad.add i) = some (.int .i64 (x : Int)) := by
  obtain ⟨X', c', e, h1, _, h2⟩ := rInts_open h
  simp only [Value.slice.injEq] at e
  obtain ⟨rfl, hm, rfl⟩ := e
  rw [intsN_len] at h1 hm
  refine ⟨hm, by omega, fun i x hi => ?_⟩
  obtain ⟨ad, e1, e2, e3, _⟩ := h2 i _ (intsN_get hi)
  exact ⟨ad, e1, e2, e3⟩
theorem freeR_open (v : Value) (s : Rm) (hm : mayR s = true) (w : World) (h : Sto (Old w) w v s) :
    Calls Tryz.prog 6 #[v] w fun e W' => ∃ X c, e = .returned (.tuple #[.slice X (freeL s).length c, .int .i64 0]) ∧ rInts (New w.heap.size W') W' [.slice X (freeL s).length c] (intsN (freeL s)) ∧ Below w.heap.size w W' := by
  refine (freeR_any v s w h).mono ?_
  rintro e W' ⟨u, rfl, hu, hb⟩
  rw [show frV s = freeL s by simp [frV, hm]] at hu
  obtain ⟨X, c, rfl, _⟩ := id (rInts_open hu)
  rw [intsN_len] at hu ⊢
  rw [chkR_ok hm]
  exact ⟨X, c, rfl, hu, hb⟩
/-- What Take tells, opened. -/
theorem takeR_open (v u : Value) (s : Rm) (b : List UInt8) (w : World) (h : Sto (Old w) w v s) (hu : rBy (Old w) w [u] b) :
    Calls Tryz.prog 8 #[v, u] w fun e W' => ∃ A ca B cb N cn L cl, e = .returned (.tuple #[.agg #[.slice A (tkV s b).1.1.length ca, .slice B (tkV s b).1.2.length cb, .slice N (tkV s b).2.1.length cn, .slice L (tkV s b).2.2.length cl], .int .i64 (tkN s b), .int .i64 (tkE s b)]) ∧
      Sto (New w.heap.size W') W' (.agg #[.slice A (tkV s b).1.1.length ca, .slice B (tkV s b).1.2.length cb, .slice N (tkV s b).2.1.length cn, .slice L (tkV s b).2.2.length cl]) (tkV s b) ∧ Below w.heap.size w W' := by
  refine (takeR_any v u s b w h hu).mono ?_
  rintro e W' ⟨t, rfl, ht, hb⟩
  obtain ⟨A, ca, B, cb, N, cn, L, cl, rfl, _⟩ := id ht.open
  exact ⟨A, ca, B, cb, N, cn, L, cl, rfl, ht, hb⟩
theorem shareR_open (v : Value) (s : Rm) (n : Int) (w : World) (h : Sto (Old w) w v s) :
    Calls Tryz.prog 10 #[v, .int .i64 n] w fun e W' => ∃ A ca B cb N cn L cl, e = .returned (.tuple #[.agg #[.slice A (shV s n).1.1.length ca, .slice B (shV s n).1.2.length cb, .slice N (shV s n).2.1.length cn, .slice L (shV s n).2.2.length cl], .int .i64 (shE s n)]) ∧
      Sto (New w.heap.size W') W' (.agg #[.slice A (shV s n).1.1.length ca, .slice B (shV s n).1.2.length cb, .slice N (shV s n).2.1.length cn, .slice L (shV s n).2.2.length cl]) (shV s n) ∧ Below w.heap.size w W' := by
  refine (shareR_any v s n w h).mono ?_
  rintro e W' ⟨t, rfl, ht, hb⟩
  obtain ⟨A, ca, B, cb, N, cn, L, cl, rfl, _⟩ := id ht.open
  exact ⟨A, ca, B, cb, N, cn, L, cl, rfl, ht, hb⟩
/-- The tables of a store, cell by cell, in every later world. -/
theorem tables_far {w : World} {s : Rm} {A B N L : Option Addr} {n1 n2 ca cb cn cl : Nat} (hm : mayR s = true) (h : Sto (Old w) w (.agg #[.slice A n1 ca, .slice B n2 cb, .slice N s.2.1.length cn, .slice L s.2.2.length cl]) s) :
    ∃ ad bd, N = some ad ∧ L = some bd ∧ s.2.1.length = 256 ∧ s.2.2.length = 256 ∧ 256 ≤ cn ∧ 256 ≤ cl ∧ Hid (∀ j, j < 256 → ∀ W, Below w.heap.size w W → W.cell? (ad.add j) = some (.int .u8 ((s.2.1[j]?.getD 0).toNat : Int)) ∧ W.cell? (bd.add j) = some (.int .u8 ((s.2.2[j]?.getD 0).toNat : Int))) := by
  obtain ⟨ad, bd, e1, e2, h1, h2, h3, h4, h5, h6, hc⟩ := tables_at hm h.parts.2.1 h.parts.2.2
  exact ⟨ad, bd, e1, e2, h1, h2, h3, h4, Lib.hid fun j hj W hW => ⟨(hW.cell (by rw [add_block]; exact h5)).trans (hc j hj).1, (hW.cell (by rw [add_block]; exact h6)).trans (hc j hj).2⟩⟩
end Go.Proofs.YtjlbkcnhbndgbaaGreat

/-
  The law's own spoil (layer 8): every byte of a store of the call's own is turned; what lies below stays. Condition: the store's cells lie at lo and above and may be written.
-/
namespace Go.Proofs.YtjlbkcnhbndgbaaGreat
open Go.RowKit

theorem Spoilt.sto {lo lo' : Nat} {w wr : World} {v : Value} {s : Rm} (h : Spoilt lo w wr) (hs : Sto (New lo' w) w v s) : ∃ s', Sto (New lo' wr) wr v s' := by
  obtain ⟨a, b, n, l, e, h1, h2, h3⟩ := hs
  obtain ⟨d, hd⟩ := h.dsk h1
  obtain ⟨ns, _, hn⟩ := h.by h2
  obtain ⟨ls, _, hl⟩ := h.by h3
  exact ⟨(d, ns, ls), a, b, n, l, e, hd, hn, hl⟩
theorem Spoilt.box4 {lo : Nat} {w wr : World} (h : Spoilt lo w wr) {g : Nat} {A B C D : Option Addr} {n c m e n' c' m' e' : Nat} (hb : Box4 g (.slice A n c) (.slice B m e) (.slice C n' c') (.slice D m' e') w) : Box4 g (.slice A n c) (.slice B m e) (.slice C n' c') (.slice D m' e') wr :=
  ⟨h.rest ⟨g, 0, none⟩ _ hb.2.2.2.2 hb.1 (by simp), h.rest ⟨g, 1, none⟩ _ hb.2.2.2.2 hb.2.1 (by simp), h.rest ⟨g, 2, none⟩ _ hb.2.2.2.2 hb.2.2.1 (by simp), h.rest ⟨g, 3, none⟩ _ hb.2.2.2.2 hb.2.2.2.1 (by simp), Nat.lt_of_lt_of_le hb.2.2.2.2 h.low.size⟩

set_option maxRecDepth 100000 in
set_option maxHeartbeats 4000000 in
theorem spoil8_any (v : Value) (s : Rm) (lo : Nat) (w : World) (hlo : lo ≤ w.heap.size) (h : Sto (New lo w) w v s) :
    Calls Tryz.prog 23 #[v] w fun e w' => (∃ u, e = .returned u) ∧ Spoilt lo w w' := by
  obtain ⟨A, c, B, c', N, cn, L, cl, rfl, _⟩ := id h.open
  obtain ⟨w0, hw0, b0, hs0, hB0⟩ := box_4 w (.slice A s.1.1.length c) (.slice B s.1.2.length c') (.slice N s.2.1.length cn) (.slice L s.2.2.length cl) 28
  have h0 := h.new (Nat.le_refl _) hB0
  obtain ⟨hD, hN, hL⟩ := h0.parts
  obtain ⟨A', a', B', b', ev, l1, m1, l2, m2, hA, hB⟩ := hD.open
  cases ev
  obtain ⟨N', n', ev, lN, mN, HN⟩ := rBy_open hN
  cases ev
  obtain ⟨L', l', ev, lL, mL, HL⟩ := rBy_open hL
  cases ev
  obtain ⟨f1, f2, f3, f4, _, lt0⟩ := four_cells b0
  have hB0' := hB0
  have HA := Lib.hid hA
  have HB := Lib.hid hB
  replace HN := Lib.hid HN
  replace HL := Lib.hid HL
  clear hA hB hD hN hL h h0
  obtain ⟨n, hn⟩ : ∃ n, s.1.1.length = n := ⟨_, rfl⟩
  obtain ⟨m, hm⟩ : ∃ m, s.1.2.length = m := ⟨_, rfl⟩
  obtain ⟨qn, hqn⟩ : ∃ m, s.2.1.length = m := ⟨_, rfl⟩
  obtain ⟨ql, hql⟩ : ∃ m, s.2.2.length = m := ⟨_, rfl⟩
  rw [hn] at l1 f1 b0 hw0 ⊢
  rw [hm] at l2 f2 b0 hw0 ⊢
  rw [hqn] at lN f3 b0 hw0 ⊢
  rw [hql] at lL f4 b0 hw0 ⊢
  replace hn := Lib.hid hn
  replace hm := Lib.hid hm
  replace hqn := Lib.hid hqn
  replace hql := Lib.hid hql
  replace b0 := Lib.hid b0
  replace hs0 := Lib.hid hs0
  go_enter Tryz.func23, Tryz.ntmps23
  go_upto_region 1 with fail
  clear hw0
  go_wp2_with fail
  go_loopw [2] (fun i wr => ∃ j : Nat, j ≤ n ∧ i = .int .i64 j ∧ Spoilt lo w0 wr) (fun i _ => n - (intOf i).toNat)
  case atStart => exact ⟨0, by omega, rfl, Spoilt.refl _ _⟩
  case round =>
    obtain ⟨j, hj, rfl, hS⟩ := hrel
    have z1 := hS.rest ⟨w.heap.size, 0, none⟩ _ lt0 f1 (by simp)
    by_cases hlt : j < n
    · obtain ⟨x, hx⟩ : ∃ x, s.1.1[j]? = some x := ⟨_, List.getElem?_eq_getElem (by rw [hn.out]; exact hlt)⟩
      obtain ⟨rd, u, rfl, hok, hc, hby⟩ := HA.out j x hx
      obtain ⟨E, ce, rfl, lE, mE, HE'⟩ := rBy_open hby
      have HE := Lib.hid HE'
      obtain ⟨q, hq⟩ : ∃ q, x.length = q := ⟨_, rfl⟩
      rw [hq] at lE hc
      replace hq := Lib.hid hq
      replace hok := Lib.hid hok
      clear HE' hby hx
      go_wp2_with fail
      go_loopw [3] (fun i wi => ∃ k : Nat, k ≤ q ∧ i = .int .i64 k ∧ Spoilt lo w0 wi) (fun i _ => q - (intOf i).toNat)
      case atStart => exact ⟨0, by omega, rfl, hS⟩
      case round =>
        clear hS z1
        obtain ⟨k, hk, rfl, hT⟩ := hrel
        have z1 := hT.rest ⟨w.heap.size, 0, none⟩ _ lt0 f1 (by simp)
        have c1 := hT.rest (rd.add j) _ hok.out.2.1 hc (by simp)
        by_cases hl2 : k < q
        · obtain ⟨bd, rfl, hok2, hcb⟩ := HE.out k (by rw [hq.out]; exact hl2)
          obtain ⟨y, hy⟩ := hT.byte (bd.add k) _ hok2.2.1 hcb
          have hf := (hT.fro _ hok2.2.1).trans hok2.2.2
          have hadd := u8_succ3 y
          have hst := Lib.hid (hT.step hok2.1 hy (y + 1))
          generalize (y + 1) = y' at *
          replace hok2 := Lib.hid hok2
          clear hcb hT
          go_wp2_with fail
          go_still_tail 18, (by kernel_rfl)
          change wpList _ _ _ _ _ wr.drew
          go_wp2
          go_roundw
          case rel => exact ⟨k + 1, by omega, by go_num, hst.out.drew⟩
          case measure => simp [intOf]; omega
        · have hT' := Lib.hid hT
          clear hT
          go_wp2_with fail
          go_roundw
          case rel => exact ⟨j + 1, by omega, by go_num, hT'.out⟩
          case measure => simp [intOf]; omega
    · have hS' := Lib.hid hS
      clear hS
      obtain ⟨wo, rfl⟩ : ∃ wo : World, wo = wr := ⟨_, rfl⟩
      go_wp2_with fail
      go_loopw [4] (fun i wr => ∃ j : Nat, j ≤ m ∧ i = .int .i64 j ∧ Spoilt lo w0 wr) (fun i _ => m - (intOf i).toNat)
      case atStart => exact ⟨0, by omega, rfl, hS'.out⟩
      case round =>
        clear z1 hS'
        obtain ⟨j2, hj2, rfl, hS⟩ := hrel
        have z1 := hS.rest ⟨w.heap.size, 1, none⟩ _ lt0 f2 (by simp)
        by_cases hlt2 : j2 < m
        · obtain ⟨x, hx⟩ : ∃ x, s.1.2[j2]? = some x := ⟨_, List.getElem?_eq_getElem (by rw [hm.out]; exact hlt2)⟩
          obtain ⟨rd, u, rfl, _, hok, _, hc, hby, _, _⟩ := HB.out j2 x hx
          obtain ⟨E, ce, rfl, lE, mE, HE'⟩ := rBy_open hby
          have HE := Lib.hid HE'
          obtain ⟨q, hq⟩ : ∃ q, x.2.length = q := ⟨_, rfl⟩
          rw [hq] at lE hc
          rw [add_next] at hc hok
          replace hq := Lib.hid hq
          replace hok := Lib.hid hok
          clear HE' hby hx
          have c1 := hS.rest _ _ hok.out.2.1 hc (by simp)
          go_wp2_with fail
          go_loopw [5] (fun i wi => ∃ k : Nat, k ≤ q ∧ i = .int .i64 k ∧ Spoilt lo w0 wi) (fun i _ => q - (intOf i).toNat)
          case atStart => exact ⟨0, by omega, rfl, hS⟩
          case round =>
            clear hS z1 c1
            obtain ⟨k, hk, rfl, hT⟩ := hrel
            have z1 := hT.rest ⟨w.heap.size, 1, none⟩ _ lt0 f2 (by simp)
            have c1 := hT.rest _ _ hok.out.2.1 hc (by simp)
            by_cases hl2 : k < q
            · obtain ⟨bd, rfl, hok2, hcb⟩ := HE.out k (by rw [hq.out]; exact hl2)
              obtain ⟨y, hy⟩ := hT.byte (bd.add k) _ hok2.2.1 hcb
              have hf := (hT.fro _ hok2.2.1).trans hok2.2.2
              have hadd := u8_succ3 y
              have hst := Lib.hid (hT.step hok2.1 hy (y + 1))
              generalize (y + 1) = y' at *
              replace hok2 := Lib.hid hok2
              clear hcb hT
              go_wp2_with fail
              go_still_tail 20, (by kernel_rfl)
              change wpList _ _ _ _ _ wr.drew
              go_wp2
              go_roundw
              case rel => exact ⟨k + 1, by omega, by go_num, hst.out.drew⟩
              case measure => simp [intOf]; omega
            · have hT' := Lib.hid hT
              clear hT
              go_wp2_with fail
              go_roundw
              case rel => exact ⟨j2 + 1, by omega, by go_num, hT'.out⟩
              case measure => simp [intOf]; omega
        · have hS'' := Lib.hid hS
          clear hS
          obtain ⟨wo, rfl⟩ : ∃ wo : World, wo = wr := ⟨_, rfl⟩
          go_wp2_with fail
          go_loopw [6] (fun i wi => ∃ k : Nat, k ≤ qn ∧ i = .int .i64 k ∧ Spoilt lo w0 wi) (fun i _ => qn - (intOf i).toNat)
          case atStart => exact ⟨0, by omega, rfl, hS''.out⟩
          case round =>
            clear z1 hS''
            obtain ⟨k, hk, rfl, hT⟩ := hrel
            have z1 := hT.rest ⟨w.heap.size, 2, none⟩ _ lt0 f3 (by simp)
            by_cases hl2 : k < qn
            · obtain ⟨bd, rfl, hok2, hcb⟩ := HN.out k (by rw [hqn.out]; exact hl2)
              obtain ⟨y, hy⟩ := hT.byte (bd.add k) _ hok2.2.1 hcb
              have hf := (hT.fro _ hok2.2.1).trans hok2.2.2
              have hadd := u8_succ3 y
              have hst := Lib.hid (hT.step hok2.1 hy (y + 1))
              generalize (y + 1) = y' at *
              replace hok2 := Lib.hid hok2
              clear hcb hT
              go_wp2_with fail
              go_still_tail 10, (by kernel_rfl)
              change wpList _ _ _ _ _ wr.drew
              go_wp2
              go_roundw
              case rel => exact ⟨k + 1, by omega, by go_num, hst.out.drew⟩
              case measure => simp [intOf]; omega
            · have hS'' := Lib.hid hT
              clear hT
              obtain ⟨wo, rfl⟩ : ∃ wo : World, wo = wr := ⟨_, rfl⟩
              go_wp2_with fail
              go_loopw [7] (fun i wi => ∃ k : Nat, k ≤ ql ∧ i = .int .i64 k ∧ Spoilt lo w0 wi) (fun i _ => ql - (intOf i).toNat)
              case atStart => exact ⟨0, by omega, rfl, hS''.out⟩
              case round =>
                clear z1 hS''
                obtain ⟨k, hk, rfl, hT⟩ := hrel
                have z1 := hT.rest ⟨w.heap.size, 3, none⟩ _ lt0 f4 (by simp)
                by_cases hl2 : k < ql
                · obtain ⟨bd, rfl, hok2, hcb⟩ := HL.out k (by rw [hql.out]; exact hl2)
                  obtain ⟨y, hy⟩ := hT.byte (bd.add k) _ hok2.2.1 hcb
                  have hf := (hT.fro _ hok2.2.1).trans hok2.2.2
                  have hadd := u8_succ3 y
                  have hst := Lib.hid (hT.step hok2.1 hy (y + 1))
                  generalize (y + 1) = y' at *
                  replace hok2 := Lib.hid hok2
                  clear hcb hT
                  go_wp2_with fail
                  go_still_tail 10, (by kernel_rfl)
                  change wpList _ _ _ _ _ wr.drew
                  go_wp2
                  go_roundw
                  case rel => exact ⟨k + 1, by omega, by go_num, hst.out.drew⟩
                  case measure => simp [intOf]; omega
                · have hfin := Lib.hid (hT.after hlo hB0')
                  clear hT
                  go_wp2_with fail
                  go_end0
                  exact ⟨⟨_, rfl⟩, hfin.out⟩
end Go.Proofs.YtjlbkcnhbndgbaaGreat

/-
  The document's answers of layer 6: Great. Conditions: those that each lemma states.
-/
namespace Go.Proofs.YtjlbkcnhbndgbaaGreat
open Go.RowKit

def cap5 (n : Nat) : Int := if (100000 : Int) < n then 100000 else n
theorem cap5_nonneg (n : Nat) : 0 ≤ cap5 n ∧ cap5 n ≤ 100000 := by unfold cap5; split <;> omega
def sumI : List It → Int
  | [] => 0
  | x :: r => cap5 x.2.2.length + sumI r
theorem sumI_snoc (xs : List It) (x : It) : sumI (xs ++ [x]) = sumI xs + cap5 x.2.2.length := by
  induction xs with
  | nil => simp [sumI]
  | cons y r ih => simp only [List.cons_append, sumI, ih]; omega
theorem sumI_le (xs : List It) : 0 ≤ sumI xs ∧ sumI xs ≤ 100000 * xs.length := by
  induction xs with
  | nil => simp [sumI]
  | cons y r ih => have := cap5_nonneg y.2.2.length; simp only [sumI, List.length_cons]; omega
theorem sumI_mem {xs : List It} {x : It} (h : x ∈ xs) : cap5 x.2.2.length ≤ sumI xs := by
  induction xs with
  | nil => cases h
  | cons y r ih =>
    have := cap5_nonneg y.2.2.length
    have := (sumI_le r).1
    simp only [sumI]
    rcases List.mem_cons.1 h with rfl | h
    · omega
    · have := ih h; omega
def greatI (l : List It) : Bool := decide (1000 < l.length) || decide (50000 < sumI (l.take 2000))
/-- Items that are not great are few and small. -/
structure Few (l : List It) : Prop where
  many : l.length ≤ 1000
  val : ∀ (k : Nat) (x : It), l[k]? = some x → x.2.2.length ≤ 100000
theorem few_of {l : List It} (h : greatI l = false) : Few l := by
  simp only [greatI, Bool.or_eq_false_iff, decide_eq_false_iff_not] at h
  obtain ⟨h1, h2⟩ := h
  rw [List.take_of_length_le (by omega)] at h2
  refine ⟨by omega, fun k x hk => ?_⟩
  have := sumI_mem (List.mem_of_getElem? hk)
  unfold cap5 at this
  split at this <;> omega

end Go.Proofs.YtjlbkcnhbndgbaaGreat

/-
  Bytes of the call's own that are turned where they lie; what lies elsewhere stays. Facts on items whose cells lie in a range that does not move. Conditions: those that each lemma states.
-/
namespace Go.Proofs.YtjlbkcnhbndgbaaGreat
open Go.RowKit

structure Turnt (lo hi : Nat) (w wr : World) : Prop where
  sp : Spoilt lo w wr
  keep : ∀ k, hi ≤ k → wr.heap[k]? = w.heap[k]?
theorem Turnt.refl (lo hi : Nat) (w : World) : Turnt lo hi w w := ⟨Spoilt.refl _ _, fun _ _ => rfl⟩
theorem Turnt.step {lo hi : Nat} {w wr : World} (h : Turnt lo hi w wr) {p : Addr} (hp : lo ≤ p.block) (hp' : p.block < hi) {x : UInt8} (hx : wr.cell? p = some (.int .u8 (x.toNat : Int))) (y : UInt8) : Turnt lo hi w (wr.setCell p (.int .u8 (y.toNat : Int))) :=
  ⟨h.sp.step hp hx y, fun k hk => (Below.heap_setCell wr p _ k (by omega)).trans (h.keep k hk)⟩
theorem Turnt.drew {lo hi : Nat} {w wr : World} (h : Turnt lo hi w wr) : Turnt lo hi w wr.drew := ⟨h.sp.drew, h.keep⟩
theorem Turnt.block {lo hi : Nat} {w wr : World} (h : Turnt lo hi w wr) {k : Nat} (hk : k < lo ∨ hi ≤ k) : wr.heap[k]? = w.heap[k]? := by
  rcases hk with hk | hk
  · exact h.sp.low.block k hk
  · exact h.keep k hk
theorem Turnt.cell {lo hi : Nat} {w wr : World} (h : Turnt lo hi w wr) {p : Addr} (hk : p.block < lo ∨ hi ≤ p.block) : wr.cell? p = w.cell? p := World.cell?_of_block (h.block hk)
theorem Turnt.by_out {lo hi : Nat} {w wr : World} {ok : Addr → Prop} {v : Value} {xs : List UInt8} (h : Turnt lo hi w wr) (hok : ∀ p, ok p → p.block < lo ∨ hi ≤ p.block) (hx : rBy ok w [v] xs) : rBy ok wr [v] xs :=
  stab_by _ _ _ _ _ _ (fun p _ hp hc => ⟨hp, (h.cell (hok p hp)).trans hc⟩) hx
theorem Turnt.itm_out {lo hi : Nat} {w wr : World} {ok : Addr → Prop} {v : Value} {s : It} (h : Turnt lo hi w wr) (hok : ∀ p, ok p → p.block < lo ∨ hi ≤ p.block) (hx : Itm ok w v s) : Itm ok wr v s :=
  hx.map fun p _ hp hc => ⟨hp, (h.cell (hok p hp)).trans hc⟩
theorem Turnt.box5 {lo hi g : Nat} {w wr : World} {a b c d e : Value} (h : Turnt lo hi w wr) (hg : g < lo ∨ hi ≤ g) (hb : Box5 g a b c d e w) : Box5 g a b c d e wr :=
  ⟨(h.cell (p := ⟨g, 0, none⟩) hg).trans hb.1, (h.cell (p := ⟨g, 1, none⟩) hg).trans hb.2.1, (h.cell (p := ⟨g, 2, none⟩) hg).trans hb.2.2.1, (h.cell (p := ⟨g, 3, none⟩) hg).trans hb.2.2.2.1, (h.cell (p := ⟨g, 4, none⟩) hg).trans hb.2.2.2.2.1, Nat.lt_of_lt_of_le hb.2.2.2.2.2 h.sp.low.size⟩

/-- Facts whose cells lie in a range that does not move. -/
def OnI (ok : Addr → Prop) (v : Value) (s : It) : World → Prop := fun w => Itm ok w v s
theorem lasts_onI (ok : Addr → Prop) (v : Value) (s : It) : Lasts (OnI ok v s) := fun w _ h hb => Itm.map (fun p _ hp hc => ⟨hp, (hb.cell (World.block_lt_of_cell? w p hc)).trans hc⟩) h
def OnB (ok : Addr → Prop) (v : Value) (xs : List UInt8) : World → Prop := fun w => rBy ok w [v] xs
theorem lasts_onB (ok : Addr → Prop) (v : Value) (xs : List UInt8) : Lasts (OnB ok v xs) := fun w _ h hb => stab_by _ _ _ _ _ _ (fun p _ hp hc => ⟨hp, (hb.cell (World.block_lt_of_cell? w p hc)).trans hc⟩) h
theorem OnI.old {ok : Addr → Prop} {v : Value} {s : It} {w : World} (h : OnI ok v s w) : Itm (Old w) w v s := Itm.map (fun p _ _ hc => ⟨World.block_lt_of_cell? w p hc, hc⟩) h
theorem OnB.old {ok : Addr → Prop} {v : Value} {xs : List UInt8} {w : World} (h : OnB ok v xs w) : rBy (Old w) w [v] xs := stab_by _ _ _ _ _ _ (fun p _ _ hc => ⟨World.block_lt_of_cell? w p hc, hc⟩) h
/-- Where the bytes of an item of the call's own lie. -/
def In (lo hi : Nat) : Addr → Prop := fun p => lo ≤ p.block ∧ p.block < hi
theorem on_new {lo : Nat} {w : World} {v : Value} {s : It} (h : Itm (New lo w) w v s) : OnI (In lo w.heap.size) v s w := h.map fun _ _ hp hc => ⟨⟨hp.1, hp.2.1⟩, hc⟩
theorem on_old {w : World} {v : Value} {s : It} (h : Itm (Old w) w v s) : OnI (In 0 w.heap.size) v s w := h.map fun _ _ hp hc => ⟨⟨Nat.zero_le _, hp⟩, hc⟩
theorem onB_old {w : World} {v : Value} {xs : List UInt8} (h : rBy (Old w) w [v] xs) : OnB (In 0 w.heap.size) v xs w := stab_by _ _ _ _ _ _ (fun _ _ hp hc => ⟨⟨Nat.zero_le _, hp⟩, hc⟩) h
/-- An item of the call's own whose bytes lie in a range that does not move. -/
def Fz (lo hi : Nat) (w : World) : Addr → Prop := fun p => lo ≤ p.block ∧ p.block < hi ∧ w.frozen? p = false
def NewIn (lo hi : Nat) (v : Value) (s : It) : World → Prop := fun w => Itm (Fz lo hi w) w v s ∧ hi ≤ w.heap.size
theorem lasts_newIn (lo hi : Nat) (v : Value) (s : It) : Lasts (NewIn lo hi v s) := fun _ _ h hb => ⟨h.1.map fun _ _ hp hc => ⟨⟨hp.1, hp.2.1, (hb.frozen (Nat.lt_of_lt_of_le hp.2.1 h.2)).trans hp.2.2⟩, (hb.cell (Nat.lt_of_lt_of_le hp.2.1 h.2)).trans hc⟩, Nat.le_trans h.2 hb.size⟩
theorem newIn_of {lo : Nat} {w : World} {v : Value} {s : It} (h : Itm (New lo w) w v s) : NewIn lo w.heap.size v s w := ⟨h, Nat.le_refl _⟩
theorem Turnt.newIn_out {lo hi lo' hi' : Nat} {w wr : World} {v : Value} {s : It} (h : Turnt lo hi w wr) (hk : hi' ≤ lo ∨ hi ≤ lo') (hx : NewIn lo' hi' v s w) : NewIn lo' hi' v s wr :=
  ⟨hx.1.map fun p _ hp hc => by
    have hb := h.block (k := p.block) (by have h1 := hp.1; have h2 := hp.2.1; omega)
    exact ⟨⟨hp.1, hp.2.1, (World.frozen?_of_block hb).trans hp.2.2⟩, (World.cell?_of_block hb).trans hc⟩, Nat.le_trans hx.2 h.sp.low.size⟩
/-- A byte of an item of the call's own, somewhat later in a loop that turns them. -/
theorem turn_at {lo hi : Nat} {w wr : World} {s : It} {A : Option Addr} {n c k : Nat} (h1 : NewIn lo hi (itV s (.slice A n c)) s w) (h : Turnt lo hi w wr) (hk : k < s.2.2.length) :
    ∃ (ad : Addr) (y : UInt8), A = some ad ∧ wr.cell? (ad.add k) = some (.int .u8 (y.toNat : Int)) ∧ wr.frozen? (ad.add k) = false ∧ Turnt lo hi w (wr.setCell (ad.add k) (.int .u8 ((y + 1).toNat : Int))) := by
  obtain ⟨⟨d, e, _, r1⟩, hs⟩ := h1
  have ed : d = .slice A n c := by injection e with e; simpa using e.symm
  subst ed
  obtain ⟨_, _, e3, _, _, o1⟩ := rBy_open r1
  cases e3
  obtain ⟨ad, rfl, hn, hc⟩ := o1 k hk
  have hlt : (ad.add k).block < w.heap.size := Nat.lt_of_lt_of_le hn.2.1 hs
  obtain ⟨y, hy⟩ := h.sp.byte (ad.add k) _ hlt hc
  exact ⟨ad, y, rfl, hy, (h.sp.fro _ hlt).trans hn.2.2, h.step hn.1 hn.2.1 hy (y + 1)⟩
end Go.Proofs.YtjlbkcnhbndgbaaGreat

/-
  A bag's facts on nodes; what places tell, plain. Conditions: those that each lemma states.
-/
namespace Go.Proofs.YtjlbkcnhbndgbaaGreat
open Go.RowKit

theorem bag_node {w w1 : World} {Fs : List (World → Prop)} (h : Bag w Fs) (hb : Below w.heap.size w w1) (a b : Value) : ∃ w', w1.alloc (.cells #[a, b] 47) = w' ∧ Bag w' (Box2 w1.heap.size a b :: Fs) ∧ Below w.heap.size w w' ∧ Below w1.heap.size w1 w' ∧ w1.heap.size < w'.heap.size := by
  obtain ⟨w2, e2, b2, k4, k5⟩ := box_pair' w1 a b 47
  obtain ⟨k1, k2, _, k3⟩ := two_cells b2
  exact ⟨w2, e2, ((h.below hb).below k5).add ⟨k1, k2, k3⟩ (lasts_box _ _ _), hb.trans (k5.mono hb.size), k5, by omega⟩
def OldN (v : Value) (n : Nd) : World → Prop := fun w => Nod (Old w) w v n
theorem lasts_oldN (v : Value) (n : Nd) : Lasts (OldN v n) := fun _ _ h hb => h.below hb
def OldIs (v : Value) (l : List It) : World → Prop := fun w => rIts (Old w) w [v] l
theorem lasts_oldIs (v : Value) (l : List It) : Lasts (OldIs v l) := fun _ _ h hb => stab_its.old h hb

/-! ### Places -/
theorem cntK_all {l : List It} {k : Ky} : ∀ {i : Nat}, i ≤ l.length → (∀ j x, j < i → l[j]? = some x → lessK x.1 k = true) → cntK (l.take i) k = i
  | 0, _, _ => rfl
  | i + 1, hi, h => by
    have hx : l[i]? = some l[i] := List.getElem?_eq_getElem hi
    rw [cntK_yes hx (h i _ (by omega) hx), cntK_all (by omega) (fun j x hj => h j x (by omega))]
theorem cntK_up (l : List It) (k : Ky) (i : Nat) : cntK (l.take i) k ≤ cntK l k := by
  unfold cntK
  exact ((List.take_sublist i l).filter _).length_le
theorem cntK_stop {l : List It} {k : Ky} {i : Nat} (h : ∀ j x, i ≤ j → l[j]? = some x → lessK x.1 k = false) : cntK l k = cntK (l.take i) k := by
  have e : cntK l k = cntK (l.take i) k + cntK (l.drop i) k := by
    unfold cntK
    rw [← List.length_append, ← List.filter_append, List.take_append_drop]
  have z : cntK (l.drop i) k = 0 := by
    unfold cntK
    rw [List.length_eq_zero_iff, List.filter_eq_nil_iff]
    intro x hx
    obtain ⟨j, hj⟩ := List.mem_iff_getElem?.1 hx
    rw [List.getElem?_drop] at hj
    rw [h (i + j) x (by omega) hj]
    simp
  omega
theorem place_parts {n : Nd} (h : mayN n = true) {k : Ky} {i : Nat} {x : It} (hx : n.2[i]? = some x) : lessK x.1 k = decide (i < placeN n k) := by
  have hi := (List.getElem?_eq_some_iff.1 hx).1
  cases e : lessK x.1 k with
  | true =>
    have h1 : cntK (n.2.take (i + 1)) k = i + 1 := cntK_all (by omega) (fun j y hj hy => by
      rcases Nat.lt_or_ge j i with h2 | h2
      · exact less_trans (mayN_rises h h2 hy hx) e
      · obtain rfl : j = i := by omega
        rw [hx] at hy
        cases hy
        exact e)
    have h2 := cntK_up n.2 k (i + 1)
    have h3 : placeN n k = cntK n.2 k := rfl
    have : i < placeN n k := by omega
    simp [this]
  | false =>
    have h1 : cntK n.2 k = cntK (n.2.take i) k := cntK_stop (fun j y hj hy => by
      rcases Nat.lt_or_ge i j with h2 | h2
      · cases e2 : lessK y.1 k with
        | false => rfl
        | true =>
          have := less_trans (mayN_rises h h2 hx hy) e2
          rw [e] at this
          cases this
      · obtain rfl : i = j := by omega
        rw [hx] at hy
        cases hy
        exact e)
    have h2 := cntK_take n.2 k i
    have h3 : placeN n k = cntK n.2 k := rfl
    have : ¬ i < placeN n k := by omega
    simp [this]
theorem placeN_le (n : Nd) (k : Ky) : placeN n k ≤ n.2.length := cntK_le _ _
theorem place_own {n : Nd} (h : mayN n = true) {i : Nat} {x : It} (hx : n.2[i]? = some x) : placeN n x.1 = i ∧ thereN n x.1 = true := by
  have hi := (List.getElem?_eq_some_iff.1 hx).1
  have h1 : ¬ i < placeN n x.1 := fun h2 => by
    have := place_parts h (k := x.1) hx
    rw [less_self] at this
    simp [h2] at this
  have h2 : placeN n x.1 = i := by
    rcases Nat.eq_zero_or_pos i with h0 | h0
    · omega
    · obtain ⟨j, rfl⟩ : ∃ j, i = j + 1 := ⟨i - 1, by omega⟩
      have hy : n.2[j]? = some n.2[j] := List.getElem?_eq_getElem (by omega)
      have h3 := place_parts h (k := x.1) hy
      rw [mayN_rise h hy hx] at h3
      have : j < placeN n x.1 := by simpa using h3.symm
      omega
  exact ⟨h2, by rw [thereN_at (by rw [h2]; exact hx)]; simp⟩
def anyK (l : List It) (k : Ky) : Bool := l.any fun x => decide (x.1 = k)
theorem anyK_nil (k : Ky) : anyK [] k = false := rfl
theorem anyK_snoc {l : List It} {k : Ky} {i : Nat} {x : It} (hx : l[i]? = some x) : anyK (l.take (i + 1)) k = (anyK (l.take i) k || decide (x.1 = k)) := by
  unfold anyK
  rw [List.take_add_one, hx, Option.toList_some, List.any_append]
  simp
theorem thereN_any {n : Nd} (h : mayN n = true) (k : Ky) : thereN n k = anyK n.2 k := by
  cases e : anyK n.2 k with
  | true =>
    unfold anyK at e
    rw [List.any_eq_true] at e
    obtain ⟨x, hx, hk⟩ := e
    obtain ⟨i, hi⟩ := List.mem_iff_getElem?.1 hx
    have hk' : x.1 = k := by simpa using hk
    rw [← hk']
    exact (place_own h hi).2
  | false =>
    cases e2 : thereN n k with
    | false => rfl
    | true =>
      unfold thereN at e2
      cases e3 : n.2[placeN n k]? with
      | none => rw [e3] at e2; cases e2
      | some x =>
        rw [e3] at e2
        unfold anyK at e
        rw [List.any_eq_false] at e
        exact absurd e2 (by simpa using e x (List.mem_of_getElem? e3))
theorem place_mono {n : Nd} {a b : Ky} (h : lessK a b = true) : placeN n a ≤ placeN n b := by
  show cntK n.2 a ≤ cntK n.2 b
  unfold cntK
  induction n.2 with
  | nil => simp
  | cons x r ih =>
    simp only [List.filter_cons]
    cases e : lessK x.1 a with
    | true => rw [less_trans e h]; simpa using ih
    | false =>
      cases e2 : lessK x.1 b with
      | true => simp; omega
      | false => simpa using ih
end Go.Proofs.YtjlbkcnhbndgbaaGreat

/-
  The document's answers of layers 5, 6: SameItems, Same, Place. Conditions: those that each lemma states.
-/
namespace Go.Proofs.YtjlbkcnhbndgbaaGreat
open Go.RowKit

set_option maxRecDepth 100000 in
set_option maxHeartbeats 4000000 in
theorem refSameIs_any (v u : Value) (xs ys : List It) (w : World) (hv : rIts (Old w) w [v] xs) (hu : rIts (Old w) w [u] ys) :
    Calls Tryz.prog 43 #[v, u] w fun e w' => e = .returned (.bool (sameIs xs ys)) ∧ Below w.heap.size w w' := by
  obtain ⟨A, a, rfl, la, ma⟩ := its_open hv
  obtain ⟨B, b, rfl, lb, mb⟩ := its_open hu
  have HA := Lib.hid hv
  have HB := Lib.hid hu
  clear hv hu
  have hdef : Hid (sameIs xs ys = decide (xs = ys)) := Lib.hid rfl
  generalize sameIs xs ys = res at hdef ⊢
  obtain ⟨n, hn⟩ : ∃ n, xs.length = n := ⟨_, rfl⟩
  obtain ⟨m, hm⟩ : ∃ m, ys.length = m := ⟨_, rfl⟩
  rw [hn] at la HA ⊢
  rw [hm] at lb HB ⊢
  replace hn := Lib.hid hn
  replace hm := Lib.hid hm
  by_cases h1 : n = m
  · subst h1
    go_enter Tryz.func43, Tryz.ntmps43
    go_wp2_with fail
    go_loopw [5] (fun i wr => ∃ k : Nat, k ≤ n ∧ i = .int .i64 k ∧ xs.take k = ys.take k ∧ Below w.heap.size w wr) (fun i _ => n - (intOf i).toNat)
    case atStart => exact ⟨0, by omega, rfl, rfl, Below.refl _ _⟩
    case round =>
      obtain ⟨k, hk, rfl, ha, hb⟩ := hrel
      replace ha := Lib.hid ha
      replace hb := Lib.hid hb
      by_cases hlt : k < n
      · obtain ⟨x, hx⟩ : ∃ x, xs[k]? = some x := ⟨_, List.getElem?_eq_getElem (by rw [hn.out]; exact hlt)⟩
        obtain ⟨y, hy⟩ : ∃ y, ys[k]? = some y := ⟨_, List.getElem?_eq_getElem (by rw [hm.out]; exact hlt)⟩
        obtain ⟨ad, E, ce, rfl, _, _, _, FX⟩ := its_old HA.out hx
        obtain ⟨bd, E', ce', rfl, _, _, _, FY⟩ := its_old HB.out hy
        replace hx := Lib.hid hx
        replace hy := Lib.hid hy
        have FX' := Lib.hid (fun W (hW : Below wr.heap.size wr W) => FX W (hb.out.trans (hW.mono hb.out.size)))
        have FY' := Lib.hid (fun W (hW : Below wr.heap.size wr W) => FY W (hb.out.trans (hW.mono hb.out.size)))
        have i1 : (0 : Int) ≤ (k : Int) := by omega
        have i2 : (k : Int) < (n : Int) := by omega
        obtain ⟨s, hs⟩ : ∃ s, sameI x y = s := ⟨_, rfl⟩
        have hs' := Lib.hid hs
        clear hs FX FY
        unfold itV at *
        go_wp2_with fail
        refine wp_region_fx (by kernel_rfl) (fun W => Below wr.heap.size wr W) (fun _ => none) (fun i => match i with
          | 8 => some (.bool s)
          | _ => none) (by kernel_rfl) (Below.refl _ _).drew (fun w w' h hb => h.trans (hb.mono h.size)) (fun j φ x W W' hp => by cases hp) ?_
        repeat (first
          | (refine wpAs_skip rfl ?_; simp only [Act.put, List.setIfInBounds_toArray, List.set_cons_zero, List.set_cons_succ])
          | (refine wpAs_pure (v := ?_) rfl rfl ?_ ?_; rotate_left; (intro W hC hE; clear hE; (obtain ⟨⟨z0, z1, z2, z3, z4⟩, _⟩ := FX'.out W hC; obtain ⟨⟨y0, y1, y2, y3, y4⟩, _⟩ := FY'.out W hC); clear hC; go_simp; done); simp only [Act.put, List.setIfInBounds_toArray, List.set_cons_zero, List.set_cons_succ])
          | (refine wpAs_pure (v := ?_) rfl rfl ?_ ?_; rotate_left; (intro W hC hE; clear hE; (obtain ⟨⟨z0, z1, z2, z3, z4⟩, _⟩ := FX'.out W hC; obtain ⟨⟨y0, y1, y2, y3, y4⟩, _⟩ := FY'.out W hC); clear hC; go_simp; with_reducible rfl); simp only [Act.put, List.setIfInBounds_toArray, List.set_cons_zero, List.set_cons_succ]))
        refine wpAs_fixed rfl rfl rfl ?_ ?_
        · intro W hC hE
          refine does_enter (f := 69) (args := #[.agg #[.int .u8 (x.1.1.toNat : Int), .int .u32 x.1.2.1, .int .u32 x.1.2.2, .int .i64 x.2.1, .slice E x.2.2.length ce], .agg #[.int .u8 (y.1.1.toNat : Int), .int .u32 y.1.2.1, .int .u32 y.1.2.2, .int .i64 y.2.1, .slice E' y.2.2.length ce']]) ?_ ?_
          · go_simp
          · refine (refSameI_any _ _ x y W (FX'.out W hC).2 (FY'.out W hC).2).mono ?_
            (rintro e W' ⟨rfl, hg⟩; rw [hs'.out])
            exact ⟨_, rfl, rfl, hg⟩
        simp only [Act.put, List.setIfInBounds_toArray, List.set_cons_zero, List.set_cons_succ]
        repeat (first
          | (refine wpAs_skip rfl ?_; simp only [Act.put, List.setIfInBounds_toArray, List.set_cons_zero, List.set_cons_succ])
          | (refine wpAs_pure (v := ?_) rfl rfl ?_ ?_; rotate_left; (intro W hC hE; clear hE; skip; clear hC; go_simp; done); simp only [Act.put, List.setIfInBounds_toArray, List.set_cons_zero, List.set_cons_succ])
          | (refine wpAs_pure (v := ?_) rfl rfl ?_ ?_; rotate_left; (intro W hC hE; clear hE; skip; clear hC; go_simp; with_reducible rfl); simp only [Act.put, List.setIfInBounds_toArray, List.set_cons_zero, List.set_cons_succ]))
        refine wpAs_end fun W hC hE => ?_
        have BW := Lib.hid (hb.out.trans (hC.mono hb.out.size))
        clear hE hC
        cases s with
        | true =>
          have he := Lib.hid (sameI_eq hs'.out)
          go_wp2_with fail
          go_roundw
          case rel => exact ⟨k + 1, by omega, by go_num, take_eq_succ ha.out hx.out hy.out he.out, BW.out⟩
          case measure => simp [intOf]; omega
        | false =>
          have hne := Lib.hid (show res = false by rw [hdef.out]; simpa using ne_of_at hx.out hy.out (fun h => by have := hs'.out; rw [h, sameI_self] at this; cases this))
          go_wp2_with fail
          go_ret
          exact ⟨ret_bool hne.out.symm, BW.out⟩
      · have hge : n ≤ k := by omega
        have he : Hid (res = true) := Lib.hid (by
          have := ha.out
          rw [List.take_of_length_le (by rw [hn.out]; exact hge), List.take_of_length_le (by rw [hm.out]; exact hge)] at this
          rw [hdef.out]
          simpa using this)
        go_wp2_with fail
        go_ret
        exact ⟨ret_bool he.out.symm, hb.out⟩
  · have he : Hid (res = false) := Lib.hid (by
      rw [hdef.out]
      simp only [decide_eq_false_iff_not]
      intro e
      have := hn.out
      rw [e, hm.out] at this
      exact h1 this.symm)
    have h1' : ((n : Int) != m) = true := by simp; omega
    go_enter Tryz.func43, Tryz.ntmps43
    go_wp2_with fail
    go_ret
    exact ⟨ret_bool he.out.symm, Below.refl _ _⟩

set_option maxRecDepth 100000 in
set_option maxHeartbeats 2000000 in
theorem refSameN_any (v u : Value) (a b : Nd) (w : World) (hv : Nod (Old w) w v a) (hu : Nod (Old w) w u b) :
    Calls Tryz.prog 16 #[v, u] w fun e w' => e = .returned (.bool (sameN a b)) ∧ Below w.heap.size w w' := by
  obtain ⟨d, rfl, _, hd⟩ := hv
  obtain ⟨d', rfl, _, hd'⟩ := hu
  have hp := Lib.hid (sameN_parts a b)
  generalize sameN a b = res at hp ⊢
  obtain ⟨w1, hw1, b1, hs1, hB1⟩ := box_pair' w (.int .i64 a.1) d 47
  obtain ⟨w2, hw2, b2, hs2, hB2⟩ := box_pair' w1 (.int .i64 b.1) d' 47
  obtain ⟨f1, f2, _, lt1⟩ := two_cells ((hB2.block w.heap.size (by omega)).trans b1)
  obtain ⟨g1, g2, _, _⟩ := two_cells b2
  have hB0 := hB1.trans (hB2.mono hB1.size)
  have HD := Lib.hid (stab_its.old hd hB0)
  have HD' := Lib.hid (stab_its.old hd' hB0)
  obtain ⟨_, _, rfl, _⟩ := its_open hd
  obtain ⟨_, _, rfl, _⟩ := its_open hd'
  replace hB0 := Lib.hid hB0
  replace hs1 := Lib.hid hs1
  replace hs2 := Lib.hid hs2
  replace b1 := Lib.hid b1
  replace b2 := Lib.hid b2
  clear hd hd' hB1 hB2
  by_cases h : a.1 = b.1
  · have h1 : (a.1 == b.1) = true := by simpa using h
    have hfin := Lib.hid (show sameIs a.2 b.2 = res by rw [hp.out]; simp [h])
    replace h := Lib.hid h
    go_enter Tryz.func16, Tryz.ntmps16
    go_upto_region 1 with fail
    clear hw1 hw2
    go_wp2_with fail
    with_reducible refine (refSameIs_any _ _ a.2 b.2 _ HD.out HD'.out).mono ?_
    rintro e3 w3 ⟨rfl, hb3⟩
    rw [hfin.out]
    have BF := Lib.hid (hB0.out.trans (hb3.mono hB0.out.size))
    clear hb3
    go_wp2_with fail
    go_ret
    exact ⟨rfl, BF.out⟩
  · have h1 : (a.1 == b.1) = false := by simpa using h
    have hfin := Lib.hid (show res = false by rw [hp.out]; simp [h])
    replace h := Lib.hid h
    go_enter Tryz.func16, Tryz.ntmps16
    go_upto_region 1 with fail
    clear hw1 hw2
    go_wp2_with fail
    go_ret
    exact ⟨ret_bool hfin.out.symm, hB0.out⟩

end Go.Proofs.YtjlbkcnhbndgbaaGreat
