/-
  RoomNames answers true: the errors have their numbers, and the chapter's examples are so. No condition.
-/
import Derived.Test.YtjlbkcnhbndgbaaBnd3
namespace Go.Proofs.Ytjlbkcnhbndgbaa.roomNames
open Go.ChangeShapes Go.WideShapes Go.RowKit

theorem own : ownKnob Try.prog.godebug = none := by kernel_rfl
theorem laidOut : laidOutB Try.prog = true := by kernel_rfl

theorem new_as8 : asE newR 8 = 6 := by
  unfold asE
  rw [may_new]
  decide +kernel
theorem new_as7 : asE newR 7 = 2 := by
  unfold asE
  rw [may_new]
  decide +kernel
theorem new_tk0 : tkE newR [] = 3 := by
  unfold tkE
  rw [may_new]
  rfl
set_option maxRecDepth 100000 in
set_option maxHeartbeats 8000000 in
theorem walk (w : World) : Calls Try.prog 3 #[] w fun e w' => e = .returned (.bool true) ∧ Below w.heap.size w w' := by
  obtain ⟨Z, hZ⟩ : ∃ Z, zeros 128 = Z := ⟨_, rfl⟩
  have hZl : Hid (Z.length = 128) := Lib.hid (by rw [← hZ]; exact zeros_length 128)
  have hmk : ∀ W, (Instr.makeSlice 31 (.int .i64 128) (.int .i64 128)).run Try.prog W = .ok (.slice (some ⟨W.heap.size, 0, none⟩) 128 128) (W.alloc (.cells (rowA Z) 5)) := fun W => by rw [← hZ]; exact make_bytes 128 (by omega) W
  clear hZ
  obtain ⟨t1, t2, _, t4, t5, t6, t7, t8⟩ := new_take hZl.out
  have hT : Hid (∀ v u W, Sto (Old W) W v newR → rBy (Old W) W [u] Z → Calls Try.prog 11 #[v, u] W fun e W' => ∃ A ca B cb N cn L cl, e = .returned (.tuple #[.agg #[.slice A 256 ca, .slice B 1 cb, .slice N 256 cn, .slice L 256 cl], .int .i64 8, .int .i64 0]) ∧
      Sto (New W.heap.size W') W' (.agg #[.slice A 256 ca, .slice B 1 cb, .slice N 256 cn, .slice L 256 cl]) (tkV newR Z) ∧ Below W.heap.size W W') := Lib.hid fun v u W h hu => by
    refine (takeR_any v u newR Z W h hu).mono ?_
    rintro e W' ⟨t, rfl, ht, hb⟩
    obtain ⟨A, ca, B, cb, N, cn, L, cl, rfl, _⟩ := id ht.open
    rw [t4, t5, t6, t7] at ht ⊢
    rw [t1, t2]
    exact ⟨A, ca, B, cb, N, cn, L, cl, rfl, ht, hb⟩
  have hVf := Lib.hid (full_tk newR Z)
  have hVm := Lib.hid (tk_may t1)
  have hVl : Hid (freeL (tkV newR Z) = 9 :: (freeL newR).drop 2 ∧ (freeL (tkV newR Z)).length = 247) := Lib.hid (by
    have h := tk_free t1
    rw [h]
    exact ⟨by rw [new_free.2]; rfl, by rw [List.length_tail, new_free.1]⟩)
  have hNl : Hid (freeL newR = 8 :: 9 :: (freeL newR).drop 2 ∧ (freeL newR).length = 248) := Lib.hid ⟨new_free.2, new_free.1⟩
  generalize tkV newR Z = V at *
  replace t4 := Lib.hid t4
  replace t5 := Lib.hid t5
  replace t6 := Lib.hid t6
  replace t7 := Lib.hid t7
  replace t8 := Lib.hid t8
  clear t1 t2
  have ha8 := Lib.hid new_as8
  have ha7 := Lib.hid new_as7
  have ha0 := Lib.hid new_tk0
  have hs8 : Hid (shE newR 8 = 6 ∧ shV newR 8 = emptyR) := Lib.hid (by
    have h : asE newR 8 ≠ 0 := by rw [new_as8]; decide
    have e := sh_bad h
    exact ⟨by rw [e, new_as8], sh_no (by rw [e]; exact h)⟩)
  have hs7 : Hid (shE newR 7 = 2 ∧ shV newR 7 = emptyR) := Lib.hid (by
    have h : asE newR 7 ≠ 0 := by rw [new_as7]; decide
    have e := sh_bad h
    exact ⟨by rw [e, new_as7], sh_no (by rw [e]; exact h)⟩)
  have hn8 : Hid (rmE newR 8 = 6 ∧ rmV newR 8 = zeroN) := Lib.hid (by
    have h : asE newR 8 ≠ 0 := by rw [new_as8]; decide
    obtain ⟨h1, h2⟩ := rm_bad h
    exact ⟨by rw [h1, new_as8], h2⟩)
  have ht0 : Hid (tkE newR [] = 3 ∧ tkN newR [] = 0 ∧ tkV newR [] = emptyR) := Lib.hid (by
    obtain ⟨h1, h2⟩ := tk_no (s := newR) (b := []) (by rw [new_tk0]; decide)
    exact ⟨new_tk0, h1, h2⟩)
  go_enter Try.func3, Try.ntmps3
  go_wp2_with fail
  with_reducible refine (alive8 _).mono ?_
  rintro e w1 ⟨rfl, hb1⟩
  have B1 := Lib.hid hb1
  clear hb1
  go_wp2_with fail
  with_reducible refine (newR_any _).mono ?_
  rintro e w2 ⟨t, rfl, ht, hb2⟩
  have T2 := Lib.hid ht.drop
  have B2 := Lib.hid (B1.out.trans (hb2.mono B1.out.size))
  clear ht hb2 B1
  go_wp2_with fail
  with_reducible refine (freeR_open _ newR may_new _ T2.out).mono ?_
  rintro e w3 ⟨X, xc, rfl, hx, hb3⟩
  rw [hNl.out.2] at hx ⊢
  have HG3 : Hid (Bag w3 [OldZ (.slice X 248 xc) (intsN (freeL newR))]) := Lib.hid ((Bag.nil w3).add (F := OldZ _ _) (stab_ints.drop hx) (lasts_oldZ _ _))
  have B3 := Lib.hid (B2.out.trans (hb3.mono B2.out.size))
  clear hx hb3 T2 B2
  go_upto_region 4 with fail
  refine wp_region_late (ops' := ?opsLate) (by kernel_rfl) [(8, 5), (8, 6), (9, 6)] ?he (by kernel_rfl) (fun d _ _ _ _ h => by cases d <;> exact h) 8 (fun W => Below w3.heap.size w3 W) (fun i => match i with
      | 0 => some (fun v W => Sto (Old W) W v newR)
      | 1 => some (fun v W => rBy (Old W) W [v] Z)
      | 2 => some (fun v W => ∃ A ca B cb N cn L cl, v = .tuple #[.agg #[.slice A 256 ca, .slice B 1 cb, .slice N 256 cn, .slice L 256 cl], .int .i64 8, .int .i64 0] ∧ Sto (Old W) W (.agg #[.slice A 256 ca, .slice B 1 cb, .slice N 256 cn, .slice L 256 cl]) V)
      | 3 => some (fun v W => ∃ A ca B cb N cn L cl, v = .tuple #[.agg #[.slice A 256 ca, .slice B 1 cb, .slice N 256 cn, .slice L 256 cl], .int .i64 8, .int .i64 0] ∧ Sto (Old W) W (.agg #[.slice A 256 ca, .slice B 1 cb, .slice N 256 cn, .slice L 256 cl]) V)
      | 4 => some (fun v W => ∃ A ca B cb N cn L cl, v = .agg #[.slice A 256 ca, .slice B 1 cb, .slice N 256 cn, .slice L 256 cl] ∧ Sto (Old W) W (.agg #[.slice A 256 ca, .slice B 1 cb, .slice N 256 cn, .slice L 256 cl]) V)
      | 7 => some (fun v W => ∃ g, v = .pointer (some ⟨g, 0, none⟩) ∧ w3.heap.size ≤ g ∧ W.heap[g]? = some (.cells #[.slice none 0 0, .slice none 0 0, .slice none 0 0, .slice none 0 0] 33 (0, 0)))
      | _ => none) (fun i => match i with
      | 5 => some (.int .i64 8)
      | 6 => some (.int .i64 0)
      | _ => none) ?h1 ?h2 ?h3 (Below.refl _ _).drew (fun w w' h hb => h.trans (hb.mono h.size)) ?tst ?_
  case he =>
    simp [withEdges]
    rfl
  case h1 => decide
  case h2 => kernel_rfl
  case h3 => kernel_rfl
  case tst =>
    intro j φ x W W' hp hx hb
    match j, hp with
    | 0, hp => cases hp; exact hx.below hb
    | 1, hp => cases hp; exact stab_by.old hx hb
    | 2, hp => cases hp; obtain ⟨A, ca, B, cb, N, cn, L, cl, e, h⟩ := hx; exact ⟨A, ca, B, cb, N, cn, L, cl, e, h.below hb⟩
    | 3, hp => cases hp; obtain ⟨A, ca, B, cb, N, cn, L, cl, e, h⟩ := hx; exact ⟨A, ca, B, cb, N, cn, L, cl, e, h.below hb⟩
    | 4, hp => cases hp; obtain ⟨A, ca, B, cb, N, cn, L, cl, e, h⟩ := hx; exact ⟨A, ca, B, cb, N, cn, L, cl, e, h.below hb⟩
    | 7, hp => cases hp; obtain ⟨g, e, h1, h2⟩ := hx; exact ⟨g, e, h1, (hb.block g (Array.getElem?_eq_some_iff.1 h2).1).trans h2⟩
  simp only [List.take_succ_cons, List.take_zero, List.drop_succ_cons, List.drop_zero]
  refine wpAs_act rfl rfl ?_ ?_
  · intro W hC hE
    clear hE
    refine does_enter (f := 10) (args := #[]) ?_ ?_
    · go_simp
    · refine (newR_any W).mono ?_
      rintro e W' ⟨u, rfl, hu, hb⟩
      exact ⟨_, rfl, hu.drop, hb⟩
  simp only [Act.put, List.setIfInBounds_toArray, List.set_cons_zero, List.set_cons_succ, envAdd]
  intro x5
  refine wpAs_act rfl rfl ?_ ?_
  · intro W hC hE
    clear hE
    exact does_mk 31 (.const (.int .i64 128)) (.const (.int .i64 128)) rfl (hmk W) ⟨row_lies (heap_alloc_new _ _) hZl.out (by omega), (Below.refl _ _).alloc (Nat.le_refl _) _⟩
  simp only [Act.put, List.setIfInBounds_toArray, List.set_cons_zero, List.set_cons_succ, envAdd]
  intro x6
  refine wpAs_act rfl rfl ?_ ?_
  · intro W hC hE
    have h6 := hE.1 rfl
    have h5 := hE.2.1 rfl
    clear hE
    refine does_enter (f := 11) (args := #[x5, x6]) ?_ ?_
    · go_simp
    · refine (hT.out x5 x6 W h5 h6).mono ?_
      rintro e W' ⟨A, ca, B, cb, N, cn, L, cl, rfl, hz, hb⟩
      exact ⟨_, rfl, ⟨A, ca, B, cb, N, cn, L, cl, rfl, hz.drop⟩, hb⟩
  simp only [Act.put, List.setIfInBounds_toArray, List.set_cons_zero, List.set_cons_succ, envAdd]
  intro x7
  refine wpAs_act rfl rfl ?_ ?_
  · intro W hC hE
    have h7 := hE.1 rfl
    clear hE
    go_simp
    exact ⟨h7, Below.refl _ _⟩
  simp only [Act.put, List.setIfInBounds_toArray, List.set_cons_zero, List.set_cons_succ, envAdd]
  intro x4
  refine wpAs_act rfl rfl ?_ ?_
  · intro W hC hE
    obtain ⟨A, ca, B, cb, N, cn, L, cl, rfl, hz⟩ := hE.1 rfl
    have hz' := Lib.hid hz
    clear hE hz
    go_simp
    exact ⟨⟨A, ca, B, cb, N, cn, L, cl, rfl, hz'.out⟩, Below.refl _ _⟩
  simp only [Act.put, List.setIfInBounds_toArray, List.set_cons_zero, List.set_cons_succ, envAdd]
  intro x8
  refine wpAs_fixed rfl rfl rfl ?_ ?_
  · intro W hC hE
    obtain ⟨A, ca, B, cb, N, cn, L, cl, rfl, hz⟩ := hE.2.1 rfl
    clear hE hz
    go_simp
    exact ⟨rfl, Below.refl _ _⟩
  simp only [Act.put, List.setIfInBounds_toArray, List.set_cons_zero, List.set_cons_succ]
  refine wpAs_fixed rfl rfl rfl ?_ ?_
  · intro W hC hE
    obtain ⟨A, ca, B, cb, N, cn, L, cl, rfl, hz⟩ := hE.2.1 rfl
    clear hE hz
    go_simp
    exact ⟨rfl, Below.refl _ _⟩
  simp only [Act.put, List.setIfInBounds_toArray, List.set_cons_zero, List.set_cons_succ]
  refine wpAs_act rfl rfl ?_ ?_
  · intro W hC hE
    have hs := hC.size
    clear hE hC
    go_simp
    exact ⟨⟨W.heap.size, rfl, hs, heap_alloc_new _ _⟩, (Below.refl _ _).alloc (Nat.le_refl _) _⟩
  simp only [Act.put, List.setIfInBounds_toArray, List.set_cons_zero, List.set_cons_succ, envAdd]
  intro x1
  refine wpAs_end fun W hC hE => ?_
  obtain ⟨⟨g, rfl, hg, hz⟩, ⟨A, ca, B, cb, N, cn, L, cl, rfl, hs⟩, _⟩ := hE
  obtain ⟨c0, c1, c2, c3, c4, c5⟩ := four_cells hz
  obtain ⟨W9, hW9, g9, gr9, gs9⟩ := put_four (a' := .slice A 256 ca) (b' := .slice B 1 cb) (c' := .slice N 256 cn) (d' := .slice L 256 cl) hz
  obtain ⟨n0, n1, n2, n3, _, n5⟩ := four_cells g9
  have hs9 := Lib.hid (sto_put_zero hs hVf.out hz (by simp) gr9)
  have hb9 := hC.grown gr9 hC.size (fun q e => by cases e; exact hg)
  have B9 := Lib.hid (B3.out.trans (hb9.mono B3.out.size))
  have HG9 := Lib.hid (HG3.out.below hb9)
  replace hz := Lib.hid hz
  replace g9 := Lib.hid g9
  clear hs hC gr9 gs9 hb9 HG3 B3
  go_upto_region 5 with fail
  clear hW9 c0 c1 c2 c3 c4 c5
  obtain ⟨w9, rfl⟩ : ∃ w9 : World, w9 = W9 := ⟨_, rfl⟩
  go_wp2_with fail
  with_reducible refine (freeR_open _ V hVm.out _ hs9.out).mono ?_
  rintro e w10 ⟨Y, yc, rfl, hy, hb10⟩
  rw [hVl.out.2] at hy ⊢
  have HG10 := Lib.hid ((HG9.out.below hb10).add (F := OldZ (.slice Y 247 yc) (intsN (freeL V))) (stab_ints.drop hy) (lasts_oldZ _ _))
  have B10 := Lib.hid (B9.out.trans (hb10.mono B9.out.size))
  clear hy hb10 HG9 B9 hs9 n0 n1 n2 n3 n5
  -- Share(New, 8)
  go_wp2_with fail
  with_reducible refine (newR_any _).mono ?_
  rintro e w11 ⟨t, rfl, ht, hb11⟩
  have T11 := Lib.hid ht.drop
  have HG11 := Lib.hid (HG10.out.below hb11)
  have B11 := Lib.hid (B10.out.trans (hb11.mono B10.out.size))
  clear ht hb11 HG10 B10
  go_wp2_with fail
  with_reducible refine (shareR_open _ newR 8 _ T11.out).mono ?_
  rintro e w12 ⟨A12, a12, B12', b12, N12, n12, L12, l12, rfl, -, hb12⟩
  rw [hs8.out.1, hs8.out.2]
  obtain ⟨w13, hw13, _, _, hb13⟩ := box_4 w12 (.slice A12 emptyR.1.1.length a12) (.slice B12' emptyR.1.2.length b12) (.slice N12 emptyR.2.1.length n12) (.slice L12 emptyR.2.2.length l12) 33
  have hbb := hb12.trans (hb13.mono hb12.size)
  have HG13 := Lib.hid (HG11.out.below hbb)
  have B13 := Lib.hid (B11.out.trans (hbb.mono B11.out.size))
  clear hbb hb12 hb13 HG11 B11 T11
  go_upto_region 7 with fail
  clear hw13
  -- Node(New, 8)
  go_wp2_with fail
  with_reducible refine (newR_any _).mono ?_
  rintro e w14 ⟨t, rfl, ht, hb14⟩
  have T14 := Lib.hid ht.drop
  have HG14 := Lib.hid (HG13.out.below hb14)
  have B14 := Lib.hid (B13.out.trans (hb14.mono B13.out.size))
  clear ht hb14 HG13 B13
  go_wp2_with fail
  with_reducible refine (nodeR_any _ newR 8 _ T14.out).mono ?_
  rintro e w15 ⟨u, rfl, hu, hb15⟩
  rw [hn8.out.1]
  rw [hn8.out.2] at hu
  obtain ⟨P15, p15, rfl, _⟩ := hu.open
  obtain ⟨w16, hw16, _, _, hb16⟩ := box_pair' w15 (.int .i64 zeroN.1) (.slice P15 zeroN.2.length p15) 41
  have hbb := hb15.trans (hb16.mono hb15.size)
  have HG16 := Lib.hid (HG14.out.below hbb)
  have B16 := Lib.hid (B14.out.trans (hbb.mono B14.out.size))
  clear hbb hb15 hb16 HG14 B14 T14 hu
  go_upto_region 8 with fail
  clear hw16
  -- Share(New, 7)
  go_wp2_with fail
  with_reducible refine (newR_any _).mono ?_
  rintro e w17 ⟨t, rfl, ht, hb17⟩
  have T17 := Lib.hid ht.drop
  have HG17 := Lib.hid (HG16.out.below hb17)
  have B17 := Lib.hid (B16.out.trans (hb17.mono B16.out.size))
  clear ht hb17 HG16 B16
  go_wp2_with fail
  with_reducible refine (shareR_open _ newR 7 _ T17.out).mono ?_
  rintro e w18 ⟨A18, a18, B18', b18, N18, n18, L18, l18, rfl, -, hb18⟩
  rw [hs7.out.1, hs7.out.2]
  obtain ⟨w19, hw19, _, _, hb19⟩ := box_4 w18 (.slice A18 emptyR.1.1.length a18) (.slice B18' emptyR.1.2.length b18) (.slice N18 emptyR.2.1.length n18) (.slice L18 emptyR.2.2.length l18) 33
  have hbb := hb18.trans (hb19.mono hb18.size)
  have HG19 := Lib.hid (HG17.out.below hbb)
  have B19 := Lib.hid (B17.out.trans (hbb.mono B17.out.size))
  clear hbb hb18 hb19 HG17 B17 T17
  go_upto_region 9 with fail
  clear hw19
  -- Take(New, nil)
  go_wp2_with fail
  with_reducible refine (newR_any _).mono ?_
  rintro e w20 ⟨t, rfl, ht, hb20⟩
  have T20 := Lib.hid ht.drop
  have HG20 := Lib.hid (HG19.out.below hb20)
  have B20 := Lib.hid (B19.out.trans (hb20.mono B19.out.size))
  clear ht hb20 HG19 B19
  go_wp2_with fail
  with_reducible refine (takeR_open _ (.slice none 0 0) newR [] _ T20.out (rBy_nil _)).mono ?_
  rintro e w21 ⟨A21, a21, B21', b21, N21, n21, L21, l21, rfl, -, hb21⟩
  rw [ht0.out.1, ht0.out.2.1, ht0.out.2.2]
  obtain ⟨w22, hw22, _, _, hb22⟩ := box_4 w21 (.slice A21 emptyR.1.1.length a21) (.slice B21' emptyR.1.2.length b21) (.slice N21 emptyR.2.1.length n21) (.slice L21 emptyR.2.2.length l21) 33
  have hbb := hb21.trans (hb22.mono hb21.size)
  have HG22 := Lib.hid (HG20.out.below hbb)
  have B22 := Lib.hid (B20.out.trans (hbb.mono B20.out.size))
  clear hbb hb21 hb22 HG20 B20 T20
  obtain ⟨xad, rfl, _, hx⟩ := (ints_at (HG22.out.at 1 rfl : rInts (Old w22) w22 _ _)).2.2 0 8 (by rw [hNl.out.1]; rfl)
  obtain ⟨yad, rfl, _, hy⟩ := (ints_at (HG22.out.at 0 rfl : rInts (Old w22) w22 _ _)).2.2 0 9 (by rw [hVl.out.1]; rfl)
  replace hx : w22.cell? xad = some (.int .i64 8) := by simpa [Addr.add] using hx
  replace hy : w22.cell? yad = some (.int .i64 9) := by simpa [Addr.add] using hy
  go_upto_region 10 with fail
  clear hw22
  go_wp2_with fail
  go_ret
  exact ⟨rfl, B22.out⟩

/-! ### The row's step -/
set_option maxRecDepth 100000 in
theorem lifted (os : Os) (started : os.Started) (H : Type) (enc : TypeId × Value → H) :
    ReturnsInHanded {} Try.checked os 3 .any (Rows.roomNamesSpec.pre6 enc Try.prog Try.f3 Rows.roomNamesRow.domain false) (Rows.roomNamesSpec.post enc Try.prog Try.f3 false true false false) := by
  refine returnsInHanded_of_change (C := Try.checked) own started (by kernel_rfl) Try.func3
    (ChangeSpec.witness6 (enc := enc) (C := Try.checked) false ⟨#[], #[], []⟩ 8 (by kernel_rfl) (by kernel_rfl) (by kernel_rfl) (by kernel_rfl)) ?_
  intro W base args ds gs before hval0 hW _ _
  have hval : ∀ (j : Nat) t v, Try.f3.params[j]? = some t → args[j]? = some v → Value.okWide Try.prog W .any base t v := hval0
  have hW' := hW
  obtain ⟨p, q, hA0, hV, _, _, _⟩ := hW
  have hA : DataW.TrodAll enc Try.prog W 0 (fun _ => true) true Try.f3.params.toList args.toList ds p := hA0
  rw [Try.params3] at hA hval
  obtain ⟨hargs, rfl, _⟩ := trodAll_nil hA
  obtain rfl : args = #[] := by cases args; simp_all
  obtain ⟨rfl, _⟩ := trodVars_none hV
  clear hA0 hval0
  refine (walk  W ).mono fun e W' ⟨he, hb⟩ => ?_
  subst he
  exact ⟨_, rfl, law_post laidOut (by rw [Try.params3]; decide +kernel) (by kernel_rfl) Try.underlying4 rfl ⟨rfl, by simp [Rows.roomNamesSpec], rfl⟩ hW' hb⟩

theorem over : Rows.roomNamesRow.holds Try.pinned (OpenSpec.ofChange Rows.roomNamesSpec) :=
  OpenClaim.holds_of_wide 3 Try.f3 rfl rfl rfl rfl rfl rfl rfl ⟨rfl, rfl, rfl, rfl, rfl⟩ rfl rfl rfl rfl rfl (by kernel_rfl) Try.func3 (by kernel_rfl)
    (of_decide_eq_true (by kernel_rfl)) (by unfold Func.isWrapper; first | (rw [if_pos (by decide +kernel)]; kernel_rfl) | (rw [if_neg (by decide +kernel)]; exact ⟨rfl, rfl⟩))
    (fun os started H enc _ => lifted os started H enc)

end Go.Proofs.Ytjlbkcnhbndgbaa.roomNames
namespace Go.Proofs.Ytjlbkcnhbndgbaa
theorem roomNames_proved : Rows.RoomNamesSaid := roomNames.over
end Go.Proofs.Ytjlbkcnhbndgbaa
