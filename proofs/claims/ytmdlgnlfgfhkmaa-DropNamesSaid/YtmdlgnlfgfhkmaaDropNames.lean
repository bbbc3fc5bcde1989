/-
  DropNames answers true: the errors have their numbers, and the chapter's examples are so. No condition.
-/
import Derived.Test.YtmdlgnlfgfhkmaaBnd4
namespace Go.Proofs.Ytmdlgnlfgfhkmaa.dropNames
open Go.ChangeShapes Go.WideShapes Go.RowKit

theorem own : ownKnob Try.prog.godebug = none := by kernel_rfl
theorem laidOut : laidOutB Try.prog = true := by kernel_rfl

theorem nine_as : asE newR 9 = 6 := by
  unfold asE
  rw [may_new]
  decide +kernel
theorem seven_as : asE newR 7 = 2 := by
  unfold asE
  rw [may_new]
  decide +kernel
theorem nought_fits : ¬ fits (zeros 128) := by
  unfold fits
  decide +kernel
theorem nought_read : reN (zeros 128) ≠ 0 := by
  have h : oe (zeros 128) = 8 := by
    unfold oe
    rw [if_pos (by simp [zeros]), if_neg nought_fits]
  rw [(reN_open (by rw [h]; decide)).1, h]
  decide
/-- An item with Ref 9. -/
def itR9 : It := ((0, 0, 0), 9, [])
def ndR9 : Nd := (0, [itR9])
theorem nine_may : mayN ndR9 = true := by decide +kernel
theorem nine_ct : ctE newR.2.1 ndR9.2 = 6 := by decide +kernel
theorem nine_made : mkE newR ndR9 = 6 ∧ mkN newR ndR9 = 0 ∧ mkV newR ndR9 = emptyR := by
  rcases mk_ways may_new nine_may with ⟨_, e, e2, e3⟩ | ⟨hc, _⟩
  · exact ⟨e.trans nine_ct, e2, e3⟩
  · rw [nine_ct] at hc
    exact absurd hc (by decide)
theorem nine_lies {W : World} {g : Nat} (h : W.heap[g]? = some (.cells #[.int .u8 0, .int .u32 0, .int .u32 0, .int .i64 9, .slice none 0 0] 38 (0, 0))) : Nod (Old W) W (.agg #[.int .i64 0, .slice (some ⟨g, 0, none⟩) 1 1]) ndR9 := by
  have hg := (Array.getElem?_eq_some_iff.1 h).1
  refine ⟨_, rfl, ⟨by decide, by decide⟩, some ⟨g, 0, none⟩, 1, rfl, by decide, by decide, fun i x hi => ?_⟩
  have hi0 : i = 0 := by
    have := (List.getElem?_eq_some_iff.1 hi).1
    simp [ndR9] at this
    omega
  subst hi0
  have hx : itR9 = x := by simpa [ndR9] using hi
  subst hx
  refine ⟨⟨g, 0, none⟩, [.int .u8 0, .int .u32 0, .int .u32 0, .int .i64 9, .slice none 0 0], rfl, rfl, fun j v hj => ?_, ?_⟩
  · have e : (⟨g, 0, none⟩ : Addr).add (0 * 5 + j) = ⟨g, j, none⟩ := by simp [add_off]
    rw [e]
    refine ⟨hg, ?_⟩
    rw [cell_of_row _ _ _ _ _ _ h]
    simpa using hj
  · exact rIt_mk (s := itR9) ⟨⟨⟨by decide, by decide⟩, by decide, by decide⟩, by decide, by decide⟩ ⟨none, 0, rfl, by decide, by decide, fun i x h => by simp [itR9] at h⟩
set_option maxRecDepth 100000 in
set_option maxHeartbeats 8000000 in
theorem walk (w : World) : Calls Try.prog 3 #[] w fun e w' => e = .returned (.bool true) ∧ Below w.heap.size w w' := by
  obtain ⟨Z, hZ⟩ : ∃ Z, zeros 128 = Z := ⟨_, rfl⟩
  have hZl : Hid (Z.length = 128) := Lib.hid (by rw [← hZ]; exact zeros_length 128)
  have hmk : ∀ W, (Instr.makeSlice 27 (.int .i64 128) (.int .i64 128)).run Try.prog W = .ok (.slice (some ⟨W.heap.size, 0, none⟩) 128 128) (W.alloc (.cells (rowA Z) 5)) := fun W => by rw [← hZ]; exact make_bytes 128 (by omega) W
  have hZr : reN Z ≠ 0 := by rw [← hZ]; exact nought_read
  clear hZ
  obtain ⟨t1, t2, t3, t4, t5, t6, t7, t8⟩ := new_take hZl.out
  have hT : Hid (∀ v u W, Sto (Old W) W v newR → rBy (Old W) W [u] Z → Calls Try.prog 13 #[v, u] W fun e W' => ∃ A ca B cb N cn L cl, e = .returned (.tuple #[.agg #[.slice A 256 ca, .slice B 1 cb, .slice N 256 cn, .slice L 256 cl], .int .i64 8, .int .i64 0]) ∧
      Sto (New W.heap.size W') W' (.agg #[.slice A 256 ca, .slice B 1 cb, .slice N 256 cn, .slice L 256 cl]) (tkV newR Z) ∧ Below W.heap.size W W') := Lib.hid fun v u W h hu => by
    refine (takeR_any v u newR Z W h hu).mono ?_
    rintro e W' ⟨t, rfl, ht, hb⟩
    obtain ⟨A, ca, B, cb, N, cn, L, cl, rfl, _⟩ := id ht.open
    rw [t4, t5, t6, t7] at ht ⊢
    rw [t1, t2]
    exact ⟨A, ca, B, cb, N, cn, L, cl, rfl, ht, hb⟩
  have hVf := Lib.hid (full_tk newR Z)
  have hVb : Hid (lvE (tkV newR Z) 8 = 8 ∧ lvV (tkV newR Z) 8 = emptyR) := Lib.hid (by
    obtain ⟨_, _, _, _, _, _, _, _, _, hV⟩ := tk_ok t1
    have hs : seenD (tkV newR Z).1 8 = Z := by
      rw [hV, t3]
      exact seenD_write
    have hf : lfO (tkV newR Z).1 (tkV newR Z).2.1 8 = none := by
      unfold lfO
      rw [dnO_yes (by rw [t8]; decide)]
      simp only [Option.bind_some]
      rw [t8, hs, if_neg (by decide), if_neg hZr]
    have ha : asE (tkV newR Z) ((8 : Nat) : Int) = 0 := as_yes (tk_may t1) (by omega) (by omega) (by rw [t8]; decide)
    rcases lv_ways (tkV newR Z) ((8 : Nat) : Int) with ⟨h, _⟩ | ⟨_, _, _, _, _, _, _, _, h1, h2⟩ | ⟨k, u, _, hk, _, _, _, _, h, _⟩
    · exact absurd ha h
    · exact ⟨h1, h2⟩
    · rw [← show 8 = k by omega, hf] at h
      cases h)
  generalize tkV newR Z = V at *
  replace t4 := Lib.hid t4
  replace t5 := Lib.hid t5
  replace t6 := Lib.hid t6
  replace t7 := Lib.hid t7
  replace t8 := Lib.hid t8
  clear t1 t2 t3 hZr
  have hn9 := Lib.hid nine_made
  have hl9 : Hid (lvE newR 9 = 6 ∧ lvV newR 9 = emptyR) := Lib.hid (by
    have h : asE newR 9 ≠ 0 := by rw [nine_as]; decide
    exact ⟨by rw [lvE, if_neg h, nine_as], by rw [lvV, if_neg h]⟩)
  have ho7 : Hid (asE newR 7 = 2 ∧ loV newR 7 = emptyR) := Lib.hid (by
    have h : asE newR 7 ≠ 0 := by rw [seven_as]; decide
    exact ⟨seven_as, by rw [loV, if_neg h]⟩)
  go_enter Try.func3, Try.ntmps3
  go_wp2_with fail
  with_reducible refine (alive9 _).mono ?_
  rintro e w1 ⟨rfl, hb1⟩
  have B1 := Lib.hid hb1
  clear hb1
  -- Make(New, an item with Ref 9)
  go_wp2_with fail
  with_reducible refine (newR_any _).mono ?_
  rintro e w2 ⟨t, rfl, ht, hb2⟩
  have T2 := Lib.hid ht.drop
  have B2 := Lib.hid (B1.out.trans (hb2.mono B1.out.size))
  clear ht hb2 B1
  obtain ⟨wA, hwA, hA0, hA1⟩ : ∃ wA, w2.alloc (.cells #[.int .u8 0, .int .u32 0, .int .u32 0, .int .i64 9, .slice none 0 0] 38) = wA ∧ wA.heap[w2.heap.size]? = some (.cells #[.int .u8 0, .int .u32 0, .int .u32 0, .int .i64 9, .slice none 0 0] 38 (0, 0)) ∧ Below w2.heap.size w2 wA := ⟨_, rfl, heap_alloc_new _ _, (Below.refl _ _).alloc (Nat.le_refl _) _⟩
  have TA := Lib.hid (T2.out.below hA1)
  have BA := Lib.hid (B2.out.trans (hA1.mono B2.out.size))
  have NA := Lib.hid (nine_lies hA0)
  clear hA0 hA1 T2 B2
  go_wp2_with fail
  clear hwA
  with_reducible refine (makeV_open _ _ newR ndR9 _ TA.out NA.out).mono ?_
  rintro e w3 ⟨A3, a3, B3', b3, N3, n3, L3, l3, rfl, -, hb3⟩
  rw [hn9.out.1, hn9.out.2.1, hn9.out.2.2]
  obtain ⟨w4, hw4, -, -, hb4⟩ := box_4 w3 (.slice A3 emptyR.1.1.length a3) (.slice B3' emptyR.1.2.length b3) (.slice N3 emptyR.2.1.length n3) (.slice L3 emptyR.2.2.length l3) 29
  have B4 := Lib.hid (BA.out.trans ((hb3.trans (hb4.mono hb3.size)).mono BA.out.size))
  clear hb3 hb4 BA NA TA
  go_upto_region 4 with fail
  clear hw4
  -- Leave(New, 9)
  go_wp2_with fail
  with_reducible refine (newR_any _).mono ?_
  rintro e w5 ⟨t, rfl, ht, hb5⟩
  have T5 := Lib.hid ht.drop
  have B5 := Lib.hid (B4.out.trans (hb5.mono B4.out.size))
  clear ht hb5 B4
  go_wp2_with fail
  with_reducible refine (leaveV_open _ newR 9 _ T5.out).mono ?_
  rintro e w6 ⟨A6, a6, B6', b6, N6, n6, L6, l6, rfl, -, hb6⟩
  rw [hl9.out.1, hl9.out.2]
  obtain ⟨w7, hw7, -, -, hb7⟩ := box_4 w6 (.slice A6 emptyR.1.1.length a6) (.slice B6' emptyR.1.2.length b6) (.slice N6 emptyR.2.1.length n6) (.slice L6 emptyR.2.2.length l6) 29
  have B7 := Lib.hid (B5.out.trans ((hb6.trans (hb7.mono hb6.size)).mono B5.out.size))
  clear hb6 hb7 B5 T5
  go_upto_region 5 with fail
  clear hw7
  -- Loose(New, 7)
  go_wp2_with fail
  with_reducible refine (newR_any _).mono ?_
  rintro e w8 ⟨t, rfl, ht, hb8⟩
  have T8 := Lib.hid ht.drop
  have B8 := Lib.hid (B7.out.trans (hb8.mono B7.out.size))
  clear ht hb8 B7
  go_wp2_with fail
  with_reducible refine (looseV_open _ newR 7 _ T8.out).mono ?_
  rintro e w9 ⟨A9, a9, B9', b9, N9, n9, L9, l9, rfl, -, hb9⟩
  rw [ho7.out.1, ho7.out.2]
  obtain ⟨w10, hw10, -, -, hb10⟩ := box_4 w9 (.slice A9 emptyR.1.1.length a9) (.slice B9' emptyR.1.2.length b9) (.slice N9 emptyR.2.1.length n9) (.slice L9 emptyR.2.2.length l9) 29
  have B10 := Lib.hid (B8.out.trans ((hb9.trans (hb10.mono hb9.size)).mono B8.out.size))
  clear hb9 hb10 B8 T8
  go_upto_region 6 with fail
  clear hw10
  -- a block of noughts
  refine wp_region_late (ops' := ?opsLate) (by kernel_rfl) [(8, 5), (8, 6), (9, 6)] ?he (by kernel_rfl) (fun d _ _ _ _ h => by cases d <;> exact h) 8 (fun W => Below w10.heap.size w10 W) (fun i => match i with
      | 0 => some (fun v W => Sto (Old W) W v newR)
      | 1 => some (fun v W => rBy (Old W) W [v] Z)
      | 2 => some (fun v W => ∃ A ca B cb N cn L cl, v = .tuple #[.agg #[.slice A 256 ca, .slice B 1 cb, .slice N 256 cn, .slice L 256 cl], .int .i64 8, .int .i64 0] ∧ Sto (Old W) W (.agg #[.slice A 256 ca, .slice B 1 cb, .slice N 256 cn, .slice L 256 cl]) V)
      | 3 => some (fun v W => ∃ A ca B cb N cn L cl, v = .tuple #[.agg #[.slice A 256 ca, .slice B 1 cb, .slice N 256 cn, .slice L 256 cl], .int .i64 8, .int .i64 0] ∧ Sto (Old W) W (.agg #[.slice A 256 ca, .slice B 1 cb, .slice N 256 cn, .slice L 256 cl]) V)
      | 4 => some (fun v W => ∃ A ca B cb N cn L cl, v = .agg #[.slice A 256 ca, .slice B 1 cb, .slice N 256 cn, .slice L 256 cl] ∧ Sto (Old W) W (.agg #[.slice A 256 ca, .slice B 1 cb, .slice N 256 cn, .slice L 256 cl]) V)
      | 7 => some (fun v W => ∃ g, v = .pointer (some ⟨g, 0, none⟩) ∧ w10.heap.size ≤ g ∧ W.heap[g]? = some (.cells #[.slice none 0 0, .slice none 0 0, .slice none 0 0, .slice none 0 0] 29 (0, 0)))
      | _ => none) (fun i => match i with
      | 5 => some (.int .i64 8)
      | 6 => some (.int .i64 0)
      | _ => none) ?h1 ?h2 ?h3 (Below.refl _ _).drew (fun w w' h hb => h.trans (hb.mono h.size)) ?tst ?_
  case he =>
    simp [withEdges]
    rfl
  case h1 => decide
  case h2 => kernel_rfl
  case h3 => kernel_rfl
  case tst =>
    intro j φ x W W' hp hx hb
    match j, hp with
    | 0, hp => cases hp; exact hx.below hb
    | 1, hp => cases hp; exact stab_by.old hx hb
    | 2, hp => cases hp; obtain ⟨A, ca, B, cb, N, cn, L, cl, e, h⟩ := hx; exact ⟨A, ca, B, cb, N, cn, L, cl, e, h.below hb⟩
    | 3, hp => cases hp; obtain ⟨A, ca, B, cb, N, cn, L, cl, e, h⟩ := hx; exact ⟨A, ca, B, cb, N, cn, L, cl, e, h.below hb⟩
    | 4, hp => cases hp; obtain ⟨A, ca, B, cb, N, cn, L, cl, e, h⟩ := hx; exact ⟨A, ca, B, cb, N, cn, L, cl, e, h.below hb⟩
    | 7, hp => cases hp; obtain ⟨g, e, h1, h2⟩ := hx; exact ⟨g, e, h1, (hb.block g (Array.getElem?_eq_some_iff.1 h2).1).trans h2⟩
  simp only [List.take_succ_cons, List.take_zero, List.drop_succ_cons, List.drop_zero]
  refine wpAs_act rfl rfl ?_ ?_
  · intro W hC hE
    clear hE
    refine does_enter (f := 10) (args := #[]) ?_ ?_
    · go_simp
    · refine (newR_any W).mono ?_
      rintro e W' ⟨u, rfl, hu, hb⟩
      exact ⟨_, rfl, hu.drop, hb⟩
  simp only [Act.put, List.setIfInBounds_toArray, List.set_cons_zero, List.set_cons_succ, envAdd]
  intro x5
  refine wpAs_act rfl rfl ?_ ?_
  · intro W hC hE
    clear hE
    exact does_mk 27 (.const (.int .i64 128)) (.const (.int .i64 128)) rfl (hmk W) ⟨row_lies (heap_alloc_new _ _) hZl.out (by omega), (Below.refl _ _).alloc (Nat.le_refl _) _⟩
  simp only [Act.put, List.setIfInBounds_toArray, List.set_cons_zero, List.set_cons_succ, envAdd]
  intro x6
  refine wpAs_act rfl rfl ?_ ?_
  · intro W hC hE
    have h6 := hE.1 rfl
    have h5 := hE.2.1 rfl
    clear hE
    refine does_enter (f := 13) (args := #[x5, x6]) ?_ ?_
    · go_simp
    · refine (hT.out x5 x6 W h5 h6).mono ?_
      rintro e W' ⟨A, ca, B, cb, N, cn, L, cl, rfl, hz, hb⟩
      exact ⟨_, rfl, ⟨A, ca, B, cb, N, cn, L, cl, rfl, hz.drop⟩, hb⟩
  simp only [Act.put, List.setIfInBounds_toArray, List.set_cons_zero, List.set_cons_succ, envAdd]
  intro x7
  refine wpAs_act rfl rfl ?_ ?_
  · intro W hC hE
    have h7 := hE.1 rfl
    clear hE
    go_simp
    exact ⟨h7, Below.refl _ _⟩
  simp only [Act.put, List.setIfInBounds_toArray, List.set_cons_zero, List.set_cons_succ, envAdd]
  intro x4
  refine wpAs_act rfl rfl ?_ ?_
  · intro W hC hE
    obtain ⟨A, ca, B, cb, N, cn, L, cl, rfl, hz⟩ := hE.1 rfl
    have hz' := Lib.hid hz
    clear hE hz
    go_simp
    exact ⟨⟨A, ca, B, cb, N, cn, L, cl, rfl, hz'.out⟩, Below.refl _ _⟩
  simp only [Act.put, List.setIfInBounds_toArray, List.set_cons_zero, List.set_cons_succ, envAdd]
  intro x8
  refine wpAs_fixed rfl rfl rfl ?_ ?_
  · intro W hC hE
    obtain ⟨A, ca, B, cb, N, cn, L, cl, rfl, hz⟩ := hE.2.1 rfl
    clear hE hz
    go_simp
    exact ⟨rfl, Below.refl _ _⟩
  simp only [Act.put, List.setIfInBounds_toArray, List.set_cons_zero, List.set_cons_succ]
  refine wpAs_fixed rfl rfl rfl ?_ ?_
  · intro W hC hE
    obtain ⟨A, ca, B, cb, N, cn, L, cl, rfl, hz⟩ := hE.2.1 rfl
    clear hE hz
    go_simp
    exact ⟨rfl, Below.refl _ _⟩
  simp only [Act.put, List.setIfInBounds_toArray, List.set_cons_zero, List.set_cons_succ]
  refine wpAs_act rfl rfl ?_ ?_
  · intro W hC hE
    have hs := hC.size
    clear hE hC
    go_simp
    exact ⟨⟨W.heap.size, rfl, hs, heap_alloc_new _ _⟩, (Below.refl _ _).alloc (Nat.le_refl _) _⟩
  simp only [Act.put, List.setIfInBounds_toArray, List.set_cons_zero, List.set_cons_succ, envAdd]
  intro x1
  refine wpAs_end fun W hC hE => ?_
  obtain ⟨⟨g, rfl, hg, hz⟩, ⟨A, ca, B, cb, N, cn, L, cl, rfl, hs⟩, _⟩ := hE
  obtain ⟨c0, c1, c2, c3, c4, c5⟩ := four_cells hz
  obtain ⟨W9, hW9, g9, gr9, gs9⟩ := put_four (a' := .slice A 256 ca) (b' := .slice B 1 cb) (c' := .slice N 256 cn) (d' := .slice L 256 cl) hz
  have hs9 := Lib.hid (sto_put_zero hs hVf.out hz (by simp) gr9)
  have hb9 := hC.grown gr9 hC.size (fun q e => by cases e; exact hg)
  have B9 := Lib.hid (B10.out.trans (hb9.mono B10.out.size))
  have g9h := Lib.hid g9
  replace hz := Lib.hid hz
  replace g9 := Lib.hid g9
  clear hs hC gr9 gs9 hb9 B10
  go_upto_region 7 with fail
  clear hW9 c0 c1 c2 c3 c4 c5
  obtain ⟨w11, rfl⟩ : ∃ w11 : World, w11 = W9 := ⟨_, rfl⟩
  obtain ⟨n0, n1, n2, n3, _, n5⟩ := four_cells g9h.out
  go_wp2_with fail
  with_reducible refine (leaveV_open _ V 8 _ hs9.out).mono ?_
  rintro e w12 ⟨A12, a12, B12', b12, N12, n12, L12, l12, rfl, -, hb12⟩
  rw [hVb.out.1, hVb.out.2]
  obtain ⟨w13, hw13, -, -, hb13⟩ := box_4 w12 (.slice A12 emptyR.1.1.length a12) (.slice B12' emptyR.1.2.length b12) (.slice N12 emptyR.2.1.length n12) (.slice L12 emptyR.2.2.length l12) 29
  have B13 := Lib.hid (B9.out.trans ((hb12.trans (hb13.mono hb12.size)).mono B9.out.size))
  clear hb12 hb13 B9 n0 n1 n2 n3 n5
  go_upto_region 8 with fail
  clear hw13
  go_wp2_with fail
  go_ret
  exact ⟨by simp, B13.out⟩

/-! ### The row's step -/
set_option maxRecDepth 100000 in
theorem lifted (os : Os) (started : os.Started) (H : Type) (enc : TypeId × Value → H) :
    ReturnsInHanded {} Try.checked os 3 .any (Rows.dropNamesSpec.pre6 enc Try.prog Try.f3 Rows.dropNamesRow.domain false) (Rows.dropNamesSpec.post enc Try.prog Try.f3 false true false false) := by
  refine returnsInHanded_of_change (C := Try.checked) own started (by kernel_rfl) Try.func3
    (ChangeSpec.witness6 (enc := enc) (C := Try.checked) false ⟨#[], #[], []⟩ 8 (by kernel_rfl) (by kernel_rfl) (by kernel_rfl) (by kernel_rfl)) ?_
  intro W base args ds gs before hval0 hW _ _
  have hval : ∀ (j : Nat) t v, Try.f3.params[j]? = some t → args[j]? = some v → Value.okWide Try.prog W .any base t v := hval0
  have hW' := hW
  obtain ⟨p, q, hA0, hV, _, _, _⟩ := hW
  have hA : DataW.TrodAll enc Try.prog W 0 (fun _ => true) true Try.f3.params.toList args.toList ds p := hA0
  rw [Try.params3] at hA hval
  obtain ⟨hargs, rfl, _⟩ := trodAll_nil hA
  obtain rfl : args = #[] := by cases args; simp_all
  obtain ⟨rfl, _⟩ := trodVars_none hV
  clear hA0 hval0
  refine (walk  W ).mono fun e W' ⟨he, hb⟩ => ?_
  subst he
  exact ⟨_, rfl, law_post laidOut (by rw [Try.params3]; decide +kernel) (by kernel_rfl) Try.underlying4 rfl ⟨rfl, by simp [Rows.dropNamesSpec], rfl⟩ hW' hb⟩

theorem over : Rows.dropNamesRow.holds Try.pinned (OpenSpec.ofChange Rows.dropNamesSpec) :=
  OpenClaim.holds_of_wide 3 Try.f3 rfl rfl rfl rfl rfl rfl rfl ⟨rfl, rfl, rfl, rfl, rfl⟩ rfl rfl rfl rfl rfl (by kernel_rfl) Try.func3 (by kernel_rfl)
    (of_decide_eq_true (by kernel_rfl)) (by unfold Func.isWrapper; first | (rw [if_pos (by decide +kernel)]; kernel_rfl) | (rw [if_neg (by decide +kernel)]; exact ⟨rfl, rfl⟩))
    (fun os started H enc _ => lifted os started H enc)

end Go.Proofs.Ytmdlgnlfgfhkmaa.dropNames
namespace Go.Proofs.Ytmdlgnlfgfhkmaa
theorem dropNames_proved : Rows.DropNamesSaid := dropNames.over
end Go.Proofs.Ytmdlgnlfgfhkmaa
