/-
  Lemmas on the program and on the document's answers, gathered: NdLeaf, NdPlace, NdSame, NdBack, NdGreat, Spoil05, NdBag, NdSpoil, NdTwin, NdTwin2, NdRefTwin, NdRefMay, NdRefTold, NdRefSam, NdRefRead, NdRefSame. Conditions: those that each lemma states.
-/
import Derived.Test.YtpcajbcdahcehaaBnd2
import Derived.Laws.StructEq
import Derived.WalkLawsBesides
import Derived.StillTailTactics
/-
  Layer 6's law helpers: leaf. Conditions: those that each lemma states.
-/
namespace Go.Proofs.Ytpcajbcdahcehaa
open Go.RowKit

def rU4 : Rel (List Int) := rSl 1 (rK .u32)
theorem stab_u4 : Stab rU4 := stab_sl (stab_k _)
theorem u4_at {ok : Addr → Prop} {w : World} {A : Option Addr} {n c k : Nat} {xs : List Int} {x : Int} (h : rU4 ok w [.slice A n c] xs) (hk : xs[k]? = some x) : ∃ ad, A = some ad ∧ ok (ad.add k) ∧ w.cell? (ad.add k) = some (.int .u32 x) ∧ InU x := by
  obtain ⟨_, _, e, _, _, h4⟩ := h
  cases e
  obtain ⟨ad, vs, rfl, _, q, r1, r2, r3⟩ := h4 k x hk
  subst r1
  have := q 0 _ rfl
  rw [Nat.mul_one, Nat.add_zero] at this
  simp [IntKind.min, IntKind.max, IntKind.signed, IntKind.bits] at r2 r3
  exact ⟨ad, rfl, this.1, this.2, r2, by omega⟩
def leafI (x : Int) : It := ((2, 0, x), 0, [])
def leafN (xs : List Int) : Nd := (0, xs.map leafI)
theorem leafI_in {x : Int} (h : InU x) : InI (leafI x) := ⟨⟨⟨by show (0 : Int) ≤ 0; omega, by show (0 : Int) < _; omega⟩, h⟩, ⟨by show _ ≤ (0 : Int); omega, by show (0 : Int) ≤ _; omega⟩⟩

set_option maxRecDepth 100000 in
set_option maxHeartbeats 4000000 in
theorem leaf_any (v : Value) (xs : List Int) (w : World) (hbig : xs.length ≤ 1000) (h : rU4 (Old w) w [v] xs) : Calls Try.prog 10 #[v] w fun e w' => ∃ u, e = .returned u ∧ Nod (New w.heap.size w') w' u (leafN xs) ∧ Below w.heap.size w w' := by
  obtain ⟨A, c, e, l1, m1, _⟩ := id h
  have e' : v = .slice A xs.length c := by simpa using e
  subst e'
  obtain ⟨n, hn⟩ : ∃ n, xs.length = n := ⟨_, rfl⟩
  rw [hn] at h l1 hbig ⊢
  have HA := Lib.hid h
  replace hn := Lib.hid hn
  clear h e
  obtain ⟨w2, hw2, f2, hs2, hB2⟩ := box_pair' w (.int .i64 0) (.slice none 0 0) 26
  obtain ⟨w3, hw3, g3, hs3, hB3⟩ := box_pair' w2 (.int .i64 0) (.slice none 0 0) 26
  have S5 : Hid (w.heap.size + 1 = w2.heap.size ∧ w2.heap.size + 1 = w3.heap.size) := Lib.hid ⟨by omega, by omega⟩
  have lt0 : w.heap.size < w2.heap.size := by omega
  have hB2' := Lib.hid hB2
  replace hs2 := Lib.hid hs2
  replace hs3 := Lib.hid hs3
  replace g3 := Lib.hid g3
  replace f2 := Lib.hid f2
  replace hw3 := Lib.hid hw3
  replace hw2 := Lib.hid hw2
  clear hB2
  go_enter Try.func10, Try.ntmps10
  go_upto_region 1 with fail
  rw [hw2.out]
  clear hw2
  go_upto_region 2 with fail
  rw [hw3.out]
  clear hw3
  go_wp2_with fail
  go_loopw [4] (fun i wr => ∃ k : Nat, k ≤ n ∧ i = .int .i64 k ∧ Below w2.heap.size w2 wr ∧ ∃ (A1 : Option Addr) (c1 : Nat), wr.heap[w2.heap.size]? = some (.cells #[.int .i64 0, .slice A1 k c1] 26 (0, 0)) ∧
      RowOf rIt 5 52 w3.heap.size wr A1 c1 ((xs.map leafI).take k)) (fun i _ => n - (intOf i).toNat)
  case atStart => exact ⟨0, by omega, rfl, hB3, none, 0, g3.out, RowOf.nil _ _ _ _ _⟩
  case round =>
    obtain ⟨k, hk, rfl, hb, A1, c1, hz, hrow⟩ := hrel
    obtain ⟨r2, r3, r4, r5⟩ := two_cells hz
    have htl := Lib.hid (show ((xs.map leafI).take k).length = k by rw [List.length_take, List.length_map, hn.out]; omega)
    replace hrow := Lib.hid hrow
    have hz' := Lib.hid hz
    have hb' := Lib.hid hb
    have hWr : Below w.heap.size w wr := hB2'.out.trans (hb.mono hB2'.out.size)
    by_cases hlt : k < n
    · obtain ⟨x, hx⟩ : ∃ x, xs[k]? = some x := ⟨_, List.getElem?_eq_getElem (by rw [hn.out]; exact hlt)⟩
      obtain ⟨ad, rfl, hok, hc, hxu⟩ := u4_at HA.out hx
      have hcr := (hWr.cell hok).trans hc
      have htk := Lib.hid (show (xs.map leafI).take (k + 1) = (xs.map leafI).take k ++ [leafI x] by rw [List.take_add_one, List.getElem?_map, hx]; rfl)
      have t3 := World.block_lt_of_cell? _ _ hcr
      have i1 : (0 : Int) ≤ (k : Int) := by omega
      have i2 : (k : Int) < (n : Int) := by omega
      replace hx := Lib.hid hx
      replace hxu := Lib.hid hxu
      replace hWr := Lib.hid hWr
      clear hz hb hc hok
      go_wp2_with fail
      refine wp_region_tails (by kernel_rfl) 9 (fun W => Below wr.heap.size wr W) (fun i => match i with
          | 8 => some (fun v W => ∃ g, v = .slice (some ⟨g, 0, none⟩) 1 1 ∧ wr.heap.size ≤ g ∧ W.heap[g]? = some (.cells #[.int .u8 2, .int .u32 0, .int .u32 x, .int .i64 0, .slice none 0 0] 52 (0, 0)))
          | _ => none) (fun _ => none) (by decide) (by kernel_rfl) (by kernel_rfl) (Below.refl _ _).drew (fun w w' h hb => h.trans (hb.mono h.size)) ?tst ?_
      case tst =>
        intro j φ x W W' hp hx hb
        match j, hp with
        | 8, hp =>
          cases hp
          obtain ⟨g, e1, e2, e3⟩ := hx
          exact ⟨g, e1, e2, (hb.block g (Array.getElem?_eq_some_iff.1 e3).1).trans e3⟩
      simp only [List.take_succ_cons, List.take_zero, List.drop_succ_cons, List.drop_zero]
      repeat (first
        | (refine wpAs_skip rfl ?_; simp only [Act.put, List.setIfInBounds_toArray, List.set_cons_zero, List.set_cons_succ])
        | (refine wpAs_pure (v := ?_) rfl rfl ?_ ?_; rotate_left; (intro W hC hE; clear hE; (have z2 := (hC.cell (p := ⟨w2.heap.size, 1, none⟩) r5).trans r3; have z3 := (hC.cell t3).trans hcr); clear hC; go_simp; done); simp only [Act.put, List.setIfInBounds_toArray, List.set_cons_zero, List.set_cons_succ])
        | (refine wpAs_pure (v := ?_) rfl rfl ?_ ?_; rotate_left; (intro W hC hE; clear hE; (have z2 := (hC.cell (p := ⟨w2.heap.size, 1, none⟩) r5).trans r3; have z3 := (hC.cell t3).trans hcr); clear hC; go_simp; with_reducible rfl); simp only [Act.put, List.setIfInBounds_toArray, List.set_cons_zero, List.set_cons_succ]))
      refine wpAs_act rfl rfl ?_ ?_
      · intro W hC hE
        have hsw := hC.size
        clear hE hC
        go_simp
        exact ⟨⟨W.heap.size, rfl, hsw, heap_alloc_new _ _⟩, (Below.refl _ _).alloc (Nat.le_refl _) _⟩
      simp only [Act.put, List.setIfInBounds_toArray, List.set_cons_zero, List.set_cons_succ, envAdd]
      intro x21
      refine wpAs_end fun W hC hE => ?_
      obtain ⟨⟨g, rfl, hg, hg3⟩, _⟩ := hE
      have s5 := S5.out
      have hwr := hb'.out.size
      have hrowW := RowOf.below stab_it hrow.out hC
      have hlo : w3.heap.size ≤ wr.heap.size := by omega
      obtain ⟨A2, c2, w7, hr2, row7, gr7, ba7⟩ := its_push hrowW g (leafI x) (.slice none 0 0) 1 k htl.out hg3 (by omega) (Nat.le_trans hlo hC.size) (leafI_in hxu.out) (rBy_part0 _ _ none)
      have g7 := (ba7.block w2.heap.size (by omega)).trans ((hC.block w2.heap.size r5).trans hz'.out)
      obtain ⟨w8, hw8, g8, gr8, gs8⟩ := put_snd (u := .slice A2 (k + 1) c2) g7
      have row8 := Lib.hid (RowOf.grown stab_it row7 gr8 (fun q e => by cases e; omega))
      have hb7 : Below w2.heap.size w2 w7 := (hb'.out.trans (hC.mono hb'.out.size)).trans (ba7.mono (by omega))
      have hb8 := Lib.hid (hb7.grown gr8 hb7.size (fun q e => by cases e; omega))
      have z2 := (hC.cell (p := ⟨w2.heap.size, 1, none⟩) r5).trans r3
      obtain ⟨y1, y2, y3, y4⟩ := two_cells g7
      have H2 := Lib.hid hr2
      replace g8 := Lib.hid g8
      replace g7 := Lib.hid g7
      replace hg3 := Lib.hid hg3
      clear hr2 row7 gr7 gr8 ba7 hb7 hrowW hC gs8 s5
      go_wp2_with (at_builtin; refine wpList_append_run rfl _ _ _ rfl rfl rfl H2.out ?_; clear H2)
      go_roundw
      case rel => exact ⟨k + 1, by omega, by go_num, hb8.out, A2, c2, g8.out, by rw [htk.out]; exact row8.out⟩
      case measure => simp [intOf]; omega
    · have hkn := Lib.hid (show k = n by omega)
      have hall := Lib.hid (show (xs.map leafI).take k = xs.map leafI from List.take_of_length_le (by rw [List.length_map, hn.out]; omega))
      have s5 := S5.out
      have bR := (hb.block w.heap.size lt0).trans f2.out
      obtain ⟨p0, p1, pf, _⟩ := two_cells bR
      obtain ⟨W9, hW9, g9, gr9, gs9⟩ := put_two (u := .int .i64 0) (v := .slice A1 k c1) bR
      obtain ⟨k0, k1, _, _⟩ := two_cells g9
      have B9 := Lib.hid (hWr.grown gr9 hWr.size (fun q e => by cases e; omega))
      have row9 := RowOf.low stab_it (RowOf.grown stab_it hrow.out gr9 (fun q e => by cases e; omega)) (show w.heap.size ≤ w3.heap.size by omega)
      have hfin : Hid (Nod (New w.heap.size W9) W9 (.agg #[.int .i64 0, .slice A1 k c1]) (leafN xs)) := Lib.hid (by
        have h1 := row9.rel stab_it
        rw [htl.out, hall.out] at h1
        exact ⟨_, rfl, (nod_zero (Old w) w).choose_spec.2.1, h1⟩)
      replace bR := Lib.hid bR
      replace g9 := Lib.hid g9
      clear gr9 row9 s5 hz hrow
      go_wp2_with fail
      exact bodyPost_ret (v := .agg #[.int .i64 0, .slice A1 k c1]) (by simp [results, Try.results10, go_sem, k0, k1]) rfl ⟨_, rfl, hfin.out, B9.out⟩
end Go.Proofs.Ytpcajbcdahcehaa

/-
  Package node: Place. Conditions: those that each lemma states.
-/
namespace Go.Proofs.Ytpcajbcdahcehaa
open Go.RowKit

def cntK (l : List It) (k : Ky) : Nat := (l.filter fun x => lessK x.1 k).length
theorem cntK_le (l : List It) (k : Ky) : cntK l k ≤ l.length := List.length_filter_le _ _
theorem cntK_take (l : List It) (k : Ky) (i : Nat) : cntK (l.take i) k ≤ i := Nat.le_trans (cntK_le _ _) (List.length_take_le _ _)
theorem cntK_yes {l : List It} {k : Ky} {i : Nat} {x : It} (hx : l[i]? = some x) (h : lessK x.1 k = true) : cntK (l.take (i + 1)) k = cntK (l.take i) k + 1 := by
  unfold cntK
  rw [List.take_add_one, hx, Option.toList_some, List.filter_append]
  simp [h]
theorem cntK_no {l : List It} {k : Ky} {i : Nat} {x : It} (hx : l[i]? = some x) (h : lessK x.1 k = false) : cntK (l.take (i + 1)) k = cntK (l.take i) k := by
  unfold cntK
  rw [List.take_add_one, hx, Option.toList_some, List.filter_append]
  simp [h]
def placeN (n : Nd) (k : Ky) : Nat := cntK n.2 k
def thereN (n : Nd) (k : Ky) : Bool := match n.2[placeN n k]? with
  | none => false
  | some x => decide (x.1 = k)
theorem thereN_out {n : Nd} {k : Ky} (h : n.2.length ≤ placeN n k) : thereN n k = false := by
  unfold thereN
  rw [List.getElem?_eq_none h]
theorem thereN_at {n : Nd} {k : Ky} {x : It} (h : n.2[placeN n k]? = some x) : thereN n k = decide (x.1 = k) := by
  unfold thereN
  rw [h]
set_option maxRecDepth 100000 in
theorem key_guard : Try.prog.eqGuardType Try.prog.depth 30 = false := by kernel_rfl
set_option maxRecDepth 100000 in
/-- Two keys held against each other, as the walk spells it. -/
theorem key_eq (a b : Ky) (w : World) : (Op.equalIn 10000 30 (kyV a) (kyV b)).run Try.prog w = .ok (decide (a = b)) w := by
  have hS : Try.prog.underlying 30 = some (.struct (Try.prog.fieldsOf 30)) := by kernel_rfl
  have hp : Try.prog.stoodInHeld 30 = false := by kernel_rfl
  have u3 := Try.underlying5
  have u4 := Try.underlying28
  have a3 := Try.isAgg5
  have z3 := Try.sizeOf5
  have a4 := Try.isAgg28
  have z4 := Try.sizeOf28
  obtain ⟨a1, a2, a3⟩ := a
  obtain ⟨b1, b2, b3⟩ := b
  have h : a1 = b1 ↔ (a1.toNat : Int) = b1.toNat := ⟨fun h => by rw [h], fun h => UInt8.toNat.inj (by omega)⟩
  simp only [Prod.mk.injEq, h]
  unfold kyV
  rw [show (10000 : Nat) = 9999 + 1 from rfl, run_equalIn_agg w 9999 30 _ _ hS hp]
  simp only [Program.fieldsOf, Try.underlying30]
  go_simp
  by_cases h1 : (a1.toNat : Int) = b1.toNat <;> by_cases h2 : a2 = b2 <;> by_cases h3 : a3 = b3 <;> simp [h1, h2, h3]

set_option maxRecDepth 100000 in
set_option maxHeartbeats 4000000 in
theorem nodePlace_any (v : Value) (n : Nd) (key : Ky) (w : World) (h : Nod (Old w) w v n) :
    Calls Try.prog 9 #[v, kyV key] w fun e w' => e = .returned (.tuple #[.int .i64 (placeN n key : Nat), .bool (thereN n key)]) ∧ Below w.heap.size w w' := by
  obtain ⟨A, c, rfl, _, l1, m1, hA⟩ := h.open
  have HA := Lib.hid hA
  clear h hA
  have hout := Lib.hid (fun hh => thereN_out (n := n) (k := key) hh)
  obtain ⟨m, hm⟩ : ∃ m, n.2.length = m := ⟨_, rfl⟩
  obtain ⟨l, hl⟩ : ∃ l, n.1 = l := ⟨_, rfl⟩
  rw [hm] at l1 HA hout ⊢
  rw [hl]
  clear hl
  replace hm := Lib.hid hm
  obtain ⟨w1, hw1, b1, hs1, hB1⟩ := box_pair' w (.int .i64 l) (.slice A m c) 26
  obtain ⟨w0, hw0, g0, g1, g2, hs0, hB2, _⟩ := box_three w1 (.int .u8 (key.1.toNat : Int)) (.int .u32 key.2.1) (.int .u32 key.2.2) 30
  obtain ⟨_, f2', _, lt1⟩ := two_cells b1
  have f2 := (hB2.cell (p := ⟨w.heap.size, 1, none⟩) lt1).trans f2'
  have hB0 := Lib.hid (hB1.trans (hB2.mono hB1.size))
  have lt0 : w.heap.size < w0.heap.size := Nat.lt_of_lt_of_le lt1 hB2.size
  have ltk : w1.heap.size < w0.heap.size := by omega
  have hB := Lib.hid (fun wr (hb : Below w0.heap.size w0 wr) => hB0.out.trans (hb.mono hB0.out.size))
  clear hB1 hB2 b1 f2'
  replace hs1 := Lib.hid hs1
  replace hs0 := Lib.hid hs0
  unfold kyV
  go_enter Try.func9, Try.ntmps9
  go_upto_region 1 with fail
  clear hw0 hw1
  go_wp2_with fail
  go_loopw [4, 11] (fun a i wr => ∃ k : Nat, k ≤ m ∧ i = .int .i64 k ∧ a = .int .i64 (cntK (n.2.take k) key : Nat) ∧ Below w0.heap.size w0 wr) (fun _ i _ => m - (intOf i).toNat)
  case atStart => exact ⟨0, by omega, rfl, rfl, Below.refl _ _⟩
  case round =>
    obtain ⟨k, hk, rfl, rfl, hb⟩ := hrel
    have hcle := cntK_take n.2 key k
    replace hb := Lib.hid hb
    have p2 := (hb.out.cell (p := ⟨w.heap.size, 1, none⟩) lt0).trans f2
    have y0 := (hb.out.cell (p := ⟨w1.heap.size, 0, none⟩) ltk).trans g0
    have y1 := (hb.out.cell (p := ⟨w1.heap.size, 1, none⟩) ltk).trans g1
    have y2 := (hb.out.cell (p := ⟨w1.heap.size, 2, none⟩) ltk).trans g2
    have BF := Lib.hid (hB.out _ hb.out)
    by_cases hlt : k < m
    case neg =>
      have hkm : Hid (n.2.take k = n.2) := Lib.hid (List.take_of_length_le (by rw [hm.out]; omega))
      have hat := Lib.hid (show cntK (n.2.take k) key = placeN n key by rw [hkm.out]; rfl)
      rw [hat.out] at hcle ⊢
      obtain ⟨p, hp⟩ : ∃ p, placeN n key = p := ⟨_, rfl⟩
      rw [hp] at hcle hout ⊢
      by_cases hpm : p < m
      · obtain ⟨x, hx⟩ : ∃ x, n.2[p]? = some x := ⟨_, List.getElem?_eq_getElem (by rw [hm.out]; exact hpm)⟩
        obtain ⟨ad, E, ce, rfl, _, _, _, FX⟩ := its_old HA.out hx
        obtain ⟨⟨z0, z1, z2, z3, z4⟩, _⟩ := FX wr BF.out
        have hth := Lib.hid (show decide (x.1 = key) = thereN n key from (thereN_at (by rw [hp]; exact hx)).symm)
        have he := key_eq x.1 key
        have hg := key_guard
        unfold kyV at he
        replace hp := Lib.hid hp
        replace hx := Lib.hid hx
        have i1 : (p : Int) < (m : Int) := by omega
        have i0 : (0 : Int) ≤ (p : Int) := by omega
        clear FX
        go_wp2_with fail
        go_quiet (fail)
        go_wp2_with fail
        go_ret2
        exact ⟨by rw [hp.out, hth.out]; rfl, below_drewN BF.out _⟩
      · have hth := Lib.hid (hout.out (by omega))
        have i1 : ¬ (p : Int) < (m : Int) := by omega
        replace hp := Lib.hid hp
        go_wp2_with fail
        go_quiet (fail)
        go_wp2_with fail
        go_ret2
        exact ⟨by rw [hp.out, hth.out]; rfl, below_drewN BF.out _⟩
    obtain ⟨x, hx⟩ : ∃ x, n.2[k]? = some x := ⟨_, List.getElem?_eq_getElem (by rw [hm.out]; exact hlt)⟩
    obtain ⟨ad, E, ce, rfl, q1, q2, hinx, FX⟩ := its_old HA.out hx
    obtain ⟨⟨z0, z1, z2, z3, z4⟩, _⟩ := FX wr BF.out
    obtain ⟨w2, hw2, r0, r1, r2, _, _, hs2, hB2, _⟩ := box_five wr (.int .u8 (x.1.1.toNat : Int)) (.int .u32 x.1.2.1) (.int .u32 x.1.2.2) (.int .i64 x.2.1) (.slice E x.2.2.length ce) 52
    have B2 := Lib.hid (hb.out.trans (hB2.mono hb.out.size))
    have v0 := (B2.out.cell (p := ⟨w1.heap.size, 0, none⟩) ltk).trans g0
    have v1 := (B2.out.cell (p := ⟨w1.heap.size, 1, none⟩) ltk).trans g1
    have v2 := (B2.out.cell (p := ⟨w1.heap.size, 2, none⟩) ltk).trans g2
    have hyes := Lib.hid (fun hh => cntK_yes (k := key) hx hh)
    have hno := Lib.hid (fun hh => cntK_no (k := key) hx hh)
    replace hx := Lib.hid hx
    replace hs2 := Lib.hid hs2
    clear FX hB2 hinx
    go_upto_region 4 with fail
    clear hw2 z0 z1 z2 z3 z4 y0 y1 y2
    go_wp2_with fail
    with_reducible refine (less_any x.1 key _).mono ?_
    rintro e3 w3 ⟨rfl, hb3⟩
    have B3 := Lib.hid (B2.out.trans (hb3.mono B2.out.size))
    clear hb3
    obtain ⟨s, hs⟩ : ∃ s, lessK x.1 key = s := ⟨_, rfl⟩
    rw [hs] at hyes hno ⊢
    replace hs := Lib.hid hs
    obtain ⟨q, hq⟩ : ∃ q, cntK (n.2.take k) key = q := ⟨_, rfl⟩
    rw [hq] at hyes hno hcle ⊢
    replace hq := Lib.hid hq
    cases s with
    | true =>
      have hn := Lib.hid (hyes.out rfl)
      go_wp2_with fail
      go_roundw
      case rel => exact ⟨k + 1, by omega, by go_num, by rw [hn.out]; go_num, B3.out⟩
      case measure => simp [intOf]; omega
    | false =>
      have hn := Lib.hid (hno.out rfl)
      go_wp2_with fail
      go_roundw
      case rel => exact ⟨k + 1, by omega, by go_num, by rw [hn.out], B3.out⟩
      case measure => simp [intOf]; omega
end Go.Proofs.Ytpcajbcdahcehaa

/-
  Package node: Same. Conditions: those that each lemma states.
-/
namespace Go.Proofs.Ytpcajbcdahcehaa
open Go.RowKit

def sameN (a b : Nd) : Bool := decide (a = b)
theorem sameN_self (a : Nd) : sameN a a = true := by simp [sameN]
theorem sameN_eq {a b : Nd} (h : sameN a b = true) : a = b := by simpa [sameN] using h
theorem sameN_comm (a b : Nd) : sameN a b = sameN b a := by
  unfold sameN
  rw [Bool.eq_iff_iff]
  simp only [decide_eq_true_eq]
  exact ⟨fun h => h.symm, fun h => h.symm⟩
def sameIs (xs ys : List It) : Bool := decide (xs = ys)

set_option maxRecDepth 100000 in
set_option maxHeartbeats 4000000 in
theorem itsEqual_any (v u : Value) (xs ys : List It) (w : World) (hv : rIts (Old w) w [v] xs) (hu : rIts (Old w) w [u] ys) :
    Calls Try.prog 41 #[v, u, .func (.func 42) #[] #[]] w fun e w' => e = .returned (.bool (sameIs xs ys)) ∧ Below w.heap.size w w' := by
  obtain ⟨A, a, rfl, la, ma⟩ := its_open hv
  obtain ⟨B, b, rfl, lb, mb⟩ := its_open hu
  have HA := Lib.hid hv
  have HB := Lib.hid hu
  clear hv hu
  have hdef : Hid (sameIs xs ys = decide (xs = ys)) := Lib.hid rfl
  generalize sameIs xs ys = res at hdef ⊢
  obtain ⟨n, hn⟩ : ∃ n, xs.length = n := ⟨_, rfl⟩
  obtain ⟨m, hm⟩ : ∃ m, ys.length = m := ⟨_, rfl⟩
  rw [hn] at la HA ⊢
  rw [hm] at lb HB ⊢
  replace hn := Lib.hid hn
  replace hm := Lib.hid hm
  by_cases h1 : n = m
  · subst h1
    go_enter Try.func41, Try.ntmps41
    go_wp2_with fail
    go_loopw [17] (fun i wr => ∃ k : Nat, k ≤ n ∧ i = .int .i64 k ∧ xs.take k = ys.take k ∧ Below w.heap.size w wr) (fun i _ => n - (intOf i).toNat)
    case atStart => exact ⟨0, by omega, rfl, rfl, Below.refl _ _⟩
    case round =>
      obtain ⟨k, hk, rfl, ha, hb⟩ := hrel
      replace ha := Lib.hid ha
      replace hb := Lib.hid hb
      by_cases hlt : k < n
      · obtain ⟨x, hx⟩ : ∃ x, xs[k]? = some x := ⟨_, List.getElem?_eq_getElem (by rw [hn.out]; exact hlt)⟩
        obtain ⟨y, hy⟩ : ∃ y, ys[k]? = some y := ⟨_, List.getElem?_eq_getElem (by rw [hm.out]; exact hlt)⟩
        obtain ⟨ad, E, ce, rfl, _, _, _, FX⟩ := its_old HA.out hx
        obtain ⟨bd, E', ce', rfl, _, _, _, FY⟩ := its_old HB.out hy
        replace hx := Lib.hid hx
        replace hy := Lib.hid hy
        obtain ⟨⟨z0, z1, z2, z3, z4⟩, hIx⟩ := FX wr hb.out
        obtain ⟨w2, hw2, r0, r1, r2, r3, r4, hs2, hB2, _⟩ := box_five wr (.int .u8 (x.1.1.toNat : Int)) (.int .u32 x.1.2.1) (.int .u32 x.1.2.2) (.int .i64 x.2.1) (.slice E x.2.2.length ce) 52
        have hb2 := hb.out.trans (hB2.mono hb.out.size)
        obtain ⟨⟨y0, y1, y2, y3, y4⟩, hIy⟩ := FY w2 hb2
        have lt2 : wr.heap.size < w2.heap.size := by omega
        replace hs2 := Lib.hid hs2
        go_upto_region 6 with fail
        clear hw2 z0 z1 z2 z3 z4
        obtain ⟨w3, hw3, t0, t1, t2, t3, t4, hs3, hB3, _⟩ := box_five w2 (.int .u8 (y.1.1.toNat : Int)) (.int .u32 y.1.2.1) (.int .u32 y.1.2.2) (.int .i64 y.2.1) (.slice E' y.2.2.length ce') 52
        have hb3 := Lib.hid (hb2.trans (hB3.mono hb2.size))
        have HIx := Lib.hid ((hIx.below hB2).below hB3)
        have HIy := Lib.hid (hIy.below hB3)
        have s0 := (hB3.cell (p := ⟨wr.heap.size, 0, none⟩) lt2).trans r0
        have s1 := (hB3.cell (p := ⟨wr.heap.size, 1, none⟩) lt2).trans r1
        have s2 := (hB3.cell (p := ⟨wr.heap.size, 2, none⟩) lt2).trans r2
        have s3 := (hB3.cell (p := ⟨wr.heap.size, 3, none⟩) lt2).trans r3
        have s4 := (hB3.cell (p := ⟨wr.heap.size, 4, none⟩) lt2).trans r4
        replace hs3 := Lib.hid hs3
        clear FX FY hIx hIy hB2 hB3 hb2
        unfold itV at *
        go_upto_region 7 with fail
        clear hw3 y0 y1 y2 y3 y4 r0 r1 r2 r3 r4
        go_wp2_with fail
        with_reducible refine (sameI_any _ _ x y _ HIx.out HIy.out).mono ?_
        rintro e4 w4 ⟨rfl, hb4⟩
        have B4 := Lib.hid (hb3.out.trans (hb4.mono hb3.out.size))
        clear hb4 s0 s1 s2 s3 s4 t0 t1 t2 t3 t4
        rcases bool_ways (sameI x y) with e | e
        · have hne := Lib.hid (show res = false by rw [hdef.out]; simpa using ne_of_at hx.out hy.out (fun h => by rw [h, sameI_self] at e; cases e))
          rw [e]
          replace e := Lib.hid e
          go_wp2_with fail
          go_ret
          exact ⟨ret_bool hne.out.symm, B4.out⟩
        · have he := Lib.hid (sameI_eq e)
          rw [e]
          replace e := Lib.hid e
          go_wp2_with fail
          go_roundw
          case rel => exact ⟨k + 1, by omega, by go_num, take_eq_succ ha.out hx.out hy.out he.out, B4.out⟩
          case measure => simp [intOf]; omega
      · have hge : n ≤ k := by omega
        have he : Hid (res = true) := Lib.hid (by
          have := ha.out
          rw [List.take_of_length_le (by rw [hn.out]; exact hge), List.take_of_length_le (by rw [hm.out]; exact hge)] at this
          rw [hdef.out]
          simpa using this)
        go_wp2_with fail
        go_ret
        exact ⟨ret_bool he.out.symm, hb.out⟩
  · have he : Hid (res = false) := Lib.hid (by
      rw [hdef.out]
      simp only [decide_eq_false_iff_not]
      intro e
      have := hn.out
      rw [e, hm.out] at this
      exact h1 this.symm)
    have h1' : ((n : Int) != m) = true := by simp; omega
    go_enter Try.func41, Try.ntmps41
    go_wp2_with fail
    go_ret
    exact ⟨ret_bool he.out.symm, Below.refl _ _⟩

theorem sameN_parts (a b : Nd) : sameN a b = (decide (a.1 = b.1) && sameIs a.2 b.2) := by
  obtain ⟨a1, a2⟩ := a
  obtain ⟨b1, b2⟩ := b
  unfold sameN sameIs
  rw [Bool.eq_iff_iff]
  simp

set_option maxRecDepth 100000 in
set_option maxHeartbeats 2000000 in
theorem sameN_any (v u : Value) (a b : Nd) (w : World) (hv : Nod (Old w) w v a) (hu : Nod (Old w) w u b) :
    Calls Try.prog 21 #[v, u] w fun e w' => e = .returned (.bool (sameN a b)) ∧ Below w.heap.size w w' := by
  obtain ⟨d, rfl, _, hd⟩ := hv
  obtain ⟨d', rfl, _, hd'⟩ := hu
  have hp := Lib.hid (sameN_parts a b)
  generalize sameN a b = res at hp ⊢
  obtain ⟨w1, hw1, b1, hs1, hB1⟩ := box_pair' w (.int .i64 a.1) d 26
  obtain ⟨w2, hw2, b2, hs2, hB2⟩ := box_pair' w1 (.int .i64 b.1) d' 26
  obtain ⟨f1, f2, _, lt1⟩ := two_cells ((hB2.block w.heap.size (by omega)).trans b1)
  obtain ⟨g1, g2, _, _⟩ := two_cells b2
  have hB0 := hB1.trans (hB2.mono hB1.size)
  have HD := Lib.hid (stab_its.old hd hB0)
  have HD' := Lib.hid (stab_its.old hd' hB0)
  obtain ⟨_, _, rfl, _⟩ := its_open hd
  obtain ⟨_, _, rfl, _⟩ := its_open hd'
  replace hB0 := Lib.hid hB0
  replace hs1 := Lib.hid hs1
  replace hs2 := Lib.hid hs2
  replace b1 := Lib.hid b1
  replace b2 := Lib.hid b2
  clear hd hd' hB1 hB2
  by_cases h : a.1 = b.1
  · have h1 : (a.1 == b.1) = true := by simpa using h
    have hfin := Lib.hid (show sameIs a.2 b.2 = res by rw [hp.out]; simp [h])
    replace h := Lib.hid h
    go_enter Try.func21, Try.ntmps21
    go_upto_region 1 with fail
    clear hw1 hw2
    go_wp2_with fail
    with_reducible refine (itsEqual_any _ _ a.2 b.2 _ HD.out HD'.out).mono ?_
    rintro e3 w3 ⟨rfl, hb3⟩
    rw [hfin.out]
    have BF := Lib.hid (hB0.out.trans (hb3.mono hB0.out.size))
    clear hb3
    go_wp2_with fail
    go_ret
    exact ⟨rfl, BF.out⟩
  · have h1 : (a.1 == b.1) = false := by simpa using h
    have hfin := Lib.hid (show res = false by rw [hp.out]; simp [h])
    replace h := Lib.hid h
    go_enter Try.func21, Try.ntmps21
    go_upto_region 1 with fail
    clear hw1 hw2
    go_wp2_with fail
    go_ret
    exact ⟨ret_bool hfin.out.symm, hB0.out⟩
end Go.Proofs.Ytpcajbcdahcehaa

/-
  What nodes and their blocks tell of one another, plain. Layer 6's law helper alive. Conditions: those that each lemma states.
-/
namespace Go.Proofs.Ytpcajbcdahcehaa
open Go.RowKit

structure InN (n : Nd) : Prop where
  lv : In64 n.1
  it : ∀ x ∈ n.2, InI x
theorem Nod.inN {ok : Addr → Prop} {w : World} {v : Value} {n : Nd} (h : Nod ok w v n) : InN n := by
  obtain ⟨A, c, _, h1, _, _, h2⟩ := h.open
  refine ⟨h1, fun x hx => ?_⟩
  obtain ⟨k, hk⟩ := List.mem_iff_getElem?.1 hx
  obtain ⟨_, _, _, _, _, _, _, _, _, hi⟩ := its_at h2 hk
  exact hi
theorem cutTo_its (l : List It) (xs : List UInt8) (h : ∀ x ∈ l, mayI x = true ∧ InI x) : ∀ k, k ≤ l.length → cutTo (itsB l ++ xs) k = some (l.take k, itsB (l.drop k) ++ xs)
  | 0, _ => by simp [cutTo]
  | k + 1, hk => by
    have hx : l[k]? = some l[k] := List.getElem?_eq_getElem hk
    obtain ⟨h1, h2⟩ := h l[k] (List.getElem_mem hk)
    have hd : itsB (l.drop k) ++ xs = itB l[k] ++ (itsB (l.drop (k + 1)) ++ xs) := by
      rw [List.drop_eq_getElem_cons hk, show itsB (l[k] :: l.drop (k + 1)) = itB l[k] ++ itsB (l.drop (k + 1)) from rfl, List.append_assoc]
    have ih := cutTo_its l xs h k (by omega)
    rw [hd] at ih
    obtain ⟨q0, q1, q2, _⟩ := itB_read l[k] (itsB (l.drop (k + 1)) ++ xs) h2 h1
    rw [cutTo_yes ih q0, q1, q2, List.take_add_one, hx]
    simp
theorem zeros_noughts (k : Nat) : noughtsB (zeros k) = true := by simp [noughtsB, zeros]
theorem noughts_zeros {b : List UInt8} (h : noughtsB b = true) : b = zeros b.length := by
  simp only [noughtsB, List.all_eq_true, beq_iff_eq] at h
  exact List.eq_replicate_iff.2 ⟨rfl, h⟩
theorem told_parts (n : Nd) : toldN n = [78, UInt8.ofNat n.1.toNat, UInt8.ofNat n.2.length] ++ itsB n.2 := rfl
/-- What is written is read. -/
theorem read_blkN {n : Nd} (h : mayN n = true) (hi : InN n) : reN (blkN n) = 0 ∧ reV (blkN n) = n := by
  have hl := toldN_len h
  obtain ⟨⟨s1, s2, s3, _⟩, _⟩ := mayN_of h
  have hob : ob (blkN n) = padN (toldN n) := by
    unfold ob
    rw [if_pos ⟨blkN_length h, fits_seal _⟩]
    exact seal_drop _
  have hoe : oe (blkN n) = 0 := by
    unfold oe
    rw [if_pos (blkN_length h), if_pos (show fits (blkN n) from fits_seal _)]
  obtain ⟨z, hz⟩ : ∃ z, 124 - (toldN n).length = z := ⟨_, rfl⟩
  have hp : padN (toldN n) = 78 :: UInt8.ofNat n.1.toNat :: UInt8.ofNat n.2.length :: (itsB n.2 ++ zeros z) := by
    rw [padN, hz, told_parts]
    simp
  have h0 : (ob (blkN n))[0]?.getD 0 = 78 := by rw [hob, hp]; rfl
  have h1 : lvlN (ob (blkN n)) = n.1 := by
    rw [hob, hp]
    show ((UInt8.ofNat n.1.toNat).toNat : Int) = n.1
    rw [UInt8.toNat_ofNat']
    omega
  have h2 : manyN (ob (blkN n)) = n.2.length := by
    rw [hob, hp]
    show (UInt8.ofNat n.2.length).toNat = n.2.length
    rw [UInt8.toNat_ofNat']
    omega
  have h3 : (ob (blkN n)).drop 3 = itsB n.2 ++ zeros z := by rw [hob, hp]; rfl
  have hc : cutTo ((ob (blkN n)).drop 3) (manyN (ob (blkN n))) = some (n.2, zeros z) := by
    rw [h2, h3, cutTo_its n.2 (zeros z) (fun x hx => ⟨mayN_all h x hx, hi.it x hx⟩) n.2.length (Nat.le_refl _)]
    simp [itsB]
  have hnd : ndN (ob (blkN n)) = n := by
    unfold ndN cutL
    rw [hc, h1]
    rfl
  have hr : rdN (ob (blkN n)) = true := by
    unfold rdN cutR
    rw [h0, hc, hnd, h]
    simp [zeros_noughts]
  obtain ⟨e1, e2⟩ := reN_good hoe hr
  exact ⟨e1, by rw [e2, hnd]⟩
/-- What is read is written so. -/
theorem blkN_read {b : List UInt8} (h : reN b = 0) : mayN (reV b) = true ∧ blkN (reV b) = b ∧ InN (reV b) := by
  have hoe : oe b = 0 := by
    unfold reN at h
    by_cases e : oe b = 0
    · exact e
    · rw [if_neg e] at h; exact absurd h e
  have hrd : rdN (ob b) = true := by
    unfold reN at h
    rw [if_pos hoe] at h
    cases e : rdN (ob b) with
    | true => rfl
    | false => rw [e] at h; cases h
  obtain ⟨e1, e2⟩ := reN_good hoe hrd
  obtain ⟨hlen, hfits, hob, h124⟩ := oe_zeroN hoe
  rw [e2]
  obtain ⟨bd, hbd⟩ : ∃ bd, ob b = bd := ⟨_, rfl⟩
  rw [hbd] at hrd h124 ⊢
  unfold rdN at hrd
  simp only [Bool.and_eq_true, decide_eq_true_eq] at hrd
  obtain ⟨h78, hs, hm, hn⟩ := hrd
  cases hc : cutTo (bd.drop 3) (manyN bd) with
  | none => rw [hc] at hs; cases hs
  | some p =>
    obtain ⟨l, r⟩ := p
    have hL : cutL (bd.drop 3) (manyN bd) = l := by simp [cutL, hc]
    have hR : cutR (bd.drop 3) (manyN bd) = r := by simp [cutR, hc]
    obtain ⟨c1, c2, c3⟩ := cutTo_bytes hc
    rw [hR] at hn
    have hnd : ndN bd = (lvlN bd, l) := by rw [ndN, hL]
    have hin : InN (ndN bd) := by
      rw [hnd]
      exact ⟨lvlN_in bd, fun x hx => (c3 x hx).2⟩
    refine ⟨hm, ?_, hin⟩
    have hsplit : bd = [78, bd[1]?.getD 0, bd[2]?.getD 0] ++ bd.drop 3 := by
      match bd, h124, h78 with
      | x :: y :: z :: q, _, h78 =>
        simp at h78
        simp [h78]
    have hT : toldN (ndN bd) = [78, bd[1]?.getD 0, bd[2]?.getD 0] ++ itsB l := by
      rw [hnd, told_parts, c2]
      have e1 : UInt8.ofNat (lvlN bd).toNat = bd[1]?.getD 0 := by simp [lvlN]
      have e2 : UInt8.ofNat (manyN bd) = bd[2]?.getD 0 := by simp [manyN]
      show [78, UInt8.ofNat (lvlN bd).toNat, UInt8.ofNat (manyN bd)] ++ itsB l = _
      rw [e1, e2]
    have hbody : bd = toldN (ndN bd) ++ r := by
      rw [hT, List.append_assoc, ← c1]
      exact hsplit
    have hpad : padN (toldN (ndN bd)) = bd := by
      have hl2 : (toldN (ndN bd)).length + r.length = 124 := by
        have := congrArg List.length hbody
        rw [List.length_append, h124] at this
        omega
      rw [padN, show 124 - (toldN (ndN bd)).length = r.length by omega, ← noughts_zeros hn]
      exact hbody.symm
    show sealN (toldN (ndN bd)) = b
    have hs : sealN (toldN (ndN bd)) = sealN bd := by
      unfold sealN
      rw [hpad, padN_full h124]
    rw [hs, ← hbd, hob]
    exact seal_back hlen hfits
theorem blkN_inj {a b : Nd} (ha : mayN a = true) (hb : mayN b = true) (ia : InN a) (ib : InN b) : decide (blkN a = blkN b) = sameN a b := by
  unfold sameN
  rw [Bool.eq_iff_iff]
  simp only [decide_eq_true_eq]
  refine ⟨fun h => ?_, fun h => by rw [h]⟩
  rw [← (read_blkN ha ia).2, h, (read_blkN hb ib).2]
theorem reN_no {b : List UInt8} (h : reN b ≠ 0) : reV b = zeroN := by
  by_cases e : oe b = 0
  · cases e2 : rdN (ob b) with
    | true => exact absurd (reN_good e e2).1 h
    | false => exact (reN_bad e e2).2
  · exact (reN_open e).2

/-! ### alive -/
theorem u4_lit (w : World) (t : TypeId) (xs : List Int) (cs : Array Value) (hc : cs.toList = xs.map fun x => Value.int .u32 x) (hb : xs.length ≤ 1000) (h : ∀ x ∈ xs, InU x) :
    rU4 (Old (w.alloc (.cells cs t))) (w.alloc (.cells cs t)) [.slice (some ⟨w.heap.size, 0, none⟩) xs.length xs.length] xs := by
  refine ⟨_, _, rfl, Nat.le_refl _, by omega, fun i x hi => ⟨_, [.int .u32 x], rfl, rfl, fun j v hj => ?_, rfl, ?_, ?_⟩⟩
  · have hj0 : j = 0 := by
      have := (List.getElem?_eq_some_iff.1 hj).1
      simp at this
      omega
    subst hj0
    cases hj
    have hcell : (w.alloc (.cells cs t)).cell? ((⟨w.heap.size, 0, none⟩ : Addr).add (i * 1 + 0)) = some (.int .u32 x) := by
      have e : ((⟨w.heap.size, 0, none⟩ : Addr).add (i * 1 + 0)) = ⟨w.heap.size, i, none⟩ := by unfold Addr.add; split <;> simp_all
      have e2 : cs[i]? = some (.int .u32 x) := by rw [← Array.getElem?_toList, hc, List.getElem?_map, hi]; rfl
      rw [e, ← e2]
      simp
    exact ⟨World.block_lt_of_cell? _ _ hcell, hcell⟩
  · have := (h x (List.mem_of_getElem? hi)).1
    simpa [IntKind.min, IntKind.signed, IntKind.bits] using this
  · have := (h x (List.mem_of_getElem? hi)).2
    simp [IntKind.max, IntKind.signed, IntKind.bits]
    omega
theorem u4_small {xs : List Int} (h : ∀ x ∈ xs, 0 ≤ x ∧ x < 1000) : ∀ x ∈ xs, InU x := fun x hx => by
  have := h x hx
  exact ⟨this.1, by omega⟩
theorem leafN_in {xs : List Int} (h : ∀ x ∈ xs, InU x) : InN (leafN xs) := ⟨⟨by show _ ≤ (0 : Int); omega, by show (0 : Int) ≤ _; omega⟩, fun x hx => by
  obtain ⟨y, hy, rfl⟩ := List.mem_map.1 hx
  exact leafI_in (h y hy)⟩

theorem place_lit (v : Value) (n : Nd) (k : UInt8) (p i o : Int) (hp : (k.toNat : Int) = p) (w : World) (h : Nod (Old w) w v n) :
    Calls Try.prog 9 #[v, .agg #[.int .u8 p, .int .u32 i, .int .u32 o]] w fun e w' => e = .returned (.tuple #[.int .i64 (placeN n (k, i, o) : Nat), .bool (thereN n (k, i, o))]) ∧ Below w.heap.size w w' := by
  subst hp
  exact nodePlace_any v n (k, i, o) w h

set_option maxRecDepth 100000 in
set_option maxHeartbeats 4000000 in
theorem alive6 (w : World) : Calls Try.prog 13 #[] w fun e w' => e = .returned (.bool true) ∧ Below w.heap.size w w' := by
  have hb1 : Below w.heap.size w (w.alloc (.cells #[.int .u32 2, .int .u32 4, .int .u32 6] 28)) := (Below.refl _ _).alloc (Nat.le_refl _) _
  have hu1 := u4_lit w 28 [2, 4, 6] #[.int .u32 2, .int .u32 4, .int .u32 6] rfl (by simp) (u4_small (by simp))
  obtain ⟨w1, hw1⟩ : ∃ w1, w.alloc (.cells #[.int .u32 2, .int .u32 4, .int .u32 6] 28) = w1 := ⟨_, rfl⟩
  rw [hw1] at hb1 hu1
  have B1 := Lib.hid hb1
  have hmay : Hid (mayN (leafN [2, 4]) = true) := Lib.hid (by decide)
  have hin : Hid (InN (leafN [2, 4])) := Lib.hid (leafN_in (u4_small (by simp)))
  have hp1 : Hid (placeN (leafN [2, 4, 6]) (2, 0, 4) = 1) := Lib.hid (by decide)
  have hp2 : Hid (thereN (leafN [2, 4, 6]) (2, 0, 4) = true) := Lib.hid (by decide)
  have hc := Lib.hid (chkN_ok hmay.out)
  have hw := Lib.hid (show wrN (leafN [2, 4]) = blkN (leafN [2, 4]) by simp [wrN, hmay.out])
  have hback := Lib.hid (read_blkN hmay.out hin.out)
  replace hu1 : Hid (rU4 (Old w1) w1 [.slice (some ⟨w.heap.size, 0, none⟩) 3 3] [2, 4, 6]) := Lib.hid hu1
  clear hb1
  go_enter Try.func13, Try.ntmps13
  go_wp2_with fail
  clear hw1
  with_reducible refine (leaf_any _ [2, 4, 6] _ (by simp) hu1.out).mono ?_
  rintro e2 w2 ⟨u2, rfl, hN2, hb2⟩
  have B2 := Lib.hid (B1.out.trans (hb2.mono B1.out.size))
  have HN2 := Lib.hid hN2.drop
  clear hN2 hb2
  go_wp2_with fail
  with_reducible refine (place_lit _ (leafN [2, 4, 6]) 2 2 0 4 rfl _ HN2.out).mono ?_
  rintro e3 w3 ⟨rfl, hb3⟩
  rw [hp1.out, hp2.out]
  have B3 := Lib.hid (B2.out.trans (hb3.mono B2.out.size))
  clear hb3
  have hb4 : Below w3.heap.size w3 (w3.alloc (.cells #[.int .u32 2, .int .u32 4] 28)) := (Below.refl _ _).alloc (Nat.le_refl _) _
  have hu4 := u4_lit w3 28 [2, 4] #[.int .u32 2, .int .u32 4] rfl (by simp) (u4_small (by simp))
  obtain ⟨w4, hw4⟩ : ∃ w4, w3.alloc (.cells #[.int .u32 2, .int .u32 4] 28) = w4 := ⟨_, rfl⟩
  rw [hw4] at hb4 hu4
  have B4 := Lib.hid (B3.out.trans (hb4.mono B3.out.size))
  replace hu4 : Hid (rU4 (Old w4) w4 [.slice (some ⟨w3.heap.size, 0, none⟩) 2 2] [2, 4]) := Lib.hid hu4
  clear hb4
  go_wp2_with fail
  clear hw4
  with_reducible refine (leaf_any _ [2, 4] _ (by simp) hu4.out).mono ?_
  rintro e5 w5 ⟨u5, rfl, hN5, hb5⟩
  have B5 := Lib.hid (B4.out.trans (hb5.mono B4.out.size))
  have HN5 := Lib.hid hN5.drop
  clear hN5 hb5
  go_wp2_with fail
  with_reducible refine (nodeWrite_any _ (leafN [2, 4]) _ HN5.out).mono ?_
  rintro e6 w6 ⟨u6, rfl, hu6, hb6⟩
  rw [hc.out]
  rw [hw.out] at hu6
  have B6 := Lib.hid (B5.out.trans (hb6.mono B5.out.size))
  have HU6 := Lib.hid (stab_by.drop hu6)
  clear hu6 hb6
  go_wp2_with fail
  with_reducible refine (nodeRead_any _ (blkN (leafN [2, 4])) _ HU6.out).mono ?_
  rintro e7 w7 ⟨u7, rfl, hN7, hb7⟩
  rw [hback.out.1]
  rw [hback.out.2] at hN7
  have B7 := Lib.hid (B6.out.trans (hb7.mono B6.out.size))
  obtain ⟨A, c, rfl, _, l1, m1, hI⟩ := hN7.drop.open
  obtain ⟨ad, E, ce, rfl, _, _, _, FX⟩ := its_old (k := 1) (s := leafI 4) hI rfl
  obtain ⟨w8, hw8, b8, hs8, hB8⟩ := box_pair' w7 (.int .i64 (leafN [2, 4]).1) (.slice (some ad) (leafN [2, 4]).2.length c) 26
  obtain ⟨f1, f2, _, _⟩ := two_cells b8
  obtain ⟨⟨z0, z1, z2, z3, z4⟩, _⟩ := FX w8 hB8
  have hz : w8.cell? ⟨ad.block, ad.off + 7, none⟩ = some (.int .u32 4) := by simpa [Addr.add, leafI] using z2
  have B8 := Lib.hid (B7.out.trans (hB8.mono B7.out.size))
  have hlen : Hid ((leafN [2, 4]).2.length = 2) := Lib.hid rfl
  rw [hlen.out] at f2 hw8 ⊢
  replace hs8 := Lib.hid hs8
  replace b8 := Lib.hid b8
  clear FX hI hN7 hb7 z0 z1 z2 z3 z4 hB8
  go_upto_region 4 with fail
  clear hw8
  go_wp2_with fail
  go_ret
  exact ⟨rfl, B8.out⟩
end Go.Proofs.Ytpcajbcdahcehaa

/-
  The document's answers of layer 6: Great. Conditions: those that each lemma states.
-/
namespace Go.Proofs.Ytpcajbcdahcehaa
open Go.RowKit

def cap5 (n : Nat) : Int := if (100000 : Int) < n then 100000 else n
theorem cap5_nonneg (n : Nat) : 0 ≤ cap5 n ∧ cap5 n ≤ 100000 := by unfold cap5; split <;> omega
def sumI : List It → Int
  | [] => 0
  | x :: r => cap5 x.2.2.length + sumI r
theorem sumI_snoc (xs : List It) (x : It) : sumI (xs ++ [x]) = sumI xs + cap5 x.2.2.length := by
  induction xs with
  | nil => simp [sumI]
  | cons y r ih => simp only [List.cons_append, sumI, ih]; omega
theorem sumI_le (xs : List It) : 0 ≤ sumI xs ∧ sumI xs ≤ 100000 * xs.length := by
  induction xs with
  | nil => simp [sumI]
  | cons y r ih => have := cap5_nonneg y.2.2.length; simp only [sumI, List.length_cons]; omega
theorem sumI_mem {xs : List It} {x : It} (h : x ∈ xs) : cap5 x.2.2.length ≤ sumI xs := by
  induction xs with
  | nil => cases h
  | cons y r ih =>
    have := cap5_nonneg y.2.2.length
    have := (sumI_le r).1
    simp only [sumI]
    rcases List.mem_cons.1 h with rfl | h
    · omega
    · have := ih h; omega
def greatI (l : List It) : Bool := decide (1000 < l.length) || decide (50000 < sumI (l.take 2000))
/-- Items that are not great are few and small. -/
structure Few (l : List It) : Prop where
  many : l.length ≤ 1000
  val : ∀ (k : Nat) (x : It), l[k]? = some x → x.2.2.length ≤ 100000
theorem few_of {l : List It} (h : greatI l = false) : Few l := by
  simp only [greatI, Bool.or_eq_false_iff, decide_eq_false_iff_not] at h
  obtain ⟨h1, h2⟩ := h
  rw [List.take_of_length_le (by omega)] at h2
  refine ⟨by omega, fun k x hk => ?_⟩
  have := sumI_mem (List.mem_of_getElem? hk)
  unfold cap5 at this
  split at this <;> omega

set_option maxRecDepth 100000 in
set_option maxHeartbeats 2000000 in
theorem greatI_any (v : Value) (l : List It) (w : World) (h : rIts (Old w) w [v] l) : Calls Try.prog 15 #[v] w fun e w' => e = .returned (.bool (greatI l)) ∧ Below w.heap.size w w' := by
  obtain ⟨A, c, rfl, l1, m1⟩ := its_open h
  have HA := Lib.hid h
  clear h
  have hg : greatI l = (decide (1000 < l.length) || decide (50000 < sumI (l.take 2000))) := rfl
  generalize greatI l = res at hg ⊢
  obtain ⟨n, hn⟩ : ∃ n, l.length = n := ⟨_, rfl⟩
  rw [hn] at l1 HA hg ⊢
  replace hn := Lib.hid hn
  replace hg := Lib.hid hg
  go_enter Try.func15, Try.ntmps15
  go_wp2_with fail
  go_loop [3, 4] (fun s i => ∃ k : Nat, k ≤ n ∧ k ≤ 2000 ∧ i = .int .i64 k ∧ s = .int .i64 (sumI (l.take k))) (fun _ i => n - (intOf i).toNat)
  case atStart => exact ⟨0, by omega, by omega, rfl, rfl⟩
  case round =>
    obtain ⟨k, hk, hk2, rfl, rfl⟩ := hrel
    have b1 := sumI_le (l.take k)
    have b2 : (l.take k).length ≤ k := List.length_take_le _ _
    by_cases hlt : k < n ∧ k < 2000
    · obtain ⟨hlt1, hlt2⟩ := hlt
      obtain ⟨x, hx⟩ : ∃ x, l[k]? = some x := ⟨_, List.getElem?_eq_getElem (by rw [hn.out]; exact hlt1)⟩
      obtain ⟨ad, E, ce, rfl, _, _, _, FX⟩ := its_old HA.out hx
      obtain ⟨⟨z0, z1, z2, z3, z4⟩, _⟩ := FX w (Below.refl _ _)
      have hsn := Lib.hid (show sumI (l.take (k + 1)) = sumI (l.take k) + cap5 x.2.2.length by rw [List.take_add_one, hx]; exact sumI_snoc _ _)
      have b3 := cap5_nonneg x.2.2.length
      replace hx := Lib.hid hx
      clear FX
      have hl2 : (k : Int) < 2000 := by omega
      have hl1 : (k : Int) < n := by omega
      generalize sumI (l.take k) = s at *
      generalize (l.take k).length = q at *
      go_wp2_with fail
      go_round
      case rel => exact ⟨k + 1, by omega, by omega, by go_num, by rw [hsn.out]; rfl⟩
      case measure => simp [intOf]; omega
    · have hs1 : Hid (l.take k = l.take 2000) := Lib.hid (by
        have := hn.out
        rcases (by omega : n ≤ k ∨ k = 2000) with h | h
        · rw [List.take_of_length_le (by omega), List.take_of_length_le (by omega)]
        · rw [h])
      rw [hs1.out] at b1 b2 ⊢
      obtain ⟨s, hs⟩ : ∃ s, sumI (l.take 2000) = s := ⟨_, rfl⟩
      replace hg := hg.out
      rw [hs] at hg b1 ⊢
      replace hg := Lib.hid hg
      have b1' : s ≤ 200000000 := by omega
      clear b2 hs
      by_cases h9 : k < n
      · have h10 : ¬ (k : Int) < 2000 := by omega
        by_cases h11 : 1000 < n
        · have h12 : (1000 : Int) < n := by omega
          have hfin := Lib.hid (show res = true by rw [hg.out]; simp [h11])
          go_wp2_with fail
          go_ret
          exact ⟨ret_bool hfin.out.symm, Below.refl _ _⟩
        · omega
      · by_cases h11 : 1000 < n
        · have h12 : (1000 : Int) < n := by omega
          have hfin := Lib.hid (show res = true by rw [hg.out]; simp [h11])
          go_wp2_with fail
          go_ret
          exact ⟨ret_bool hfin.out.symm, Below.refl _ _⟩
        · have h12 : ¬ (1000 : Int) < n := by omega
          have hfin := Lib.hid (show decide (50000 < s) = res by rw [hg.out]; simp [h11])
          go_wp2_with fail
          go_ret
          exact ⟨ret_bool hfin.out, Below.refl _ _⟩
end Go.Proofs.Ytpcajbcdahcehaa

/-
  Bytes of the call's own that are turned where they lie; what lies elsewhere stays. Facts on items whose cells lie in a range that does not move. Conditions: those that each lemma states.
-/
namespace Go.Proofs.Ytpcajbcdahcehaa
open Go.RowKit

structure Turnt (lo hi : Nat) (w wr : World) : Prop where
  sp : Spoilt lo w wr
  keep : ∀ k, hi ≤ k → wr.heap[k]? = w.heap[k]?
theorem Turnt.refl (lo hi : Nat) (w : World) : Turnt lo hi w w := ⟨Spoilt.refl _ _, fun _ _ => rfl⟩
theorem Turnt.step {lo hi : Nat} {w wr : World} (h : Turnt lo hi w wr) {p : Addr} (hp : lo ≤ p.block) (hp' : p.block < hi) {x : UInt8} (hx : wr.cell? p = some (.int .u8 (x.toNat : Int))) (y : UInt8) : Turnt lo hi w (wr.setCell p (.int .u8 (y.toNat : Int))) :=
  ⟨h.sp.step hp hx y, fun k hk => (Below.heap_setCell wr p _ k (by omega)).trans (h.keep k hk)⟩
theorem Turnt.drew {lo hi : Nat} {w wr : World} (h : Turnt lo hi w wr) : Turnt lo hi w wr.drew := ⟨h.sp.drew, h.keep⟩
theorem Turnt.block {lo hi : Nat} {w wr : World} (h : Turnt lo hi w wr) {k : Nat} (hk : k < lo ∨ hi ≤ k) : wr.heap[k]? = w.heap[k]? := by
  rcases hk with hk | hk
  · exact h.sp.low.block k hk
  · exact h.keep k hk
theorem Turnt.cell {lo hi : Nat} {w wr : World} (h : Turnt lo hi w wr) {p : Addr} (hk : p.block < lo ∨ hi ≤ p.block) : wr.cell? p = w.cell? p := World.cell?_of_block (h.block hk)
theorem Turnt.by_out {lo hi : Nat} {w wr : World} {ok : Addr → Prop} {v : Value} {xs : List UInt8} (h : Turnt lo hi w wr) (hok : ∀ p, ok p → p.block < lo ∨ hi ≤ p.block) (hx : rBy ok w [v] xs) : rBy ok wr [v] xs :=
  stab_by _ _ _ _ _ _ (fun p _ hp hc => ⟨hp, (h.cell (hok p hp)).trans hc⟩) hx
theorem Turnt.itm_out {lo hi : Nat} {w wr : World} {ok : Addr → Prop} {v : Value} {s : It} (h : Turnt lo hi w wr) (hok : ∀ p, ok p → p.block < lo ∨ hi ≤ p.block) (hx : Itm ok w v s) : Itm ok wr v s :=
  hx.map fun p _ hp hc => ⟨hp, (h.cell (hok p hp)).trans hc⟩
theorem Turnt.box5 {lo hi g : Nat} {w wr : World} {a b c d e : Value} (h : Turnt lo hi w wr) (hg : g < lo ∨ hi ≤ g) (hb : Box5 g a b c d e w) : Box5 g a b c d e wr :=
  ⟨(h.cell (p := ⟨g, 0, none⟩) hg).trans hb.1, (h.cell (p := ⟨g, 1, none⟩) hg).trans hb.2.1, (h.cell (p := ⟨g, 2, none⟩) hg).trans hb.2.2.1, (h.cell (p := ⟨g, 3, none⟩) hg).trans hb.2.2.2.1, (h.cell (p := ⟨g, 4, none⟩) hg).trans hb.2.2.2.2.1, Nat.lt_of_lt_of_le hb.2.2.2.2.2 h.sp.low.size⟩

/-- Facts whose cells lie in a range that does not move. -/
def OnI (ok : Addr → Prop) (v : Value) (s : It) : World → Prop := fun w => Itm ok w v s
theorem lasts_onI (ok : Addr → Prop) (v : Value) (s : It) : Lasts (OnI ok v s) := fun w _ h hb => Itm.map (fun p _ hp hc => ⟨hp, (hb.cell (World.block_lt_of_cell? w p hc)).trans hc⟩) h
def OnB (ok : Addr → Prop) (v : Value) (xs : List UInt8) : World → Prop := fun w => rBy ok w [v] xs
theorem lasts_onB (ok : Addr → Prop) (v : Value) (xs : List UInt8) : Lasts (OnB ok v xs) := fun w _ h hb => stab_by _ _ _ _ _ _ (fun p _ hp hc => ⟨hp, (hb.cell (World.block_lt_of_cell? w p hc)).trans hc⟩) h
theorem OnI.old {ok : Addr → Prop} {v : Value} {s : It} {w : World} (h : OnI ok v s w) : Itm (Old w) w v s := Itm.map (fun p _ _ hc => ⟨World.block_lt_of_cell? w p hc, hc⟩) h
theorem OnB.old {ok : Addr → Prop} {v : Value} {xs : List UInt8} {w : World} (h : OnB ok v xs w) : rBy (Old w) w [v] xs := stab_by _ _ _ _ _ _ (fun p _ _ hc => ⟨World.block_lt_of_cell? w p hc, hc⟩) h
/-- Where the bytes of an item of the call's own lie. -/
def In (lo hi : Nat) : Addr → Prop := fun p => lo ≤ p.block ∧ p.block < hi
theorem on_new {lo : Nat} {w : World} {v : Value} {s : It} (h : Itm (New lo w) w v s) : OnI (In lo w.heap.size) v s w := h.map fun _ _ hp hc => ⟨⟨hp.1, hp.2.1⟩, hc⟩
theorem on_old {w : World} {v : Value} {s : It} (h : Itm (Old w) w v s) : OnI (In 0 w.heap.size) v s w := h.map fun _ _ hp hc => ⟨⟨Nat.zero_le _, hp⟩, hc⟩
theorem onB_old {w : World} {v : Value} {xs : List UInt8} (h : rBy (Old w) w [v] xs) : OnB (In 0 w.heap.size) v xs w := stab_by _ _ _ _ _ _ (fun _ _ hp hc => ⟨⟨Nat.zero_le _, hp⟩, hc⟩) h
/-- An item of the call's own whose bytes lie in a range that does not move. -/
def Fz (lo hi : Nat) (w : World) : Addr → Prop := fun p => lo ≤ p.block ∧ p.block < hi ∧ w.frozen? p = false
def NewIn (lo hi : Nat) (v : Value) (s : It) : World → Prop := fun w => Itm (Fz lo hi w) w v s ∧ hi ≤ w.heap.size
theorem lasts_newIn (lo hi : Nat) (v : Value) (s : It) : Lasts (NewIn lo hi v s) := fun _ _ h hb => ⟨h.1.map fun _ _ hp hc => ⟨⟨hp.1, hp.2.1, (hb.frozen (Nat.lt_of_lt_of_le hp.2.1 h.2)).trans hp.2.2⟩, (hb.cell (Nat.lt_of_lt_of_le hp.2.1 h.2)).trans hc⟩, Nat.le_trans h.2 hb.size⟩
theorem newIn_of {lo : Nat} {w : World} {v : Value} {s : It} (h : Itm (New lo w) w v s) : NewIn lo w.heap.size v s w := ⟨h, Nat.le_refl _⟩
theorem Turnt.newIn_out {lo hi lo' hi' : Nat} {w wr : World} {v : Value} {s : It} (h : Turnt lo hi w wr) (hk : hi' ≤ lo ∨ hi ≤ lo') (hx : NewIn lo' hi' v s w) : NewIn lo' hi' v s wr :=
  ⟨hx.1.map fun p _ hp hc => by
    have hb := h.block (k := p.block) (by have h1 := hp.1; have h2 := hp.2.1; omega)
    exact ⟨⟨hp.1, hp.2.1, (World.frozen?_of_block hb).trans hp.2.2⟩, (World.cell?_of_block hb).trans hc⟩, Nat.le_trans hx.2 h.sp.low.size⟩
/-- A byte of an item of the call's own, somewhat later in a loop that turns them. -/
theorem turn_at {lo hi : Nat} {w wr : World} {s : It} {A : Option Addr} {n c k : Nat} (h1 : NewIn lo hi (itV s (.slice A n c)) s w) (h : Turnt lo hi w wr) (hk : k < s.2.2.length) :
    ∃ (ad : Addr) (y : UInt8), A = some ad ∧ wr.cell? (ad.add k) = some (.int .u8 (y.toNat : Int)) ∧ wr.frozen? (ad.add k) = false ∧ Turnt lo hi w (wr.setCell (ad.add k) (.int .u8 ((y + 1).toNat : Int))) := by
  obtain ⟨⟨d, e, _, r1⟩, hs⟩ := h1
  have ed : d = .slice A n c := by injection e with e; simpa using e.symm
  subst ed
  obtain ⟨_, _, e3, _, _, o1⟩ := rBy_open r1
  cases e3
  obtain ⟨ad, rfl, hn, hc⟩ := o1 k hk
  have hlt : (ad.add k).block < w.heap.size := Nat.lt_of_lt_of_le hn.2.1 hs
  obtain ⟨y, hy⟩ := h.sp.byte (ad.add k) _ hlt hc
  exact ⟨ad, y, rfl, hy, (h.sp.fro _ hlt).trans hn.2.2, h.step hn.1 hn.2.1 hy (y + 1)⟩
end Go.Proofs.Ytpcajbcdahcehaa

/-
  A bag's facts on nodes; what places tell, plain. Conditions: those that each lemma states.
-/
namespace Go.Proofs.Ytpcajbcdahcehaa
open Go.RowKit

theorem bag_node {w w1 : World} {Fs : List (World → Prop)} (h : Bag w Fs) (hb : Below w.heap.size w w1) (a b : Value) : ∃ w', w1.alloc (.cells #[a, b] 26) = w' ∧ Bag w' (Box2 w1.heap.size a b :: Fs) ∧ Below w.heap.size w w' ∧ Below w1.heap.size w1 w' ∧ w1.heap.size < w'.heap.size := by
  obtain ⟨w2, e2, b2, k4, k5⟩ := box_pair' w1 a b 26
  obtain ⟨k1, k2, _, k3⟩ := two_cells b2
  exact ⟨w2, e2, ((h.below hb).below k5).add ⟨k1, k2, k3⟩ (lasts_box _ _ _), hb.trans (k5.mono hb.size), k5, by omega⟩
def OldN (v : Value) (n : Nd) : World → Prop := fun w => Nod (Old w) w v n
theorem lasts_oldN (v : Value) (n : Nd) : Lasts (OldN v n) := fun _ _ h hb => h.below hb
def OldIs (v : Value) (l : List It) : World → Prop := fun w => rIts (Old w) w [v] l
theorem lasts_oldIs (v : Value) (l : List It) : Lasts (OldIs v l) := fun _ _ h hb => stab_its.old h hb

/-! ### Places -/
theorem cntK_all {l : List It} {k : Ky} : ∀ {i : Nat}, i ≤ l.length → (∀ j x, j < i → l[j]? = some x → lessK x.1 k = true) → cntK (l.take i) k = i
  | 0, _, _ => rfl
  | i + 1, hi, h => by
    have hx : l[i]? = some l[i] := List.getElem?_eq_getElem hi
    rw [cntK_yes hx (h i _ (by omega) hx), cntK_all (by omega) (fun j x hj => h j x (by omega))]
theorem cntK_up (l : List It) (k : Ky) (i : Nat) : cntK (l.take i) k ≤ cntK l k := by
  unfold cntK
  exact ((List.take_sublist i l).filter _).length_le
theorem cntK_stop {l : List It} {k : Ky} {i : Nat} (h : ∀ j x, i ≤ j → l[j]? = some x → lessK x.1 k = false) : cntK l k = cntK (l.take i) k := by
  have e : cntK l k = cntK (l.take i) k + cntK (l.drop i) k := by
    unfold cntK
    rw [← List.length_append, ← List.filter_append, List.take_append_drop]
  have z : cntK (l.drop i) k = 0 := by
    unfold cntK
    rw [List.length_eq_zero_iff, List.filter_eq_nil_iff]
    intro x hx
    obtain ⟨j, hj⟩ := List.mem_iff_getElem?.1 hx
    rw [List.getElem?_drop] at hj
    rw [h (i + j) x (by omega) hj]
    simp
  omega
theorem place_parts {n : Nd} (h : mayN n = true) {k : Ky} {i : Nat} {x : It} (hx : n.2[i]? = some x) : lessK x.1 k = decide (i < placeN n k) := by
  have hi := (List.getElem?_eq_some_iff.1 hx).1
  cases e : lessK x.1 k with
  | true =>
    have h1 : cntK (n.2.take (i + 1)) k = i + 1 := cntK_all (by omega) (fun j y hj hy => by
      rcases Nat.lt_or_ge j i with h2 | h2
      · exact less_trans (mayN_rises h h2 hy hx) e
      · obtain rfl : j = i := by omega
        rw [hx] at hy
        cases hy
        exact e)
    have h2 := cntK_up n.2 k (i + 1)
    have h3 : placeN n k = cntK n.2 k := rfl
    have : i < placeN n k := by omega
    simp [this]
  | false =>
    have h1 : cntK n.2 k = cntK (n.2.take i) k := cntK_stop (fun j y hj hy => by
      rcases Nat.lt_or_ge i j with h2 | h2
      · cases e2 : lessK y.1 k with
        | false => rfl
        | true =>
          have := less_trans (mayN_rises h h2 hx hy) e2
          rw [e] at this
          cases this
      · obtain rfl : i = j := by omega
        rw [hx] at hy
        cases hy
        exact e)
    have h2 := cntK_take n.2 k i
    have h3 : placeN n k = cntK n.2 k := rfl
    have : ¬ i < placeN n k := by omega
    simp [this]
theorem placeN_le (n : Nd) (k : Ky) : placeN n k ≤ n.2.length := cntK_le _ _
theorem place_own {n : Nd} (h : mayN n = true) {i : Nat} {x : It} (hx : n.2[i]? = some x) : placeN n x.1 = i ∧ thereN n x.1 = true := by
  have hi := (List.getElem?_eq_some_iff.1 hx).1
  have h1 : ¬ i < placeN n x.1 := fun h2 => by
    have := place_parts h (k := x.1) hx
    rw [less_self] at this
    simp [h2] at this
  have h2 : placeN n x.1 = i := by
    rcases Nat.eq_zero_or_pos i with h0 | h0
    · omega
    · obtain ⟨j, rfl⟩ : ∃ j, i = j + 1 := ⟨i - 1, by omega⟩
      have hy : n.2[j]? = some n.2[j] := List.getElem?_eq_getElem (by omega)
      have h3 := place_parts h (k := x.1) hy
      rw [mayN_rise h hy hx] at h3
      have : j < placeN n x.1 := by simpa using h3.symm
      omega
  exact ⟨h2, by rw [thereN_at (by rw [h2]; exact hx)]; simp⟩
def anyK (l : List It) (k : Ky) : Bool := l.any fun x => decide (x.1 = k)
theorem anyK_nil (k : Ky) : anyK [] k = false := rfl
theorem anyK_snoc {l : List It} {k : Ky} {i : Nat} {x : It} (hx : l[i]? = some x) : anyK (l.take (i + 1)) k = (anyK (l.take i) k || decide (x.1 = k)) := by
  unfold anyK
  rw [List.take_add_one, hx, Option.toList_some, List.any_append]
  simp
theorem thereN_any {n : Nd} (h : mayN n = true) (k : Ky) : thereN n k = anyK n.2 k := by
  cases e : anyK n.2 k with
  | true =>
    unfold anyK at e
    rw [List.any_eq_true] at e
    obtain ⟨x, hx, hk⟩ := e
    obtain ⟨i, hi⟩ := List.mem_iff_getElem?.1 hx
    have hk' : x.1 = k := by simpa using hk
    rw [← hk']
    exact (place_own h hi).2
  | false =>
    cases e2 : thereN n k with
    | false => rfl
    | true =>
      unfold thereN at e2
      cases e3 : n.2[placeN n k]? with
      | none => rw [e3] at e2; cases e2
      | some x =>
        rw [e3] at e2
        unfold anyK at e
        rw [List.any_eq_false] at e
        exact absurd e2 (by simpa using e x (List.mem_of_getElem? e3))
theorem place_mono {n : Nd} {a b : Ky} (h : lessK a b = true) : placeN n a ≤ placeN n b := by
  show cntK n.2 a ≤ cntK n.2 b
  unfold cntK
  induction n.2 with
  | nil => simp
  | cons x r ih =>
    simp only [List.filter_cons]
    cases e : lessK x.1 a with
    | true => rw [less_trans e h]; simpa using ih
    | false =>
      cases e2 : lessK x.1 b with
      | true => simp; omega
      | false => simpa using ih
end Go.Proofs.Ytpcajbcdahcehaa

/-
  The law's own spoil (layer 6): bytes and numbers of a node of the call's own are turned where they lie; what lies elsewhere stays. Conditions: those that each lemma states.
-/
namespace Go.Proofs.Ytpcajbcdahcehaa
open Go.RowKit

structure Turn6 (lo hi : Nat) (w wr : World) : Prop where
  low : Below lo w wr
  keep : ∀ k, hi ≤ k → k < w.heap.size → wr.heap[k]? = w.heap[k]?
  fro : ∀ p : Addr, p.block < w.heap.size → wr.frozen? p = w.frozen? p
  rest : ∀ (p : Addr) (A : Option Addr) (n c : Nat), p.block < w.heap.size → w.cell? p = some (.slice A n c) → wr.cell? p = some (.slice A n c)
  byte : ∀ (p : Addr) (x : UInt8), p.block < w.heap.size → w.cell? p = some (.int .u8 (x.toNat : Int)) → ∃ y : UInt8, wr.cell? p = some (.int .u8 (y.toNat : Int))
  num : ∀ (p : Addr) (x : Int), p.block < w.heap.size → w.cell? p = some (.int .i64 x) → ∃ y : Int, wr.cell? p = some (.int .i64 y)
section
variable {lo hi : Nat} {w wr : World}
theorem Turn6.refl (lo hi : Nat) (w : World) : Turn6 lo hi w w := ⟨Below.refl _ _, fun _ _ _ => rfl, fun _ _ => rfl, fun _ _ _ _ _ h => h, fun _ x _ h => ⟨x, h⟩, fun _ x _ h => ⟨x, h⟩⟩
theorem Turn6.stepU {p : Addr} (h : Turn6 lo hi w wr) (hp : lo ≤ p.block) (hp' : p.block < hi) {x : UInt8} (hx : wr.cell? p = some (.int .u8 (x.toNat : Int))) (y : UInt8) : Turn6 lo hi w (wr.setCell p (.int .u8 (y.toNat : Int))) := by
  refine ⟨h.low.setCell hp _, fun k hk hl => (Below.heap_setCell wr p _ k (by omega)).trans (h.keep k hk hl), fun q hq => by rw [World.frozen?_setCell]; exact h.fro q hq, fun q A n c hq hc => ?_, fun q z hq hc => ?_, fun q z hq hc => ?_⟩
  · have h1 := h.rest q A n c hq hc
    rw [World.cell?_setCell_other _ _ _ _ (fun e => by
      subst e
      rw [h1] at hx
      cases hx)]
    exact h1
  · by_cases e : p = q
    · subst e
      exact ⟨y, World.cell?_setCell_same _ _ _ hx⟩
    · rw [World.cell?_setCell_other _ _ _ _ e]
      exact h.byte q z hq hc
  · obtain ⟨z', h1⟩ := h.num q z hq hc
    refine ⟨z', ?_⟩
    rw [World.cell?_setCell_other _ _ _ _ (fun e => by
      subst e
      rw [h1] at hx
      cases hx)]
    exact h1
theorem Turn6.stepN {p : Addr} (h : Turn6 lo hi w wr) (hp : lo ≤ p.block) (hp' : p.block < hi) {x : Int} (hx : wr.cell? p = some (.int .i64 x)) (y : Int) : Turn6 lo hi w (wr.setCell p (.int .i64 y)) := by
  refine ⟨h.low.setCell hp _, fun k hk hl => (Below.heap_setCell wr p _ k (by omega)).trans (h.keep k hk hl), fun q hq => by rw [World.frozen?_setCell]; exact h.fro q hq, fun q A n c hq hc => ?_, fun q z hq hc => ?_, fun q z hq hc => ?_⟩
  · have h1 := h.rest q A n c hq hc
    rw [World.cell?_setCell_other _ _ _ _ (fun e => by
      subst e
      rw [h1] at hx
      cases hx)]
    exact h1
  · obtain ⟨z', h1⟩ := h.byte q z hq hc
    refine ⟨z', ?_⟩
    rw [World.cell?_setCell_other _ _ _ _ (fun e => by
      subst e
      rw [h1] at hx
      cases hx)]
    exact h1
  · by_cases e : p = q
    · subst e
      exact ⟨y, World.cell?_setCell_same _ _ _ hx⟩
    · rw [World.cell?_setCell_other _ _ _ _ e]
      exact h.num q z hq hc
theorem Turn6.drew (h : Turn6 lo hi w wr) : Turn6 lo hi w wr.drew :=
  ⟨h.low.drew, h.keep, fun p hp => by simpa using h.fro p hp, fun p A n c hp hc => by simpa using h.rest p A n c hp hc, fun p x hp hc => by simpa using h.byte p x hp hc, fun p x hp hc => by simpa using h.num p x hp hc⟩
theorem Turn6.block (h : Turn6 lo hi w wr) {k : Nat} (hk : k < lo ∨ hi ≤ k) (hl : k < w.heap.size) : wr.heap[k]? = w.heap[k]? := by
  rcases hk with hk | hk
  · exact h.low.block k hk
  · exact h.keep k hk hl
theorem Turn6.cell (h : Turn6 lo hi w wr) {p : Addr} (hk : p.block < lo ∨ hi ≤ p.block) (hl : p.block < w.heap.size) : wr.cell? p = w.cell? p := World.cell?_of_block (h.block hk hl)
end
theorem Turn6.by_out {lo hi : Nat} {w wr : World} {ok : Addr → Prop} {v : Value} {xs : List UInt8} (h : Turn6 lo hi w wr) (hok : ∀ p, ok p → p.block < lo ∨ hi ≤ p.block) (hx : rBy ok w [v] xs) : rBy ok wr [v] xs :=
  stab_by _ _ _ _ _ _ (fun p _ hp hc => ⟨hp, (h.cell (hok p hp) (World.block_lt_of_cell? w p hc)).trans hc⟩) hx
theorem Turn6.nod_out {lo hi : Nat} {w wr : World} {ok : Addr → Prop} {v : Value} {n : Nd} (h : Turn6 lo hi w wr) (hok : ∀ p, ok p → p.block < lo ∨ hi ≤ p.block) (hx : Nod ok w v n) : Nod ok wr v n :=
  hx.map fun p _ hp hc => ⟨hp, (h.cell (hok p hp) (World.block_lt_of_cell? w p hc)).trans hc⟩
theorem Turn6.box {lo hi g : Nat} {w wr : World} {a b : Value} (h : Turn6 lo hi w wr) (hg : g < lo ∨ hi ≤ g) (hb : Box2 g a b w) : Box2 g a b wr :=
  ⟨(h.cell (p := ⟨g, 0, none⟩) hg hb.2.2).trans hb.1, (h.cell (p := ⟨g, 1, none⟩) hg hb.2.2).trans hb.2.1, Nat.lt_of_lt_of_le hb.2.2 h.low.size⟩
/-- Its cells lie in a range, and may be written: facts that hold while nothing in that range moves. -/
def OnN (ok : Addr → Prop) (v : Value) (n : Nd) : World → Prop := fun w => Nod ok w v n
theorem lasts_onN (ok : Addr → Prop) (v : Value) (n : Nd) : Lasts (OnN ok v n) := fun w _ h hb => Nod.map (fun p _ hp hc => ⟨hp, (hb.cell (World.block_lt_of_cell? w p hc)).trans hc⟩) h
theorem OnN.old {ok : Addr → Prop} {v : Value} {n : Nd} {w : World} (h : OnN ok v n w) : Nod (Old w) w v n := Nod.map (fun p _ _ hc => ⟨World.block_lt_of_cell? w p hc, hc⟩) h
theorem onN_new {lo : Nat} {w : World} {v : Value} {n : Nd} (h : Nod (New lo w) w v n) : OnN (In lo w.heap.size) v n w := h.map fun _ _ hp hc => ⟨⟨hp.1, hp.2.1⟩, hc⟩
theorem onN_old {w : World} {v : Value} {n : Nd} (h : Nod (Old w) w v n) : OnN (In 0 w.heap.size) v n w := h.map fun _ _ hp hc => ⟨⟨Nat.zero_le _, hp⟩, hc⟩
def NewN (lo hi : Nat) (v : Value) (n : Nd) : World → Prop := fun w => Nod (Fz lo hi w) w v n ∧ hi ≤ w.heap.size
theorem lasts_newN (lo hi : Nat) (v : Value) (n : Nd) : Lasts (NewN lo hi v n) := fun w _ h hb => ⟨h.1.map fun _ _ hp hc => ⟨⟨hp.1, hp.2.1, (hb.frozen (Nat.lt_of_lt_of_le hp.2.1 h.2)).trans hp.2.2⟩, (hb.cell (Nat.lt_of_lt_of_le hp.2.1 h.2)).trans hc⟩, Nat.le_trans h.2 hb.size⟩
theorem newN_of {lo : Nat} {w : World} {v : Value} {n : Nd} (h : Nod (New lo w) w v n) : NewN lo w.heap.size v n w := ⟨h, Nat.le_refl _⟩
theorem NewN.on {lo hi : Nat} {v : Value} {n : Nd} {w : World} (h : NewN lo hi v n w) : OnN (In lo hi) v n w := h.1.map fun _ _ hp hc => ⟨⟨hp.1, hp.2.1⟩, hc⟩
theorem Turn6.newN_out {lo hi lo' hi' : Nat} {w wr : World} {v : Value} {n : Nd} (h : Turn6 lo hi w wr) (hk : hi' ≤ lo ∨ hi ≤ lo') (hx : NewN lo' hi' v n w) : NewN lo' hi' v n wr :=
  ⟨hx.1.map fun p _ hp hc => by
    have hb := h.block (k := p.block) (by have h1 := hp.1; have h2 := hp.2.1; omega) (Nat.lt_of_lt_of_le hp.2.1 hx.2)
    exact ⟨⟨hp.1, hp.2.1, (World.frozen?_of_block hb).trans hp.2.2⟩, (World.cell?_of_block hb).trans hc⟩, Nat.le_trans hx.2 h.low.size⟩

set_option maxRecDepth 100000 in
set_option maxHeartbeats 4000000 in
theorem spoil6_any (v : Value) (n : Nd) (lo hi : Nat) (w : World) (hlo : lo ≤ hi) (h : NewN lo hi v n w) :
    Calls Try.prog 24 #[v] w fun e w' => (∃ u, e = .returned u) ∧ Turn6 lo hi w w' := by
  obtain ⟨h1, hhi⟩ := h
  obtain ⟨A, c, rfl, _, l1, m1, _⟩ := h1.open
  obtain ⟨w0, hw0, b0, hs0, hB0⟩ := box_pair' w (.int .i64 n.1) (.slice A n.2.length c) 26
  have h2 : Nod (Fz lo hi w0) w0 (.agg #[.int .i64 n.1, .slice A n.2.length c]) n := h1.map fun p _ hp hc => ⟨⟨hp.1, hp.2.1, (hB0.frozen (Nat.lt_of_lt_of_le hp.2.1 hhi)).trans hp.2.2⟩, (hB0.cell (Nat.lt_of_lt_of_le hp.2.1 hhi)).trans hc⟩
  obtain ⟨d0, e0, _, hA0⟩ := h2
  have ed : d0 = .slice A n.2.length c := by injection e0 with e; simpa using e.symm
  subst ed
  obtain ⟨f1, f2, _, lt0⟩ := two_cells b0
  have hhi0 : hi ≤ w0.heap.size := Nat.le_trans hhi hB0.size
  have hend : Hid (∀ wr, Turn6 lo hi w0 wr → Turn6 lo hi w wr) := Lib.hid fun wr hT =>
    ⟨(hB0.mono (Nat.le_trans hlo hhi)).trans hT.low, fun k hk hl => (hT.keep k hk (Nat.lt_of_lt_of_le hl hB0.size)).trans (hB0.block k hl), fun p hp => (hT.fro p (Nat.lt_of_lt_of_le hp hB0.size)).trans (hB0.frozen hp), fun p A n c hp hc => hT.rest p A n c (Nat.lt_of_lt_of_le hp hB0.size) ((hB0.cell hp).trans hc), fun p x hp hc => hT.byte p x (Nat.lt_of_lt_of_le hp hB0.size) ((hB0.cell hp).trans hc), fun p x hp hc => hT.num p x (Nat.lt_of_lt_of_le hp hB0.size) ((hB0.cell hp).trans hc)⟩
  have HA := Lib.hid hA0
  obtain ⟨l, hl⟩ : ∃ l, n.1 = l := ⟨_, rfl⟩
  obtain ⟨m, hm⟩ : ∃ m, n.2.length = m := ⟨_, rfl⟩
  rw [hm] at l1 HA f2 hw0 ⊢
  rw [hl] at hw0 f1 ⊢
  replace hm := Lib.hid hm
  replace hs0 := Lib.hid hs0
  have hgap : hi ≤ w.heap.size := hhi
  clear hA0 h1 e0 b0 hB0 f1
  go_enter Try.func24, Try.ntmps24
  go_upto_region 1 with fail
  clear hw0
  go_wp2_with fail
  go_loopw [2] (fun i wr => ∃ j : Nat, j ≤ m ∧ i = .int .i64 j ∧ Turn6 lo hi w0 wr) (fun i _ => m - (intOf i).toNat)
  case atStart => exact ⟨0, by omega, rfl, Turn6.refl _ _ _⟩
  case round =>
    obtain ⟨j, hj, rfl, hS⟩ := hrel
    have z1 := (hS.cell (p := ⟨w.heap.size, 1, none⟩) (Or.inr hgap) lt0).trans f2
    by_cases hlt : j < m
    · obtain ⟨x, hx⟩ : ∃ x, n.2[j]? = some x := ⟨_, List.getElem?_eq_getElem (by rw [hm.out]; exact hlt)⟩
      obtain ⟨rd, E, ce, rfl, hok, hat, hit, q1, q2, _⟩ := its_at HA.out hx
      obtain ⟨d9, e9, _, hby⟩ := hit
      have ed9 : d9 = .slice E x.2.2.length ce := by injection e9 with e; simpa using e.symm
      subst ed9
      have HE' := (rBy_open hby)
      obtain ⟨_, _, e10, _, _, HE0⟩ := HE'
      cases e10
      have HE := Lib.hid HE0
      obtain ⟨q, hq⟩ : ∃ q, x.2.2.length = q := ⟨_, rfl⟩
      have hok3 := hok 3 (by omega)
      rw [add_at5 rd (j * 5) 2] at hok3
      have c4 := hat.c4
      have c3 := hat.c3
      have ltr := hat.lt
      rw [hq] at q1 c4
      have HC4 := Lib.hid c4
      have HC3 := Lib.hid c3
      replace hq := Lib.hid hq
      replace hok3 := Lib.hid hok3
      have i1 : (0 : Int) ≤ (j : Int) := by omega
      have i2 : (j : Int) < (m : Int) := by omega
      have hS0 := hS
      clear HE0 hby hx hok hat e9 c4 c3
      go_wp2_with fail
      go_loopw [3] (fun i wi => ∃ k : Nat, k ≤ q ∧ i = .int .i64 k ∧ Turn6 lo hi w0 wi) (fun i _ => q - (intOf i).toNat)
      case atStart => exact ⟨0, by omega, rfl, hS0⟩
      case round =>
        clear hS hS0 z1
        obtain ⟨k, hk, rfl, hT⟩ := hrel
        have z1 := (hT.cell (p := ⟨w.heap.size, 1, none⟩) (Or.inr hgap) lt0).trans f2
        have c4 := hT.rest ⟨(rd.add (j * 5)).block, (rd.add (j * 5)).off + 4, none⟩ _ _ _ ltr HC4.out
        by_cases hl2 : k < q
        · obtain ⟨bd, rfl, hok2, hcb⟩ := HE.out k (by rw [hq.out]; exact hl2)
          have hlt2 : (bd.add k).block < w0.heap.size := Nat.lt_of_lt_of_le hok2.2.1 hhi0
          obtain ⟨y, hy⟩ := hT.byte (bd.add k) _ hlt2 hcb
          have hf := (hT.fro _ hlt2).trans hok2.2.2
          have hadd := u8_succ3 y
          have hst := Lib.hid (hT.stepU hok2.1 hok2.2.1 hy (y + 1))
          generalize (y + 1) = y' at *
          replace hok2 := Lib.hid hok2
          clear hcb hT hlt2
          go_wp2_with fail
          go_still_tail 18, (by kernel_rfl)
          change wpList _ _ _ _ _ wr.drew
          go_wp2
          go_roundw
          case rel => exact ⟨k + 1, by omega, by go_num, hst.out.drew⟩
          case measure => simp [intOf]; omega
        · obtain ⟨y, hy⟩ := hT.num ⟨(rd.add (j * 5)).block, (rd.add (j * 5)).off + 3, none⟩ _ ltr HC3.out
          have hf := (hT.fro ⟨(rd.add (j * 5)).block, (rd.add (j * 5)).off + 3, none⟩ ltr).trans hok3.out.2.2
          have hst := Lib.hid (hT.stepN (p := ⟨(rd.add (j * 5)).block, (rd.add (j * 5)).off + 3, none⟩) hok3.out.1 hok3.out.2.1 hy 7)
          clear hT
          go_wp2_with fail
          go_roundw
          case rel => exact ⟨j + 1, by omega, by go_num, hst.out⟩
          case measure => simp [intOf]; omega
    · have hfin := Lib.hid (hend.out _ hS)
      clear hS
      go_wp2_with fail
      go_end0
      exact ⟨⟨_, rfl⟩, hfin.out⟩
end Go.Proofs.Ytpcajbcdahcehaa

/-
  Package node: slices.Clone at items, Twin. Conditions: those that each lemma states.
-/
namespace Go.Proofs.Ytpcajbcdahcehaa
open Go.RowKit

abbrev Iv := It × Value
def cell5 (p : Iv) : List Value := [.int .u8 (p.1.1.1.toNat : Int), .int .u32 p.1.1.2.1, .int .u32 p.1.1.2.2, .int .i64 p.1.2.1, p.2]
def cells5 (ps : List Iv) : List Value := (ps.map cell5).flatten
theorem cells5_length : ∀ ps : List Iv, (cells5 ps).length = ps.length * 5
  | [] => rfl
  | p :: r => by
    have := cells5_length r
    simp [cells5, cell5] at this ⊢
    omega
theorem cells5_at : ∀ {ps : List Iv} {k : Nat} {p : Iv}, ps[k]? = some p → ∀ j v, (cell5 p)[j]? = some v → (cells5 ps)[k * 5 + j]? = some v
  | q :: r, 0, p, h, j, v, hv => by
    simp at h
    subst h
    have hj : j < (cell5 q).length := (List.getElem?_eq_some_iff.1 hv).1
    show ((cell5 q) ++ cells5 r)[0 * 5 + j]? = some v
    rw [Nat.zero_mul, Nat.zero_add, List.getElem?_append_left hj, hv]
  | q :: r, k + 1, p, h, j, v, hv => by
    have h' : r[k]? = some p := by simpa using h
    have := cells5_at h' j v hv
    show ((cell5 q) ++ cells5 r)[(k + 1) * 5 + j]? = some v
    have hl : (cell5 q).length = 5 := rfl
    rw [List.getElem?_append_right (by omega), hl, show (k + 1) * 5 + j - 5 = k * 5 + j by omega]
    exact this
theorem set_same {α : Type} {l : List α} {i : Nat} {v : α} (h : l[i]? = some v) : l.set i v = l := by
  obtain ⟨h1, h2⟩ := List.getElem?_eq_some_iff.1 h
  rw [← h2]
  exact List.set_getElem_self h1
theorem cells5_set : ∀ {ps : List Iv} {k : Nat} {p : Iv} (d : Value), ps[k]? = some p → cells5 (ps.set k (p.1, d)) = (cells5 ps).set (k * 5 + 4) d
  | q :: r, 0, p, d, h => by
    simp at h
    subst h
    rfl
  | q :: r, k + 1, p, d, h => by
    have h' : r[k]? = some p := by simpa using h
    have := cells5_set d h'
    show (cell5 q) ++ cells5 (r.set k (p.1, d)) = ((cell5 q) ++ cells5 r).set ((k + 1) * 5 + 4) d
    have hl : (cell5 q).length = 5 := rfl
    rw [List.set_append, if_neg (by omega), hl, show (k + 1) * 5 + 4 - 5 = k * 5 + 4 by omega, this]
/-- An item of a row of the call's own is stored anew, its bytes elsewhere. -/
theorem own_put5 {w : World} {base n cap k : Nat} {ad : Addr} {ps : List Iv} {p : Iv} {d : Value} (h : w.ownsRow base 52 5 (.slice (some ad) n cap) n (cells5 ps)) (hp : ps[k]? = some p) (hk : k < n) :
    ∃ W, ((((w.setCell (ad.add (k * 5)) (.int .u8 (p.1.1.1.toNat : Int))).setCell ⟨(ad.add (k * 5)).block, (ad.add (k * 5)).off + 1, none⟩ (.int .u32 p.1.1.2.1)).setCell ⟨(ad.add (k * 5)).block, (ad.add (k * 5)).off + 2, none⟩ (.int .u32 p.1.1.2.2)).setCell ⟨(ad.add (k * 5)).block, (ad.add (k * 5)).off + 3, none⟩ (.int .i64 p.1.2.1)).setCell ⟨(ad.add (k * 5)).block, (ad.add (k * 5)).off + 4, none⟩ d = W ∧
      W.ownsRow base 52 5 (.slice (some ad) n cap) n (cells5 (ps.set k (p.1, d))) ∧ w.grownBy W (some ad.block) ∧ W.heap.size = w.heap.size := by
  have e := fun j => add_at5 ad (k * 5) j
  have h0 := own_put h (j := k * 5) (by omega) (.int .u8 (p.1.1.1.toNat : Int))
  have h1 := own_put h0 (j := k * 5 + (0 + 1)) (by omega) (.int .u32 p.1.1.2.1)
  have h2 := own_put h1 (j := k * 5 + (1 + 1)) (by omega) (.int .u32 p.1.1.2.2)
  have h3 := own_put h2 (j := k * 5 + (2 + 1)) (by omega) (.int .i64 p.1.2.1)
  have h4 := own_put h3 (j := k * 5 + (3 + 1)) (by omega) d
  rw [e, e, e, e] at h4
  refine ⟨_, rfl, ?_, ?_, by simp⟩
  · rw [cells5_set d hp]
    have s0 : (cells5 ps).set (k * 5) (.int .u8 (p.1.1.1.toNat : Int)) = cells5 ps := set_same (by have := cells5_at hp 0 _ rfl; simpa using this)
    have s1 : (cells5 ps).set (k * 5 + (0 + 1)) (.int .u32 p.1.1.2.1) = cells5 ps := set_same (cells5_at hp 1 _ rfl)
    have s2 : (cells5 ps).set (k * 5 + (1 + 1)) (.int .u32 p.1.1.2.2) = cells5 ps := set_same (cells5_at hp 2 _ rfl)
    have s3 : (cells5 ps).set (k * 5 + (2 + 1)) (.int .i64 p.1.2.1) = cells5 ps := set_same (cells5_at hp 3 _ rfl)
    rw [s0, s1, s2, s3] at h4
    exact h4
  · have hb : (ad.add (k * 5)).block = ad.block := add_block _ _
    exact grow_put (grow_put (grow_put (grow_put (grow_put (grow_refl w _) (p := ad.add (k * 5)) (by rw [hb]) _) (p := ⟨(ad.add (k * 5)).block, _, none⟩) (by rw [hb]) _) (p := ⟨(ad.add (k * 5)).block, _, none⟩) (by rw [hb]) _) (p := ⟨(ad.add (k * 5)).block, _, none⟩) (by rw [hb]) _) (p := ⟨(ad.add (k * 5)).block, _, none⟩) (by rw [hb]) _

set_option maxHeartbeats 1000000 in
set_option maxRecDepth 100000 in
theorem cloneIts_any (A : Option Addr) (n cap : Nat) (vs : List Value) (hlen : Hid (vs.length = n * 5)) (hone : ∀ u ∈ vs, u.oneCell' = true) (hbig : n ≤ 100000) (w : World) (hx : Cells w w.heap.size A vs) :
    Calls Try.prog 43 #[.slice A n cap] w fun e w' => ∃ v, e = .returned v ∧ w'.ownsRow w.heap.size 52 5 v n vs ∧ Below w.heap.size w w' := by
  obtain ⟨i0, hi, hz0, hz1, hz2⟩ := info_parts item_info0
  have q22 : ∀ (w : World) (a : Option Addr) (n c n' c' : Nat), (binOp .eql 24 (.slice a n c) (.slice none n' c')).run Try.prog w = .ok (.bool a.isNone) w := fun w a n c n' c' => Lib.run_eql_slice_nil w _ _ a n c n' c' Try.underlying24
  rcases A with _ | ad
  · have h0 : vs = [] := by
      rcases vs with _ | ⟨v, r⟩
      · rfl
      · obtain ⟨_, e, _⟩ := hx 0 v rfl
        cases e
    subst h0
    obtain rfl : n = 0 := by have := hlen.out; simp at this; omega
    go_enter Try.func43, Try.ntmps43
    go_wp2
    go_ret
    exact ⟨_, rfl, World.ownsRow_nil _ _ _ _, Below.refl _ _⟩
  · go_enter Try.func43, Try.ntmps43
    go_wp2_with (at_builtin; refine wpList_append_own _ rfl _ _ 24 rfl w.heap.size 52 i0 (.agg #[.int .u8 0, .int .u32 0, .int .u32 0, .int .i64 0, .slice none 0 0]) 5 48 Try.underlying24 hi hz0 hz1 hz2 rfl (by decide) _ _ _ rfl (World.ownsRow_made w #[] 0 (Nat.le_refl _) (Nat.zero_le _) rfl) ad n cap vs rfl ?qc1 ?qc2 hone ?qc4 ?qc5 ?qc6 ?_)
    case qc1 => rw [hlen.out]
    case qc2 =>
      intro j u hj
      obtain ⟨ad', e, hb, hc⟩ := hx j u hj
      cases e
      exact Lib.cell?_alloc_some _ hc
    case qc4 => unfold maxLen; omega
    case qc5 => omega
    case qc6 => simp
    intro v' w1 hown hgrow hnil
    go_wp2
    go_ret
    refine ⟨v', rfl, by simpa using hown, ?_⟩
    exact ((Below.refl _ w).alloc (Nat.le_refl _) _).grown hgrow (by simp) (by intro k hk; simp [Value.ownBlock] at hk; omega)

/-- The cells of a row of items. -/
theorem its_cells {w : World} {A : Option Addr} {n c : Nat} {xs : List It} (h : rIts (Old w) w [.slice A n c] xs) : ∃ ps : List Iv, ps.map (·.1) = xs ∧ Cells w w.heap.size A (cells5 ps) ∧ (∀ p ∈ ps, InI p.1 ∧ rBy (Old w) w [p.2] p.1.2.2) := by
  obtain ⟨ps, hl, hps⟩ := list_of (n := xs.length) (p := fun i (p : Iv) => xs[i]? = some p.1 ∧ ∃ ad, A = some ad ∧ (∀ j v, (cell5 p)[j]? = some v → ad.block < w.heap.size ∧ w.cell? (ad.add (i * 5 + j)) = some v) ∧ InI p.1 ∧ rBy (Old w) w [p.2] p.1.2.2) (fun i hi => by
    have hx : xs[i]? = some xs[i] := List.getElem?_eq_getElem hi
    obtain ⟨_, _, e, _, _, h4⟩ := id h
    cases e
    obtain ⟨ad, vs, rfl, e5, q, r⟩ := h4 i _ hx
    obtain ⟨d, rfl, hin, hd⟩ := rIt_open r
    exact ⟨(xs[i], d), hx, ad, rfl, fun j v hj => ⟨by have := (q j v hj).1; unfold Old at this; rwa [add_block] at this, (q j v hj).2⟩, hin, hd⟩)
  refine ⟨ps, ?_, ?_, fun p hp => ?_⟩
  · apply List.ext_getElem?
    intro i
    rw [List.getElem?_map]
    cases e : ps[i]? with
    | none =>
      have : xs.length ≤ i := by rw [← hl]; exact List.getElem?_eq_none_iff.1 e
      rw [List.getElem?_eq_none this]
      rfl
    | some p => exact (hps i p e).1.symm
  · intro j v hj
    have hlt := (List.getElem?_eq_some_iff.1 hj).1
    rw [cells5_length] at hlt
    obtain ⟨p, hp⟩ : ∃ p, ps[j / 5]? = some p := ⟨_, List.getElem?_eq_getElem (by omega)⟩
    obtain ⟨_, ad, rfl, hc, _⟩ := hps _ p hp
    obtain ⟨u, hu⟩ : ∃ u, (cell5 p)[j % 5]? = some u := ⟨_, List.getElem?_eq_getElem (by show j % 5 < 5; omega)⟩
    have h1 := cells5_at hp _ _ hu
    rw [show j / 5 * 5 + j % 5 = j by omega, hj] at h1
    cases h1
    have := hc _ _ hu
    rw [show j / 5 * 5 + j % 5 = j by omega] at this
    exact ⟨ad, rfl, this.1, this.2⟩
  · obtain ⟨i, hi⟩ := List.mem_iff_getElem?.1 hp
    obtain ⟨_, _, _, _, h1, h2⟩ := hps i p hi
    exact ⟨h1, h2⟩
theorem cells5_one {ps : List Iv} (h : ∀ p ∈ ps, p.2.oneCell' = true) : ∀ u ∈ cells5 ps, u.oneCell' = true := fun u hu => by
  unfold cells5 at hu
  rw [List.mem_flatten] at hu
  obtain ⟨l, hl, hul⟩ := hu
  obtain ⟨p, hp, rfl⟩ := List.mem_map.1 hl
  simp [cell5] at hul
  rcases hul with rfl | rfl | rfl | rfl | rfl
  · rfl
  · rfl
  · rfl
  · rfl
  · exact h p hp
theorem NewBut.grown_row {lo : Nat} {A : Option Addr} {w w' : World} {p : Addr} {v : Value} {g : Nat} (hg : w.grownBy w' (some g)) (hA : A.map (·.block) = some g) (hp : NewBut lo A w p) (hc : w.cell? p = some v) : NewBut lo A w' p ∧ w'.cell? p = some v := by
  have hb := hg.block p.block hp.1.2.1 (fun e => hp.2 (by rw [hA]; exact e.symm))
  exact ⟨⟨⟨hp.1.1, Nat.lt_of_lt_of_le hp.1.2.1 hg.size, (World.frozen?_of_block hb).trans hp.1.2.2⟩, hp.2⟩, (World.cell?_of_block hb).trans hc⟩
end Go.Proofs.Ytpcajbcdahcehaa

/-
  Package node: Twin. Conditions: those that each lemma states.
-/
namespace Go.Proofs.Ytpcajbcdahcehaa
open Go.RowKit

theorem iv_one {ok : Addr → Prop} {w : World} {d : Value} {xs : List UInt8} (h : rBy ok w [d] xs) : d.oneCell' = true := by
  obtain ⟨_, _, rfl, _⟩ := rBy_open h
  rfl

set_option maxRecDepth 100000 in
set_option maxHeartbeats 4000000 in
theorem nodeTwin_any (v : Value) (n : Nd) (w : World) (hf : Few n.2) (h : Nod (Old w) w v n) : Calls Try.prog 22 #[v] w fun e w' => ∃ u, e = .returned u ∧ Nod (New w.heap.size w') w' u n ∧ Below w.heap.size w w' := by
  obtain ⟨A, c, rfl, hin, l1, m1, hA⟩ := h.open
  have HF := Lib.hid hf
  have HIN := Lib.hid h.inN
  obtain ⟨m, hm⟩ : ∃ m, n.2.length = m := ⟨_, rfl⟩
  have hm1000 : m ≤ 1000 := by rw [← hm]; exact hf.many
  obtain ⟨l, hl⟩ : ∃ l, n.1 = l := ⟨_, rfl⟩
  rw [hm] at l1 hA ⊢
  rw [hl] at hin ⊢
  replace hin := Lib.hid hin
  replace hm := Lib.hid hm
  replace hl := Lib.hid hl
  clear h hf
  obtain ⟨ps0, hps0, hcells, hpb⟩ := its_cells hA
  have hpl0 := Lib.hid (show ps0.length = m by rw [← hm.out, ← hps0, List.length_map])
  replace hps0 := Lib.hid hps0
  replace hpb := Lib.hid hpb
  obtain ⟨w1, hw1, b1, hs1, hB1⟩ := box_pair' w (.int .i64 l) (.slice A m c) 26
  obtain ⟨w2, hw2, b2, hs2, hB2⟩ := box_pair' w1 (.int .i64 0) (.slice none 0 0) 26
  have S5 : Hid (w.heap.size + 1 = w1.heap.size ∧ w1.heap.size + 1 = w2.heap.size) := Lib.hid ⟨by omega, by omega⟩
  have lt0 : w.heap.size < w2.heap.size := by omega
  have lt1 : w1.heap.size < w2.heap.size := by omega
  replace b1 := (hB2.block w.heap.size (by omega)).trans b1
  obtain ⟨f1, f2, f3, _⟩ := two_cells b1
  have B2 := Lib.hid (hB1.trans (hB2.mono hB1.size))
  have hcl := Lib.hid (cloneIts_any A m c (cells5 ps0) (Lib.hid (by rw [cells5_length, hpl0.out])) (cells5_one fun p hp => iv_one (hpb.out p hp).2) (by omega) w2 (fun j v hj => by
    obtain ⟨ad, e, h1, h2⟩ := hcells j v hj
    exact ⟨ad, e, Nat.lt_of_lt_of_le h1 B2.out.size, (B2.out.cell (by rw [add_block]; exact h1)).trans h2⟩))
  replace hs1 := Lib.hid hs1
  replace hs2 := Lib.hid hs2
  replace b1 := Lib.hid b1
  replace b2 := Lib.hid b2
  replace hw2 := Lib.hid hw2
  clear hB1 hB2 hcells hA
  go_enter Try.func22, Try.ntmps22
  go_upto_region 1 with fail
  rw [hw2.out]
  clear hw2 hw1
  go_wp2_with fail
  with_reducible refine hcl.out.mono ?_
  rintro e3 w3 ⟨u3, rfl, ho3, hb3⟩
  obtain ⟨A', c', rfl, n1, n2, n3, n4⟩ := own_any ho3
  have b3 := (hb3.block w.heap.size lt0).trans b1.out
  have d3 := (hb3.block w1.heap.size lt1).trans b2.out
  obtain ⟨f1', f2', f3', lt3⟩ := two_cells b3
  obtain ⟨w4, hw4, b4, gr4, gs4⟩ := put_snd (u := .slice A' m c') b3
  obtain ⟨g1, g2, g3, lt4⟩ := two_cells b4
  have hA'2 : ∀ q, A'.map (·.block) = some q → w2.heap.size ≤ q := fun q hq => (ho3.lt q (by rw [n3]; exact hq)).1
  have B3 := B2.out.trans (hb3.mono B2.out.size)
  have B4 := Lib.hid (B3.grown gr4 B3.size (fun q e => by cases e; omega))
  have d4 := Lib.hid ((gr4.block w1.heap.size (Nat.lt_of_lt_of_le lt1 hb3.size) (fun e => by have := Option.some.inj e; have := S5.out; omega)).trans d3)
  have o4 := Lib.hid (show w4.ownsRow w2.heap.size 52 5 (.slice A' m c') m (cells5 ps0) from ho3.kept gr4 (by
    by_cases e : (Value.slice A' m c').ownBlock = none
    · exact .inl e
    · refine .inr fun e2 => ?_
      rw [n3] at e2
      have := hA'2 _ e2
      omega))
  replace hA'2 := Lib.hid hA'2
  replace b4 := Lib.hid b4
  replace b3 := Lib.hid b3
  replace n3 := Lib.hid n3
  replace n4 := Lib.hid n4
  clear ho3 hb3 d3 gr4 B3 f1 f2 f3
  go_upto_region 2 with fail
  clear hw4 f1' f2' f3' lt3
  go_wp2_with fail
  go_loopw [12] (fun i wr => ∃ (k : Nat) (ps : List Iv), k ≤ m ∧ i = .int .i64 k ∧ wr.heap[w.heap.size]? = some (.cells #[.int .i64 l, .slice A' m c'] 26 (0, 0)) ∧ wr.heap[w1.heap.size]? = some (.cells #[.int .i64 0, .slice none 0 0] 26 (0, 0)) ∧ ps.map (·.1) = n.2 ∧
      wr.ownsRow w2.heap.size 52 5 (.slice A' m c') m (cells5 ps) ∧ (∀ j p, ps[j]? = some p → (j < k → rBy (NewBut w2.heap.size A' wr) wr [p.2] p.1.2.2) ∧ (k ≤ j → rBy (Old w) w [p.2] p.1.2.2)) ∧ Below w.heap.size w wr ∧ w4.heap.size ≤ wr.heap.size) (fun i _ => m - (intOf i).toNat)
  case atStart => exact ⟨0, ps0, by omega, rfl, b4.out, d4.out, hps0.out, o4.out, fun j p hj => ⟨fun h => by omega, fun _ => (hpb.out p (List.mem_of_getElem? hj)).2⟩, B4.out, Nat.le_refl _⟩
  case round =>
    obtain ⟨k, ps, hk, rfl, hb1r, hb2r, hmap, hown, hby, hbw, hsz⟩ := hrel
    obtain ⟨r1, r2, r3, rlt⟩ := two_cells hb1r
    replace hmap := Lib.hid hmap
    replace hby := Lib.hid hby
    replace hbw := Lib.hid hbw
    have HB1 := Lib.hid hb1r
    have HB2 := Lib.hid hb2r
    have HO := Lib.hid hown
    have hpl := Lib.hid (show ps.length = m by rw [← hm.out, ← hmap.out, List.length_map])
    clear hb1r hb2r hown
    by_cases hlt : k < m
    case neg =>
      have hkm : k = m := by omega
      have s5 := S5.out
      obtain ⟨p1, p2, p3, plt⟩ := two_cells HB2.out
      obtain ⟨W9, hW9, g9, gr9, gs9⟩ := put_two (u := .int .i64 l) (v := .slice A' m c') HB2.out
      obtain ⟨k0, k1, _, _⟩ := two_cells g9
      have B9 := Lib.hid (hbw.out.grown gr9 hbw.out.size (fun q e => by cases e; omega))
      have row : RowOf rIt 5 52 w2.heap.size wr A' c' n.2 := by
        refine ⟨cells5 ps, by rw [hm.out]; exact HO.out, fun i x hx => ?_⟩
        have hx' := hx
        rw [← hmap.out, List.getElem?_map] at hx'
        obtain ⟨p, hp, rfl⟩ := Option.map_eq_some_iff.1 hx'
        refine ⟨cell5 p, rfl, fun j u hj => cells5_at hp j u hj, ?_⟩
        have hi : i < k := by have := (List.getElem?_eq_some_iff.1 hp).1; have := hpl.out; omega
        exact rIt_mk (HIN.out.it p.1 (List.mem_of_getElem? hx)) ((hby.out i p hp).1 hi)
      have row9 := RowOf.low stab_it (RowOf.grown stab_it row gr9 (fun q e => by cases e; omega)) (show w.heap.size ≤ w2.heap.size by omega)
      have hfin : Hid (Nod (New w.heap.size W9) W9 (.agg #[.int .i64 l, .slice A' m c']) n) := Lib.hid (by
        have h1 := row9.rel stab_it
        rw [hm.out] at h1
        exact ⟨_, by rw [hl.out], by rw [hl.out]; exact hin.out, h1⟩)
      replace g9 := Lib.hid g9
      clear gr9 row9 row s5
      go_wp2_with fail
      exact bodyPost_ret (v := .agg #[.int .i64 l, .slice A' m c']) (by simp [results, Try.results22, go_sem, k0, k1]) rfl ⟨_, rfl, hfin.out, B9.out⟩
    obtain ⟨p, hp⟩ : ∃ p, ps[k]? = some p := ⟨_, List.getElem?_eq_getElem (by rw [hpl.out]; exact hlt)⟩
    obtain ⟨ad, rfl⟩ := n4.out (by omega)
    have hbp := (hby.out k p hp).2 (Nat.le_refl _)
    obtain ⟨x, d⟩ := p
    replace hbp : rBy (Old w) w [d] x.2.2 := hbp
    obtain ⟨E, ce, rfl, e1, e2, _⟩ := id (rBy_open hbp)
    have hxs : n.2[k]? = some x := by rw [← hmap.out, List.getElem?_map, hp]; rfl
    have hxin := Lib.hid (HIN.out.it x (List.mem_of_getElem? hxs))
    have hxbig := Lib.hid (HF.out.val k x hxs)
    replace hxs := Lib.hid hxs
    obtain ⟨q, hq⟩ : ∃ q, x.2.2.length = q := ⟨_, rfl⟩
    have q0 := own_at HO.out (cells5_at hp 0 _ rfl)
    have q1 := own_at HO.out (cells5_at hp 1 _ rfl)
    have q2 := own_at HO.out (cells5_at hp 2 _ rfl)
    have q3 := own_at HO.out (cells5_at hp 3 _ rfl)
    have q4 := own_at HO.out (cells5_at hp 4 _ rfl)
    rw [add_at5] at q1 q2 q3 q4
    rw [Nat.add_zero] at q0
    dsimp only at q0 q1 q2 q3 q4 e1 hbp
    rw [hq] at q4 e1 hbp hp
    replace hp := Lib.hid hp
    obtain ⟨w5, hw5, t0, t1, t2, t3, t4, hs5, hB5, _⟩ := box_five wr (.int .u8 (x.1.1.toNat : Int)) (.int .u32 x.1.2.1) (.int .u32 x.1.2.2) (.int .i64 x.2.1) (.slice E q ce) 52
    have hI5 : Hid (Itm (Old w5) w5 (itV x (.slice E q ce)) x) := Lib.hid ⟨_, rfl, hxin.out, stab_by.old (stab_by.old hbp hbw.out) hB5⟩
    have C5 := Lib.hid hB5
    have lt5 : wr.heap.size < w5.heap.size := by omega
    have rlt5 : w.heap.size < w5.heap.size := Nat.lt_of_lt_of_le rlt hB5.size
    have r2' := (hB5.cell (p := ⟨w.heap.size, 1, none⟩) rlt).trans r2
    have hHT : Hid (∀ W, Below w5.heap.size w5 W → Calls Try.prog 44 #[itV x (.slice E q ce)] W fun e w' => ∃ u, e = .returned u ∧ Itm (New W.heap.size w') w' u x ∧ Below W.heap.size W w') := Lib.hid fun W hW => twinI_any _ x W (by have := hxbig.out; omega) (hI5.out.below hW)
    have i1 : (0 : Int) ≤ (k : Int) := by omega
    have i2 : (k : Int) < (m : Int) := by omega
    replace hs5 := Lib.hid hs5
    replace hq := Lib.hid hq
    replace hbp := Lib.hid hbp
    clear hB5
    unfold itV at *
    go_upto_region 5 with fail
    clear hw5 q0 q1 q2 q3 q4 r1 r2 r3
    refine wp_region_tails (by kernel_rfl) 6 (fun W => Below w5.heap.size w5 W) (fun i => match i with
        | 4 => some (fun v W => ∃ E ce, v = .agg #[.int .u8 (x.1.1.toNat : Int), .int .u32 x.1.2.1, .int .u32 x.1.2.2, .int .i64 x.2.1, .slice E q ce] ∧ rBy (New w5.heap.size W) W [.slice E q ce] x.2.2)
        | _ => none) (fun _ => none) (by decide) (by kernel_rfl) (by kernel_rfl) (Below.refl _ _).drew (fun w w' h hb => h.trans (hb.mono h.size)) ?tst ?_
    case tst =>
      intro j φ x W W' hp hx hb
      match j, hp with
      | 4, hp =>
        cases hp
        obtain ⟨E, ce, e1, e2⟩ := hx
        exact ⟨E, ce, e1, stab_by.new e2 (Nat.le_refl _) hb⟩
    simp only [List.take_succ_cons, List.take_zero, List.drop_succ_cons, List.drop_zero]
    repeat (first
      | (refine wpAs_skip rfl ?_; simp only [Act.put, List.setIfInBounds_toArray, List.set_cons_zero, List.set_cons_succ])
      | (refine wpAs_pure (v := ?_) rfl rfl ?_ ?_; rotate_left; (intro W hC hE; clear hE; (have x0 := (hC.cell (p := ⟨wr.heap.size, 0, none⟩) lt5).trans t0; have x1 := (hC.cell (p := ⟨wr.heap.size, 1, none⟩) lt5).trans t1; have x2 := (hC.cell (p := ⟨wr.heap.size, 2, none⟩) lt5).trans t2; have x3 := (hC.cell (p := ⟨wr.heap.size, 3, none⟩) lt5).trans t3; have x4 := (hC.cell (p := ⟨wr.heap.size, 4, none⟩) lt5).trans t4; have x5 := (hC.cell (p := ⟨w.heap.size, 1, none⟩) rlt5).trans r2'); clear hC; go_simp; done); simp only [Act.put, List.setIfInBounds_toArray, List.set_cons_zero, List.set_cons_succ])
      | (refine wpAs_pure (v := ?_) rfl rfl ?_ ?_; rotate_left; (intro W hC hE; clear hE; (have x0 := (hC.cell (p := ⟨wr.heap.size, 0, none⟩) lt5).trans t0; have x1 := (hC.cell (p := ⟨wr.heap.size, 1, none⟩) lt5).trans t1; have x2 := (hC.cell (p := ⟨wr.heap.size, 2, none⟩) lt5).trans t2; have x3 := (hC.cell (p := ⟨wr.heap.size, 3, none⟩) lt5).trans t3; have x4 := (hC.cell (p := ⟨wr.heap.size, 4, none⟩) lt5).trans t4; have x5 := (hC.cell (p := ⟨w.heap.size, 1, none⟩) rlt5).trans r2'); clear hC; go_simp; with_reducible rfl); simp only [Act.put, List.setIfInBounds_toArray, List.set_cons_zero, List.set_cons_succ]))
    refine wpAs_act rfl rfl ?_ ?_
    · intro W hC hE
      refine does_enter (f := 44) (args := #[.agg #[.int .u8 (x.1.1.toNat : Int), .int .u32 x.1.2.1, .int .u32 x.1.2.2, .int .i64 x.2.1, .slice E q ce]]) ?_ ?_
      · go_simp
      · refine (hHT.out W hC).mono ?_
        rintro e W' ⟨u, rfl, hu, hw⟩
        obtain ⟨E', ce', rfl, _, _, _, hu2⟩ := hu.open
        unfold itV
        rw [hq.out] at hu2 ⊢
        exact ⟨_, rfl, ⟨E', ce', rfl, stab_by.mono hu2 hC.size⟩, hw⟩
    simp only [Act.put, List.setIfInBounds_toArray, List.set_cons_zero, List.set_cons_succ, envAdd]
    intro x21
    repeat (first
      | (refine wpAs_skip rfl ?_; simp only [Act.put, List.setIfInBounds_toArray, List.set_cons_zero, List.set_cons_succ])
      | (refine wpAs_pure (v := ?_) rfl rfl ?_ ?_; rotate_left; (intro W hC hE; clear hE; (have x5 := (hC.cell (p := ⟨w.heap.size, 1, none⟩) rlt5).trans r2'); clear hC; go_simp; done); simp only [Act.put, List.setIfInBounds_toArray, List.set_cons_zero, List.set_cons_succ])
      | (refine wpAs_pure (v := ?_) rfl rfl ?_ ?_; rotate_left; (intro W hC hE; clear hE; (have x5 := (hC.cell (p := ⟨w.heap.size, 1, none⟩) rlt5).trans r2'); clear hC; go_simp; with_reducible rfl); simp only [Act.put, List.setIfInBounds_toArray, List.set_cons_zero, List.set_cons_succ]))
    refine wpAs_end fun W hC hE => ?_
    obtain ⟨E', ce', rfl, hu⟩ := hE.1
    clear hE
    have hCC := C5.out.trans (hC.mono C5.out.size)
    have OW := own_below HO.out hCC
    obtain ⟨W9, hW9, o9, gr9, gs9⟩ := own_put5 (d := .slice E' q ce') OW hp.out hlt
    have ss := fun j v (hj : (cell5 (x, Value.slice E q ce))[j]? = some v) => set_same (cells5_at hp.out j v hj)
    obtain ⟨V1, hV1, oV1⟩ : ∃ V1, W.setCell (ad.add (k * 5)) (.int .u8 (x.1.1.toNat : Int)) = V1 ∧ V1.ownsRow w2.heap.size 52 5 (.slice (some ad) m c') m (cells5 ps) := ⟨_, rfl, by
      have h := own_put OW (j := k * 5 + 0) (by omega) (.int .u8 (x.1.1.toNat : Int))
      rw [ss 0 _ rfl, Nat.add_zero] at h
      exact h⟩
    obtain ⟨V2, hV2, oV2⟩ : ∃ V2, V1.setCell ⟨(ad.add (k * 5)).block, (ad.add (k * 5)).off + 1, none⟩ (.int .u32 x.1.2.1) = V2 ∧ V2.ownsRow w2.heap.size 52 5 (.slice (some ad) m c') m (cells5 ps) := ⟨_, rfl, by
      have h := own_put oV1 (j := k * 5 + (0 + 1)) (by omega) (.int .u32 x.1.2.1)
      rw [ss 1 _ rfl, add_at5] at h
      exact h⟩
    obtain ⟨V3, hV3, oV3⟩ : ∃ V3, V2.setCell ⟨(ad.add (k * 5)).block, (ad.add (k * 5)).off + 2, none⟩ (.int .u32 x.1.2.2) = V3 ∧ V3.ownsRow w2.heap.size 52 5 (.slice (some ad) m c') m (cells5 ps) := ⟨_, rfl, by
      have h := own_put oV2 (j := k * 5 + (1 + 1)) (by omega) (.int .u32 x.1.2.2)
      rw [ss 2 _ rfl, add_at5] at h
      exact h⟩
    obtain ⟨V4, hV4, oV4⟩ : ∃ V4, V3.setCell ⟨(ad.add (k * 5)).block, (ad.add (k * 5)).off + 3, none⟩ (.int .i64 x.2.1) = V4 ∧ V4.ownsRow w2.heap.size 52 5 (.slice (some ad) m c') m (cells5 ps) := ⟨_, rfl, by
      have h := own_put oV3 (j := k * 5 + (2 + 1)) (by omega) (.int .i64 x.2.1)
      rw [ss 3 _ rfl, add_at5] at h
      exact h⟩
    dsimp only at hW9
    rw [hV1, hV2, hV3, hV4] at hW9
    have q0 := own_at OW (cells5_at hp.out 0 _ rfl)
    have q1 := own_at oV1 (cells5_at hp.out 1 _ rfl)
    have q2 := own_at oV2 (cells5_at hp.out 2 _ rfl)
    have q3 := own_at oV3 (cells5_at hp.out 3 _ rfl)
    have q4 := own_at oV4 (cells5_at hp.out 4 _ rfl)
    have y0 := own_free OW (k * 5)
    have y1 := own_free oV1 (k * 5 + (0 + 1))
    have y2 := own_free oV2 (k * 5 + (1 + 1))
    have y3 := own_free oV3 (k * 5 + (2 + 1))
    have y4 := own_free oV4 (k * 5 + (3 + 1))
    rw [add_at5] at q1 q2 q3 q4 y1 y2 y3 y4
    rw [Nat.add_zero] at q0
    clear oV1 oV2 oV3 oV4 ss
    have hblk := own_block HO.out
    have hadq := hA'2.out ad.block rfl
    have nb1 := Lib.hid ((gr9.block w.heap.size (Nat.lt_of_lt_of_le rlt hCC.size) (fun e => by have := Option.some.inj e; omega)).trans ((hCC.block w.heap.size rlt).trans HB1.out))
    have rlt1 := (two_cells HB2.out).2.2.2
    have nb2 := Lib.hid ((gr9.block w1.heap.size (Nat.lt_of_lt_of_le rlt1 hCC.size) (fun e => by have := Option.some.inj e; omega)).trans ((hCC.block w1.heap.size rlt1).trans HB2.out))
    have bw9 := Lib.hid ((hbw.out.trans (hCC.mono hbw.out.size)).grown gr9 (hbw.out.trans (hCC.mono hbw.out.size)).size (fun e he => by cases he; omega))
    have hmap9 := Lib.hid (show (ps.set k (x, Value.slice E' q ce')).map (·.1) = n.2 by
      rw [List.map_set, hmap.out]
      exact set_same hxs.out)
    have hby9 : Hid (∀ j p, (ps.set k (x, Value.slice E' q ce'))[j]? = some p → (j < k + 1 → rBy (NewBut w2.heap.size (some ad) W9) W9 [p.2] p.1.2.2) ∧ (k + 1 ≤ j → rBy (Old w) w [p.2] p.1.2.2)) := Lib.hid fun j p hj => by
      by_cases hjk : j = k
      · subst hjk
        rw [List.getElem?_set_self (by rw [hpl.out]; exact hlt)] at hj
        cases hj
        refine ⟨fun _ => ?_, fun h => by omega⟩
        refine stab_by _ _ _ _ _ _ (fun p v hp hc => NewBut.grown_row gr9 rfl ⟨⟨Nat.le_trans hadq (Nat.le_trans (Nat.le_of_lt hblk.2.1) (Nat.le_trans C5.out.size hp.1)), hp.2⟩, fun e => ?_⟩ hc) hu
        have h1 : ad.block = p.block := Option.some.inj e
        have h2 : w5.heap.size ≤ p.block := hp.1
        have h3 := C5.out.size
        have h4 := hblk.2.1
        omega
      · rw [List.getElem?_set_ne (fun e => hjk e.symm)] at hj
        obtain ⟨h1, h2⟩ := hby.out j p hj
        refine ⟨fun h => ?_, fun h => h2 (by omega)⟩
        exact stab_by _ _ _ _ _ _ (fun p v hp hc => by
          obtain ⟨h3, h4⟩ := NewBut.below hCC hp hc
          exact NewBut.grown_row gr9 rfl h3 h4) (h1 (by omega))
    have sz9 := Lib.hid (show w4.heap.size ≤ W9.heap.size by rw [gs9]; exact Nat.le_trans hsz hCC.size)
    have o9' := Lib.hid o9
    clear hu hC hCC OW o9 gr9 gs9
    go_wp2_with fail
    go_roundw
    case rel => exact ⟨k + 1, _, by omega, by go_num, nb1.out, nb2.out, hmap9.out, o9'.out, hby9.out, bw9.out, sz9.out⟩
    case measure => simp [intOf]; omega
end Go.Proofs.Ytpcajbcdahcehaa

/-
  The document's answers of layer 6: Twin. Conditions: those that each lemma states.
-/
namespace Go.Proofs.Ytpcajbcdahcehaa
open Go.RowKit

set_option maxRecDepth 100000 in
set_option maxHeartbeats 4000000 in
theorem refTwinN_any (v : Value) (n : Nd) (w : World) (hf : Few n.2) (h : Nod (Old w) w v n) : Calls Try.prog 23 #[v] w fun e w' => ∃ u, e = .returned u ∧ Nod (New w.heap.size w') w' u n ∧ Below w.heap.size w w' := by
  obtain ⟨A, c, rfl, hin, l1, m1, hA⟩ := h.open
  have HF := Lib.hid hf
  have HIN := Lib.hid h.inN
  obtain ⟨m, hm⟩ : ∃ m, n.2.length = m := ⟨_, rfl⟩
  have hm1000 : m ≤ 1000 := by rw [← hm]; exact hf.many
  obtain ⟨l, hl⟩ : ∃ l, n.1 = l := ⟨_, rfl⟩
  rw [hm] at l1 hA ⊢
  rw [hl] at hin ⊢
  have HA := Lib.hid hA
  replace hin := Lib.hid hin
  replace hm := Lib.hid hm
  replace hl := Lib.hid hl
  clear h hf hA
  obtain ⟨w1, hw1, b1, hs1, hB1⟩ := box_pair' w (.int .i64 l) (.slice A m c) 26
  obtain ⟨w2, hw2, b2, hs2, hB2⟩ := box_pair' w1 (.int .i64 0) (.slice none 0 0) 26
  obtain ⟨w3, hw3, g3, hs3, hB3⟩ := box_pair' w2 (.int .i64 l) (.slice none 0 0) 26
  have S5 : Hid (w.heap.size + 1 = w1.heap.size ∧ w1.heap.size + 1 = w2.heap.size ∧ w2.heap.size + 1 = w3.heap.size) := Lib.hid ⟨by omega, by omega, by omega⟩
  have lt0 : w.heap.size < w2.heap.size := by omega
  have lt1 : w1.heap.size < w2.heap.size := by omega
  obtain ⟨f1, f2, _, _⟩ := two_cells ((hB2.block w.heap.size (by omega)).trans b1)
  have hB2' := Lib.hid (hB1.trans (hB2.mono hB1.size))
  obtain ⟨e30, e31, e32, _⟩ := two_cells g3
  obtain ⟨w4, hw4, g4, gr4, gs4⟩ := put_snd (u := .slice none 0 0) g3
  have hB4 := Lib.hid (hB3.grown gr4 hB3.size (fun q e => by cases e; omega))
  replace g4 := Lib.hid g4
  clear gr4 gs4
  replace hs1 := Lib.hid hs1
  replace hs2 := Lib.hid hs2
  replace hs3 := Lib.hid hs3
  replace g3 := Lib.hid g3
  replace b2 := Lib.hid b2
  replace b1 := Lib.hid b1
  replace hw2 := Lib.hid hw2
  clear hB1 hB2
  go_enter Try.func23, Try.ntmps23
  go_upto_region 1 with fail
  rw [hw2.out]
  clear hw2 hw1
  go_upto_region 2 with fail
  clear hw3 hw4 e30 e31 e32
  go_wp2_with fail
  go_loopw [4] (fun i wr => ∃ k : Nat, k ≤ m ∧ i = .int .i64 k ∧ Below w2.heap.size w2 wr ∧ ∃ (A1 : Option Addr) (c1 : Nat), wr.heap[w2.heap.size]? = some (.cells #[.int .i64 l, .slice A1 k c1] 26 (0, 0)) ∧
      RowOf rIt 5 52 w3.heap.size wr A1 c1 (n.2.take k)) (fun i _ => m - (intOf i).toNat)
  case atStart => exact ⟨0, by omega, rfl, hB4.out, none, 0, g4.out, RowOf.nil _ _ _ _ _⟩
  case round =>
    obtain ⟨k, hk, rfl, hb, A1, c1, hz, hrow⟩ := hrel
    obtain ⟨r2, r3, r4, r5⟩ := two_cells hz
    have r1 := (hb.cell (p := ⟨w.heap.size, 1, none⟩) lt0).trans f2
    have htl := Lib.hid (show (n.2.take k).length = k by rw [List.length_take, hm.out]; omega)
    replace hrow := Lib.hid hrow
    have hz' := Lib.hid hz
    have hb' := Lib.hid hb
    have hWr : Below w.heap.size w wr := hB2'.out.trans (hb.mono hB2'.out.size)
    by_cases hlt : k < m
    · obtain ⟨x, hx⟩ : ∃ x, n.2[k]? = some x := ⟨_, List.getElem?_eq_getElem (by rw [hm.out]; exact hlt)⟩
      obtain ⟨ad, E, ce, rfl, _, _, hinx, FX⟩ := its_old HA.out hx
      have FX' := Lib.hid (fun W (hW : Below wr.heap.size wr W) => FX W (hWr.trans (hW.mono hWr.size)))
      have hxbig := Lib.hid (HF.out.val k x hx)
      have htk := Lib.hid (show n.2.take (k + 1) = n.2.take k ++ [x] by rw [List.take_add_one, hx]; rfl)
      obtain ⟨q, hq⟩ : ∃ q, x.2.2.length = q := ⟨_, rfl⟩
      unfold itV at FX'
      rw [hq] at FX'
      have i1 : (0 : Int) ≤ (k : Int) := by omega
      have i2 : (k : Int) < (m : Int) := by omega
      have rlt := World.block_lt_of_cell? wr ⟨w.heap.size, 1, none⟩ r1
      replace rlt : w.heap.size < wr.heap.size := rlt
      replace hx := Lib.hid hx
      replace hq := Lib.hid hq
      replace hinx := Lib.hid hinx
      replace hWr := Lib.hid hWr
      clear hz hb FX
      go_wp2_with fail
      refine wp_region_tails (by kernel_rfl) 9 (fun W => Below wr.heap.size wr W) (fun i => match i with
          | 7 => some (fun v W => ∃ E ce, v = .agg #[.int .u8 (x.1.1.toNat : Int), .int .u32 x.1.2.1, .int .u32 x.1.2.2, .int .i64 x.2.1, .slice E q ce] ∧ rBy (New wr.heap.size W) W [.slice E q ce] x.2.2)
          | 8 => some (fun v W => ∃ g, v = .slice (some ⟨g, 0, none⟩) 1 1 ∧ wr.heap.size ≤ g ∧ ∃ u, W.heap[g]? = some (.cells #[.int .u8 (x.1.1.toNat : Int), .int .u32 x.1.2.1, .int .u32 x.1.2.2, .int .i64 x.2.1, u] 52 (0, 0)) ∧ rBy (New wr.heap.size W) W [u] x.2.2)
          | _ => none) (fun _ => none) (by decide) (by kernel_rfl) (by kernel_rfl) (Below.refl _ _).drew (fun w w' h hb => h.trans (hb.mono h.size)) ?tst ?_
      case tst =>
        intro j φ x W W' hp hx hb
        match j, hp with
        | 7, hp =>
          cases hp
          obtain ⟨E, ce, e1, e2⟩ := hx
          exact ⟨E, ce, e1, stab_by.new e2 (Nat.le_refl _) hb⟩
        | 8, hp =>
          cases hp
          obtain ⟨g, e1, e2, u, e3, e4⟩ := hx
          exact ⟨g, e1, e2, u, (hb.block g (Array.getElem?_eq_some_iff.1 e3).1).trans e3, stab_by.new e4 (Nat.le_refl _) hb⟩
      simp only [List.take_succ_cons, List.take_zero, List.drop_succ_cons, List.drop_zero]
      repeat (first
        | (refine wpAs_skip rfl ?_; simp only [Act.put, List.setIfInBounds_toArray, List.set_cons_zero, List.set_cons_succ])
        | (refine wpAs_pure (v := ?_) rfl rfl ?_ ?_; rotate_left; (intro W hC hE; clear hE; (have y1 := (hC.cell (p := ⟨w.heap.size, 1, none⟩) rlt).trans r1; have y2 := (hC.cell (p := ⟨w2.heap.size, 1, none⟩) r5).trans r3; obtain ⟨⟨z0, z1, z2, z3, z4⟩, _⟩ := FX'.out W hC); clear hC; go_simp; done); simp only [Act.put, List.setIfInBounds_toArray, List.set_cons_zero, List.set_cons_succ])
        | (refine wpAs_pure (v := ?_) rfl rfl ?_ ?_; rotate_left; (intro W hC hE; clear hE; (have y1 := (hC.cell (p := ⟨w.heap.size, 1, none⟩) rlt).trans r1; have y2 := (hC.cell (p := ⟨w2.heap.size, 1, none⟩) r5).trans r3; obtain ⟨⟨z0, z1, z2, z3, z4⟩, _⟩ := FX'.out W hC); clear hC; go_simp; with_reducible rfl); simp only [Act.put, List.setIfInBounds_toArray, List.set_cons_zero, List.set_cons_succ]))
      refine wpAs_act rfl rfl ?_ ?_
      · intro W hC hE
        refine does_enter (f := 45) (args := #[.agg #[.int .u8 (x.1.1.toNat : Int), .int .u32 x.1.2.1, .int .u32 x.1.2.2, .int .i64 x.2.1, .slice E q ce]]) ?_ ?_
        · go_simp
        · refine (refTwinI_any _ x W (by have := hxbig.out; omega) (FX'.out W hC).2).mono ?_
          rintro e W' ⟨u, rfl, hu, hw⟩
          obtain ⟨E', ce', rfl, _, _, _, hu2⟩ := hu.open
          unfold itV
          rw [hq.out] at hu2 ⊢
          exact ⟨_, rfl, ⟨E', ce', rfl, stab_by.mono hu2 hC.size⟩, hw⟩
      simp only [Act.put, List.setIfInBounds_toArray, List.set_cons_zero, List.set_cons_succ, envAdd]
      intro x20
      refine wpAs_act rfl rfl ?_ ?_
      · intro W hC hE
        obtain ⟨E', ce', rfl, h9⟩ := hE.1 rfl
        have hsw := hC.size
        have h9' := Lib.hid (stab_by.new h9 (Nat.le_refl _) ((Below.refl W.heap.size W).alloc (Nat.le_refl _) (.cells #[.int .u8 (x.1.1.toNat : Int), .int .u32 x.1.2.1, .int .u32 x.1.2.2, .int .i64 x.2.1, .slice E' q ce'] 52)))
        clear hE hC h9
        go_simp
        exact ⟨⟨W.heap.size, rfl, hsw, _, heap_alloc_new _ _, h9'.out⟩, (Below.refl _ _).alloc (Nat.le_refl _) _⟩
      simp only [Act.put, List.setIfInBounds_toArray, List.set_cons_zero, List.set_cons_succ, envAdd]
      intro x21
      refine wpAs_end fun W hC hE => ?_
      obtain ⟨⟨g, rfl, hg, u, hg3, hu⟩, _⟩ := hE
      have s5 := S5.out
      have hwr := hb'.out.size
      have hrowW := RowOf.below stab_it hrow.out hC
      have hlo : w3.heap.size ≤ wr.heap.size := by omega
      obtain ⟨A2, c2, w7, hr2, row7, gr7, ba7⟩ := its_push hrowW g x u 1 k htl.out hg3 (by omega) (Nat.le_trans hlo hC.size) hinx.out (stab_by _ _ _ _ _ _ (fun p v hp hc => ⟨hrow.out.but (Nat.le_refl _) hlo hp, hc⟩) hu)
      have g7 := (ba7.block w2.heap.size (by omega)).trans ((hC.block w2.heap.size r5).trans hz'.out)
      obtain ⟨w8, hw8, g8, gr8, gs8⟩ := put_snd (u := .slice A2 (k + 1) c2) g7
      have row8 := Lib.hid (RowOf.grown stab_it row7 gr8 (fun q e => by cases e; omega))
      have hb7 : Below w2.heap.size w2 w7 := (hb'.out.trans (hC.mono hb'.out.size)).trans (ba7.mono (by omega))
      have hb8 := Lib.hid (hb7.grown gr8 hb7.size (fun q e => by cases e; omega))
      have z2 := (hC.cell (p := ⟨w2.heap.size, 1, none⟩) r5).trans r3
      obtain ⟨y1, y2, y3, y4⟩ := two_cells g7
      have H2 := Lib.hid hr2
      replace g8 := Lib.hid g8
      replace g7 := Lib.hid g7
      replace hg3 := Lib.hid hg3
      clear hr2 row7 gr7 gr8 ba7 hb7 hrowW hC gs8 hu s5
      go_wp2_with (at_builtin; refine wpList_append_run rfl _ _ _ rfl rfl rfl H2.out ?_; clear H2)
      go_roundw
      case rel => exact ⟨k + 1, by omega, by go_num, hb8.out, A2, c2, g8.out, by rw [htk.out]; exact row8.out⟩
      case measure => simp [intOf]; omega
    · have hkm : k = m := by omega
      have hall := Lib.hid (show n.2.take k = n.2 from List.take_of_length_le (by rw [hm.out]; omega))
      have s5 := S5.out
      have bR := (hb.block w1.heap.size lt1).trans b2.out
      obtain ⟨p0, p1, pf, _⟩ := two_cells bR
      obtain ⟨W9, hW9, g9, gr9, gs9⟩ := put_two (u := .int .i64 l) (v := .slice A1 k c1) bR
      obtain ⟨k0, k1, _, _⟩ := two_cells g9
      have B9 := Lib.hid (hWr.grown gr9 hWr.size (fun q e => by cases e; omega))
      have row9 := RowOf.low stab_it (RowOf.grown stab_it hrow.out gr9 (fun q e => by cases e; omega)) (show w.heap.size ≤ w3.heap.size by omega)
      have hfin : Hid (Nod (New w.heap.size W9) W9 (.agg #[.int .i64 l, .slice A1 k c1]) n) := Lib.hid (by
        have h1 := row9.rel stab_it
        rw [htl.out, hall.out] at h1
        exact ⟨_, by rw [hl.out], by rw [hl.out]; exact hin.out, h1⟩)
      replace hkm := Lib.hid hkm
      replace bR := Lib.hid bR
      replace g9 := Lib.hid g9
      clear gr9 row9 s5 hz hrow
      go_wp2_with fail
      exact bodyPost_ret (v := .agg #[.int .i64 l, .slice A1 k c1]) (by simp [results, Try.results23, go_sem, k0, k1]) rfl ⟨_, rfl, hfin.out, B9.out⟩
end Go.Proofs.Ytpcajbcdahcehaa

/-
  The document's answers of layer 6: May, Check. Conditions: those that each lemma states.
-/
namespace Go.Proofs.Ytpcajbcdahcehaa
open Go.RowKit

set_option maxRecDepth 100000 in
set_option maxHeartbeats 8000000 in
theorem refMayN_any (v : Value) (n : Nd) (w : World) (h : Nod (Old w) w v n) : Calls Try.prog 33 #[v] w fun e w' => e = .returned (.bool (mayN n)) ∧ Below w.heap.size w w' := by
  obtain ⟨A, c, rfl, hin, l1, m1, hA⟩ := h.open
  have hbad0 := Lib.hid (fun hh => mayN_shape (n := n) hh)
  have hbad1 : Hid (∀ k, k < n.2.length → okAt n k = false → mayN n = false) := Lib.hid fun k hk hh => mayN_at hk hh
  have hgood := Lib.hid (fun hh h2 => mayN_mk (n := n) hh h2)
  have HA := Lib.hid hA
  clear h hA
  obtain ⟨m, hm⟩ : ∃ m, n.2.length = m := ⟨_, rfl⟩
  obtain ⟨l, hl⟩ : ∃ l, n.1 = l := ⟨_, rfl⟩
  rw [hm] at l1 hbad0 hbad1 hgood HA ⊢
  rw [hl] at hbad0 hgood hin ⊢
  obtain ⟨i1, i2⟩ := hin
  replace hm := Lib.hid hm
  replace hl := Lib.hid hl
  obtain ⟨w0, hw0, b0, hs0, hB0⟩ := box_pair' w (.int .i64 l) (.slice A m c) 26
  obtain ⟨f1, f2, _, lt0⟩ := two_cells b0
  replace hB0 := Lib.hid hB0
  replace b0 := Lib.hid b0
  replace hs0 := Lib.hid hs0
  by_cases h1 : l < 0
  · have hr := Lib.hid (hbad0.out (by omega))
    go_enter Try.func33, Try.ntmps33
    go_upto_region 1 with fail
    clear hw0
    go_wp2_with fail
    go_ret
    exact ⟨ret_bool hr.out.symm, hB0.out⟩
  by_cases h2 : 6 ≤ l
  · have hr := Lib.hid (hbad0.out (by omega))
    go_enter Try.func33, Try.ntmps33
    go_upto_region 1 with fail
    clear hw0
    go_wp2_with fail
    go_ret
    exact ⟨ret_bool hr.out.symm, hB0.out⟩
  by_cases h3 : 5 < m
  · have hr := Lib.hid (hbad0.out (by omega))
    have h3' : (5 : Int) < m := by omega
    go_enter Try.func33, Try.ntmps33
    go_upto_region 1 with fail
    clear hw0
    go_wp2_with fail
    go_ret
    exact ⟨ret_bool hr.out.symm, hB0.out⟩
  have h3' : ¬ (5 : Int) < m := by omega
  by_cases h4 : 0 < l ∧ m = 0
  · have hr := Lib.hid (hbad0.out (by omega))
    obtain ⟨h4a, h4b⟩ := h4
    have h4c : ((m : Int) == 0) = true := by simp; omega
    replace h4b := Lib.hid h4b
    go_enter Try.func33, Try.ntmps33
    go_upto_region 1 with fail
    clear hw0
    go_wp2_with fail
    go_ret
    exact ⟨ret_bool hr.out.symm, hB0.out⟩
  have hgood2 := Lib.hid (hgood.out (by omega))
  have hB := Lib.hid (fun wr (hb : Below w0.heap.size w0 wr) => hB0.out.trans (hb.mono hB0.out.size))
  clear hgood hbad0
  go_enter Try.func33, Try.ntmps33
  go_upto_region 1 with fail
  clear hw0
  go_cut [29] from 5 to 29 (fun c wx => c = .bool false ∧ w0 = wx)
  case first =>
    rcases (by omega : l ≤ 0 ∨ (0 < l ∧ m ≠ 0)) with h5 | ⟨h5, h6⟩
    · have h5' : ¬ (0 : Int) < l := by omega
      replace h4 := Lib.hid h4
      go_wp2_with fail
      go_meet
      exact ⟨rfl, rfl⟩
    · have h6' : ((m : Int) == 0) = false := by simp; omega
      replace h6 := Lib.hid h6
      replace h4 := Lib.hid h4
      go_wp2_with fail
      go_meet
      exact ⟨rfl, rfl⟩
  case rest =>
  obtain ⟨rfl, rfl⟩ := hcut
  replace h4 := Lib.hid h4
  go_wp2_with fail
  go_loopw [3] (fun i wr => ∃ k : Nat, k ≤ m ∧ i = .int .i64 k ∧ (∀ j, j < k → okAt n j = true) ∧ Below w0.heap.size w0 wr) (fun i _ => m - (intOf i).toNat)
  case atStart => exact ⟨0, by omega, rfl, fun j hj => by omega, Below.refl _ _⟩
  case round =>
    obtain ⟨k, hk, rfl, ha, hb⟩ := hrel
    replace ha := Lib.hid ha
    replace hb := Lib.hid hb
    have p1 := (hb.out.cell (p := ⟨w.heap.size, 0, none⟩) lt0).trans f1
    have p2 := (hb.out.cell (p := ⟨w.heap.size, 1, none⟩) lt0).trans f2
    by_cases hlt : k < m
    case neg =>
      have hfin := Lib.hid (hgood2.out fun i hi => ha.out i (by omega))
      have BF := Lib.hid (hB.out _ hb.out)
      go_wp2_with fail
      go_ret
      exact ⟨ret_bool hfin.out.symm, BF.out⟩
    obtain ⟨x, hx⟩ : ∃ x, n.2[k]? = some x := ⟨_, List.getElem?_eq_getElem (by rw [hm.out]; exact hlt)⟩
    obtain ⟨ad, E, ce, rfl, q1, q2, hinx, FX⟩ := its_old HA.out hx
    obtain ⟨⟨z0, z1, z2, z3, z4⟩, hIx⟩ := FX wr (hB.out _ hb.out)
    obtain ⟨w2, hw2, g0, g1, g2, g3, g4, hs2, hB2, _⟩ := box_five wr (.int .u8 (x.1.1.toNat : Int)) (.int .u32 x.1.2.1) (.int .u32 x.1.2.2) (.int .i64 x.2.1) (.slice E x.2.2.length ce) 52
    have lt2 : wr.heap.size < w2.heap.size := by omega
    have B2 := Lib.hid (hb.out.trans (hB2.mono hb.out.size))
    have HI : Hid (∀ W, Below w2.heap.size w2 W → Itm (Old W) W (.agg #[.int .u8 (x.1.1.toNat : Int), .int .u32 x.1.2.1, .int .u32 x.1.2.2, .int .i64 x.2.1, .slice E x.2.2.length ce]) x) := Lib.hid fun W hW => (hIx.below hB2).below hW
    have HX : Hid (∀ W, Below w2.heap.size w2 W → W.cell? ⟨wr.heap.size, 3, none⟩ = some (.int .i64 x.2.1) ∧ W.cell? ⟨wr.heap.size, 4, none⟩ = some (.slice E x.2.2.length ce)) := Lib.hid fun W hW => ⟨(hW.cell (p := ⟨wr.heap.size, 3, none⟩) lt2).trans g3, (hW.cell (p := ⟨wr.heap.size, 4, none⟩) lt2).trans g4⟩
    have HX0 : Hid (∀ W, Below w2.heap.size w2 W → W.cell? ⟨wr.heap.size, 0, none⟩ = some (.int .u8 (x.1.1.toNat : Int)) ∧ W.cell? ⟨wr.heap.size, 1, none⟩ = some (.int .u32 x.1.2.1) ∧ W.cell? ⟨wr.heap.size, 2, none⟩ = some (.int .u32 x.1.2.2)) := Lib.hid fun W hW => ⟨(hW.cell (p := ⟨wr.heap.size, 0, none⟩) lt2).trans g0, (hW.cell (p := ⟨wr.heap.size, 1, none⟩) lt2).trans g1, (hW.cell (p := ⟨wr.heap.size, 2, none⟩) lt2).trans g2⟩
    have HP : Hid (∀ W, Below w2.heap.size w2 W → W.cell? ⟨w.heap.size, 0, none⟩ = some (.int .i64 l) ∧ W.cell? ⟨w.heap.size, 1, none⟩ = some (.slice (some ad) m c)) := Lib.hid fun W hW => ⟨((B2.out.trans (hW.mono B2.out.size)).cell (p := ⟨w.heap.size, 0, none⟩) lt0).trans f1, ((B2.out.trans (hW.mono B2.out.size)).cell (p := ⟨w.heap.size, 1, none⟩) lt0).trans f2⟩
    replace hx := Lib.hid hx
    replace hs2 := Lib.hid hs2
    have hbk := Lib.hid (hbad1.out k hlt)
    have hstep : Hid (okAt n k = true → ∀ j, j < k + 1 → okAt n j = true) := Lib.hid fun h j hj => by
      rcases Nat.lt_or_ge j k with h1 | h1
      · exact ha.out j h1
      · obtain rfl : j = k := by omega
        exact h
    clear FX hIx hinx hB2
    go_upto_region 7 with fail
    clear hw2 z0 z1 z2 z3 z4 g0 g1 g2 g3 g4 p1 p2
    rcases bool_two (mayI x) with hmx | hmx
    · have hr := Lib.hid (hbk.out (okAt_noP hx.out (by rw [okP, hmx]; rfl)))
      replace hmx := Lib.hid hmx
      refine wp_region_fx (by kernel_rfl) (fun W => Below w2.heap.size w2 W) (fun _ => none) (fun i => match i with
        | 1 => some (.bool false)
        | 16 => some (.bool false)
        | _ => none) (by kernel_rfl) (Below.refl _ _).drew (fun w w' h hb => h.trans (hb.mono h.size)) (fun j φ x W W' hp => by cases hp) ?_
      repeat (first
        | (refine wpAs_skip rfl ?_; simp only [Act.put, List.setIfInBounds_toArray, List.set_cons_zero, List.set_cons_succ])
        | (refine wpAs_pure (v := ?_) rfl rfl ?_ ?_; rotate_left; (intro W hC hE; clear hE; (obtain ⟨r0, r1, r2⟩ := HX0.out W hC; obtain ⟨r3, r4⟩ := HX.out W hC); clear hC; go_simp; done); simp only [Act.put, List.setIfInBounds_toArray, List.set_cons_zero, List.set_cons_succ])
        | (refine wpAs_pure (v := ?_) rfl rfl ?_ ?_; rotate_left; (intro W hC hE; clear hE; (obtain ⟨r0, r1, r2⟩ := HX0.out W hC; obtain ⟨r3, r4⟩ := HX.out W hC); clear hC; go_simp; with_reducible rfl); simp only [Act.put, List.setIfInBounds_toArray, List.set_cons_zero, List.set_cons_succ]))
      refine wpAs_fixed rfl rfl rfl ?_ ?_
      · intro W hC hE
        refine does_enter (f := 58) (args := #[.agg #[.int .u8 (x.1.1.toNat : Int), .int .u32 x.1.2.1, .int .u32 x.1.2.2, .int .i64 x.2.1, .slice E x.2.2.length ce]]) ?_ ?_
        · go_simp
        · refine (refMayI_any _ x W (HI.out W hC)).mono ?_
          (rintro e W' ⟨rfl, hg⟩; rw [hmx.out])
          exact ⟨_, rfl, rfl, hg⟩
      simp only [Act.put, List.setIfInBounds_toArray, List.set_cons_zero, List.set_cons_succ]
      iterate 1 (first
        | (refine wpAs_skip rfl ?_; simp only [Act.put, List.setIfInBounds_toArray, List.set_cons_zero, List.set_cons_succ])
        | (refine wpAs_pure (v := ?_) rfl rfl ?_ ?_; rotate_left; (intro W hC hE; clear hE; skip; clear hC; go_simp; with_reducible rfl); simp only [Act.put, List.setIfInBounds_toArray, List.set_cons_zero, List.set_cons_succ]))
      refine wpAs_pure_jump (v := .bool true) 15 rfl rfl rfl ?_ (by kernel_rfl) ?_
      · intro W hC hE
        clear hE hC
        first
          | (go_simp; done)
          | (go_simp; simp; omega)
          | (go_simp; simp_all; done)
      simp only [skipN, Act.put, List.drop_succ_cons, List.drop_zero, List.setIfInBounds_toArray, List.set_cons_zero, List.set_cons_succ]
      iterate 1 (first
        | (refine wpAs_skip rfl ?_; simp only [Act.put, List.setIfInBounds_toArray, List.set_cons_zero, List.set_cons_succ])
        | (refine wpAs_pure (v := ?_) rfl rfl ?_ ?_; rotate_left; (intro W hC hE; clear hE; skip; clear hC; go_simp; with_reducible rfl); simp only [Act.put, List.setIfInBounds_toArray, List.set_cons_zero, List.set_cons_succ]))
      refine wpAs_pure_jump (v := .bool true) 14 rfl rfl rfl ?_ (by kernel_rfl) ?_
      · intro W hC hE
        clear hE hC
        first
          | (go_simp; done)
          | (go_simp; simp; omega)
          | (go_simp; simp_all; done)
      simp only [skipN, Act.put, List.drop_succ_cons, List.drop_zero, List.setIfInBounds_toArray, List.set_cons_zero, List.set_cons_succ]
      iterate 1 (first
        | (refine wpAs_skip rfl ?_; simp only [Act.put, List.setIfInBounds_toArray, List.set_cons_zero, List.set_cons_succ])
        | (refine wpAs_pure (v := ?_) rfl rfl ?_ ?_; rotate_left; (intro W hC hE; clear hE; skip; clear hC; go_simp; with_reducible rfl); simp only [Act.put, List.setIfInBounds_toArray, List.set_cons_zero, List.set_cons_succ]))
      refine wpAs_end fun W hC hE => ?_
      have BF := Lib.hid (hB.out _ (B2.out.trans (hC.mono B2.out.size)))
      clear hE hC
      go_wp2_with fail
      go_ret
      exact ⟨ret_bool hr.out.symm, BF.out⟩
    replace hmx := Lib.hid hmx
    rcases (by rcases k with _ | j; exact Or.inl rfl; exact Or.inr ⟨j, rfl⟩ : k = 0 ∨ ∃ j, k = j + 1) with hk0 | ⟨j, hkj⟩
    · have kz : ¬ (0 : Int) < (k : Int) := by omega
      have hsucc := Lib.hid (show okAt n k = okP n.1 x by subst hk0; exact okAt_zero hx.out)
      replace hk0 := Lib.hid hk0
      refine wp_region_fx (by kernel_rfl) (fun W => Below w2.heap.size w2 W) (fun _ => none) (fun i => match i with
        | 1 => some (.bool true)
        | 16 => some (.bool true)
        | _ => none) (by kernel_rfl) (Below.refl _ _).drew (fun w w' h hb => h.trans (hb.mono h.size)) (fun j φ x W W' hp => by cases hp) ?_
      repeat (first
        | (refine wpAs_skip rfl ?_; simp only [Act.put, List.setIfInBounds_toArray, List.set_cons_zero, List.set_cons_succ])
        | (refine wpAs_pure (v := ?_) rfl rfl ?_ ?_; rotate_left; (intro W hC hE; clear hE; (obtain ⟨r0, r1, r2⟩ := HX0.out W hC; obtain ⟨r3, r4⟩ := HX.out W hC); clear hC; go_simp; done); simp only [Act.put, List.setIfInBounds_toArray, List.set_cons_zero, List.set_cons_succ])
        | (refine wpAs_pure (v := ?_) rfl rfl ?_ ?_; rotate_left; (intro W hC hE; clear hE; (obtain ⟨r0, r1, r2⟩ := HX0.out W hC; obtain ⟨r3, r4⟩ := HX.out W hC); clear hC; go_simp; with_reducible rfl); simp only [Act.put, List.setIfInBounds_toArray, List.set_cons_zero, List.set_cons_succ]))
      refine wpAs_fixed rfl rfl rfl ?_ ?_
      · intro W hC hE
        refine does_enter (f := 58) (args := #[.agg #[.int .u8 (x.1.1.toNat : Int), .int .u32 x.1.2.1, .int .u32 x.1.2.2, .int .i64 x.2.1, .slice E x.2.2.length ce]]) ?_ ?_
        · go_simp
        · refine (refMayI_any _ x W (HI.out W hC)).mono ?_
          (rintro e W' ⟨rfl, hg⟩; rw [hmx.out])
          exact ⟨_, rfl, rfl, hg⟩
      simp only [Act.put, List.setIfInBounds_toArray, List.set_cons_zero, List.set_cons_succ]
      iterate 4 (first
        | (refine wpAs_skip rfl ?_; simp only [Act.put, List.setIfInBounds_toArray, List.set_cons_zero, List.set_cons_succ])
        | (refine wpAs_pure (v := ?_) rfl rfl ?_ ?_; rotate_left; (intro W hC hE; clear hE; skip; clear hC; go_simp; with_reducible rfl); simp only [Act.put, List.setIfInBounds_toArray, List.set_cons_zero, List.set_cons_succ]))
      refine wpAs_pure_jump (v := .bool false) 11 rfl rfl rfl ?_ (by kernel_rfl) ?_
      · intro W hC hE
        clear hE hC
        first
          | (go_simp; done)
          | (go_simp; simp; omega)
          | (go_simp; simp_all; done)
      simp only [skipN, Act.put, List.drop_succ_cons, List.drop_zero, List.setIfInBounds_toArray, List.set_cons_zero, List.set_cons_succ]
      iterate 2 (first
        | (refine wpAs_skip rfl ?_; simp only [Act.put, List.setIfInBounds_toArray, List.set_cons_zero, List.set_cons_succ])
        | (refine wpAs_pure (v := ?_) rfl rfl ?_ ?_; rotate_left; (intro W hC hE; clear hE; skip; clear hC; go_simp; with_reducible rfl); simp only [Act.put, List.setIfInBounds_toArray, List.set_cons_zero, List.set_cons_succ]))
      iterate 4 (first
        | (refine wpAs_skip rfl ?_; simp only [Act.put, List.setIfInBounds_toArray, List.set_cons_zero, List.set_cons_succ])
        | (refine wpAs_pure (v := ?_) rfl rfl ?_ ?_; rotate_left; (intro W hC hE; clear hE; (obtain ⟨p3, p4⟩ := HP.out W hC); clear hC; go_simp; with_reducible rfl); simp only [Act.put, List.setIfInBounds_toArray, List.set_cons_zero, List.set_cons_succ]))
      by_cases h7 : l ≤ 0
      · have h7' : ¬ (0 : Int) < l := by omega
        have hall := Lib.hid (hstep.out (by rw [hsucc.out, okP, hmx.out, hl.out]; simp [h7]))
        refine wpAs_pure_jump (v := .bool false) 9 rfl rfl rfl ?_ (by kernel_rfl) ?_
        · intro W hC hE
          clear hE hC
          first
            | (go_simp; done)
            | (go_simp; simp; omega)
            | (go_simp; simp_all; done)
        simp only [skipN, Act.put, List.drop_succ_cons, List.drop_zero, List.setIfInBounds_toArray, List.set_cons_zero, List.set_cons_succ]
        iterate 2 (first
          | (refine wpAs_skip rfl ?_; simp only [Act.put, List.setIfInBounds_toArray, List.set_cons_zero, List.set_cons_succ])
          | (refine wpAs_pure (v := ?_) rfl rfl ?_ ?_; rotate_left; (intro W hC hE; clear hE; skip; clear hC; go_simp; with_reducible rfl); simp only [Act.put, List.setIfInBounds_toArray, List.set_cons_zero, List.set_cons_succ]))
        refine wpAs_end fun W hC hE => ?_
        have BW := Lib.hid (B2.out.trans (hC.mono B2.out.size))
        clear hE hC
        go_wp2_with fail
        go_roundw
        case rel => exact ⟨k + 1, by omega, by go_num, hall.out, BW.out⟩
        case measure => simp [intOf]; omega
      · have h7' : (0 : Int) < l := by omega
        refine wpAs_pure_jump (v := .bool true) 0 rfl rfl rfl ?_ (by kernel_rfl) ?_
        · intro W hC hE
          clear hE hC
          first
            | (go_simp; done)
            | (go_simp; simp; omega)
            | (go_simp; simp_all; done)
        simp only [skipN, Act.put, List.drop_succ_cons, List.drop_zero, List.setIfInBounds_toArray, List.set_cons_zero, List.set_cons_succ]
        iterate 3 (first
          | (refine wpAs_skip rfl ?_; simp only [Act.put, List.setIfInBounds_toArray, List.set_cons_zero, List.set_cons_succ])
          | (refine wpAs_pure (v := ?_) rfl rfl ?_ ?_; rotate_left; (intro W hC hE; clear hE; (obtain ⟨p3, p4⟩ := HP.out W hC; obtain ⟨r3, r4⟩ := HX.out W hC); clear hC; go_simp; with_reducible rfl); simp only [Act.put, List.setIfInBounds_toArray, List.set_cons_zero, List.set_cons_succ]))
        by_cases h8 : x.2.1 = 0
        · have h8' : (x.2.1 == 0) = true := by simpa using h8
          have hr := Lib.hid (hbk.out (okAt_noP hx.out (by rw [okP, hmx.out, hl.out, refersI]; simp [h8]; omega)))
          replace h8 := Lib.hid h8
          refine wpAs_pure_jump (v := .bool true) 4 rfl rfl rfl ?_ (by kernel_rfl) ?_
          · intro W hC hE
            clear hE hC
            first
              | (go_simp; done)
              | (go_simp; simp; omega)
              | (go_simp; simp_all; done)
          simp only [skipN, Act.put, List.drop_succ_cons, List.drop_zero, List.setIfInBounds_toArray, List.set_cons_zero, List.set_cons_succ]
          iterate 3 (first
            | (refine wpAs_skip rfl ?_; simp only [Act.put, List.setIfInBounds_toArray, List.set_cons_zero, List.set_cons_succ])
            | (refine wpAs_pure (v := ?_) rfl rfl ?_ ?_; rotate_left; (intro W hC hE; clear hE; skip; clear hC; go_simp; with_reducible rfl); simp only [Act.put, List.setIfInBounds_toArray, List.set_cons_zero, List.set_cons_succ]))
          refine wpAs_end fun W hC hE => ?_
          have BF := Lib.hid (hB.out _ (B2.out.trans (hC.mono B2.out.size)))
          clear hE hC
          go_wp2_with fail
          go_ret
          exact ⟨ret_bool hr.out.symm, BF.out⟩
        · have h8' : (x.2.1 == 0) = false := by simpa using h8
          by_cases h9 : x.2.2.length = 0
          · have h9' : ¬ (0 : Int) < (x.2.2.length : Int) := by omega
            have hall := Lib.hid (hstep.out (by rw [hsucc.out, okP, hmx.out, refersI]; simp [h8, h9]))
            replace h8 := Lib.hid h8
            replace h9 := Lib.hid h9
            refine wpAs_pure_jump (v := .bool false) 0 rfl rfl rfl ?_ (by kernel_rfl) ?_
            · intro W hC hE
              clear hE hC
              first
                | (go_simp; done)
                | (go_simp; simp; omega)
                | (go_simp; simp_all; done)
            simp only [skipN, Act.put, List.drop_succ_cons, List.drop_zero, List.setIfInBounds_toArray, List.set_cons_zero, List.set_cons_succ]
            iterate 7 (first
              | (refine wpAs_skip rfl ?_; simp only [Act.put, List.setIfInBounds_toArray, List.set_cons_zero, List.set_cons_succ])
              | (refine wpAs_pure (v := ?_) rfl rfl ?_ ?_; rotate_left; (intro W hC hE; clear hE; (obtain ⟨r3, r4⟩ := HX.out W hC); clear hC; go_simp; with_reducible rfl); simp only [Act.put, List.setIfInBounds_toArray, List.set_cons_zero, List.set_cons_succ]))
            refine wpAs_end fun W hC hE => ?_
            have BW := Lib.hid (B2.out.trans (hC.mono B2.out.size))
            clear hE hC
            go_wp2_with fail
            go_roundw
            case rel => exact ⟨k + 1, by omega, by go_num, hall.out, BW.out⟩
            case measure => simp [intOf]; omega
          · have h9' : (0 : Int) < (x.2.2.length : Int) := by omega
            have hr := Lib.hid (hbk.out (okAt_noP hx.out (by rw [okP, hmx.out, hl.out, refersI]; simp [h9]; omega)))
            replace h8 := Lib.hid h8
            replace h9 := Lib.hid h9
            refine wpAs_pure_jump (v := .bool false) 0 rfl rfl rfl ?_ (by kernel_rfl) ?_
            · intro W hC hE
              clear hE hC
              first
                | (go_simp; done)
                | (go_simp; simp; omega)
                | (go_simp; simp_all; done)
            simp only [skipN, Act.put, List.drop_succ_cons, List.drop_zero, List.setIfInBounds_toArray, List.set_cons_zero, List.set_cons_succ]
            iterate 7 (first
              | (refine wpAs_skip rfl ?_; simp only [Act.put, List.setIfInBounds_toArray, List.set_cons_zero, List.set_cons_succ])
              | (refine wpAs_pure (v := ?_) rfl rfl ?_ ?_; rotate_left; (intro W hC hE; clear hE; (obtain ⟨r3, r4⟩ := HX.out W hC); clear hC; go_simp; with_reducible rfl); simp only [Act.put, List.setIfInBounds_toArray, List.set_cons_zero, List.set_cons_succ]))
            refine wpAs_end fun W hC hE => ?_
            have BF := Lib.hid (hB.out _ (B2.out.trans (hC.mono B2.out.size)))
            clear hE hC
            go_wp2_with fail
            go_ret
            exact ⟨ret_bool hr.out.symm, BF.out⟩
    · obtain ⟨y, hy⟩ : ∃ y, n.2[j]? = some y := ⟨_, List.getElem?_eq_getElem (by rw [hm.out]; omega)⟩
      obtain ⟨ad', E', ce', e', _, _, _, FY⟩ := its_old HA.out hy
      have e'' := Option.some.inj e'
      subst e''
      clear e'
      have FYY := Lib.hid fun W (hW : Below w2.heap.size w2 W) => (FY W ((hB.out _ B2.out).trans (hW.mono (hB.out _ B2.out).size))).1
      have hs0 := okAt_succ (n := n) (k := j) (x := x) (p := y) (by rw [← hkj]; exact hx.out) hy
      rw [← hkj] at hs0
      have hj1 : (k : Int) - 1 = (j : Int) := by omega
      have hwj : IntKind.i64.wrap (j : Int) = (j : Int) := IntWalk.i64_in _ (by omega)
      have hj0 : (0 : Int) ≤ (j : Int) := by omega
      have kpos : (0 : Int) < (k : Int) := by omega
      have hjm : (j : Int) < (m : Int) := by omega
      replace hy := Lib.hid hy
      replace hkj := Lib.hid hkj
      clear FY
      rcases bool_two (lessK y.1 x.1) with hs | hs
      · have hr := Lib.hid (hbk.out (by rw [hs0, hs]; simp))
        replace hs := Lib.hid hs
        replace hs0 := Lib.hid hs0
        refine wp_region_fx (by kernel_rfl) (fun W => Below w2.heap.size w2 W) (fun _ => none) (fun i => match i with
          | 1 => some (.bool true)
          | 16 => some (.bool false)
          | _ => none) (by kernel_rfl) (Below.refl _ _).drew (fun w w' h hb => h.trans (hb.mono h.size)) (fun j φ x W W' hp => by cases hp) ?_
        repeat (first
          | (refine wpAs_skip rfl ?_; simp only [Act.put, List.setIfInBounds_toArray, List.set_cons_zero, List.set_cons_succ])
          | (refine wpAs_pure (v := ?_) rfl rfl ?_ ?_; rotate_left; (intro W hC hE; clear hE; (obtain ⟨r0, r1, r2⟩ := HX0.out W hC; obtain ⟨r3, r4⟩ := HX.out W hC); clear hC; go_simp; done); simp only [Act.put, List.setIfInBounds_toArray, List.set_cons_zero, List.set_cons_succ])
          | (refine wpAs_pure (v := ?_) rfl rfl ?_ ?_; rotate_left; (intro W hC hE; clear hE; (obtain ⟨r0, r1, r2⟩ := HX0.out W hC; obtain ⟨r3, r4⟩ := HX.out W hC); clear hC; go_simp; with_reducible rfl); simp only [Act.put, List.setIfInBounds_toArray, List.set_cons_zero, List.set_cons_succ]))
        refine wpAs_fixed rfl rfl rfl ?_ ?_
        · intro W hC hE
          refine does_enter (f := 58) (args := #[.agg #[.int .u8 (x.1.1.toNat : Int), .int .u32 x.1.2.1, .int .u32 x.1.2.2, .int .i64 x.2.1, .slice E x.2.2.length ce]]) ?_ ?_
          · go_simp
          · refine (refMayI_any _ x W (HI.out W hC)).mono ?_
            (rintro e W' ⟨rfl, hg⟩; rw [hmx.out])
            exact ⟨_, rfl, rfl, hg⟩
        simp only [Act.put, List.setIfInBounds_toArray, List.set_cons_zero, List.set_cons_succ]
        iterate 4 (first
          | (refine wpAs_skip rfl ?_; simp only [Act.put, List.setIfInBounds_toArray, List.set_cons_zero, List.set_cons_succ])
          | (refine wpAs_pure (v := ?_) rfl rfl ?_ ?_; rotate_left; (intro W hC hE; clear hE; skip; clear hC; go_simp; with_reducible rfl); simp only [Act.put, List.setIfInBounds_toArray, List.set_cons_zero, List.set_cons_succ]))
        refine wpAs_pure_jump (v := .bool true) 0 rfl rfl rfl ?_ (by kernel_rfl) ?_
        · intro W hC hE
          clear hE hC
          first
            | (go_simp; done)
            | (go_simp; simp; omega)
            | (go_simp; simp_all; done)
        simp only [skipN, Act.put, List.drop_succ_cons, List.drop_zero, List.setIfInBounds_toArray, List.set_cons_zero, List.set_cons_succ]
        iterate 9 (first
          | (refine wpAs_skip rfl ?_; simp only [Act.put, List.setIfInBounds_toArray, List.set_cons_zero, List.set_cons_succ])
          | (refine wpAs_pure (v := ?_) rfl rfl ?_ ?_; rotate_left; (intro W hC hE; clear hE; (obtain ⟨p3, p4⟩ := HP.out W hC; obtain ⟨y0, y1, y2, y3, y4⟩ := FYY.out W hC; obtain ⟨r0, r1, r2⟩ := HX0.out W hC); clear hC; go_simp; with_reducible rfl); simp only [Act.put, List.setIfInBounds_toArray, List.set_cons_zero, List.set_cons_succ]))
        refine wpAs_fixed rfl rfl rfl ?_ ?_
        · intro W hC hE
          refine does_enter (f := 39) (args := #[kyV y.1, kyV x.1]) ?_ ?_
          · go_simp
          · refine (refLess_any y.1 x.1 W).mono ?_
            (rintro e W' ⟨rfl, hg⟩; rw [hs.out])
            exact ⟨_, rfl, rfl, hg⟩
        simp only [Act.put, List.setIfInBounds_toArray, List.set_cons_zero, List.set_cons_succ]
        iterate 3 (first
          | (refine wpAs_skip rfl ?_; simp only [Act.put, List.setIfInBounds_toArray, List.set_cons_zero, List.set_cons_succ])
          | (refine wpAs_pure (v := ?_) rfl rfl ?_ ?_; rotate_left; (intro W hC hE; clear hE; skip; clear hC; go_simp; with_reducible rfl); simp only [Act.put, List.setIfInBounds_toArray, List.set_cons_zero, List.set_cons_succ]))
        refine wpAs_pure_jump (v := .bool true) 14 rfl rfl rfl ?_ (by kernel_rfl) ?_
        · intro W hC hE
          clear hE hC
          first
            | (go_simp; done)
            | (go_simp; simp; omega)
            | (go_simp; simp_all; done)
        simp only [skipN, Act.put, List.drop_succ_cons, List.drop_zero, List.setIfInBounds_toArray, List.set_cons_zero, List.set_cons_succ]
        iterate 1 (first
          | (refine wpAs_skip rfl ?_; simp only [Act.put, List.setIfInBounds_toArray, List.set_cons_zero, List.set_cons_succ])
          | (refine wpAs_pure (v := ?_) rfl rfl ?_ ?_; rotate_left; (intro W hC hE; clear hE; skip; clear hC; go_simp; with_reducible rfl); simp only [Act.put, List.setIfInBounds_toArray, List.set_cons_zero, List.set_cons_succ]))
        refine wpAs_end fun W hC hE => ?_
        have BF := Lib.hid (hB.out _ (B2.out.trans (hC.mono B2.out.size)))
        clear hE hC
        go_wp2_with fail
        go_ret
        exact ⟨ret_bool hr.out.symm, BF.out⟩
      · have hsucc := Lib.hid (show okAt n k = okP n.1 x by rw [hs0, hs]; simp)
        replace hs := Lib.hid hs
        replace hs0 := Lib.hid hs0
        refine wp_region_fx (by kernel_rfl) (fun W => Below w2.heap.size w2 W) (fun _ => none) (fun i => match i with
          | 1 => some (.bool true)
          | 16 => some (.bool true)
          | _ => none) (by kernel_rfl) (Below.refl _ _).drew (fun w w' h hb => h.trans (hb.mono h.size)) (fun j φ x W W' hp => by cases hp) ?_
        repeat (first
          | (refine wpAs_skip rfl ?_; simp only [Act.put, List.setIfInBounds_toArray, List.set_cons_zero, List.set_cons_succ])
          | (refine wpAs_pure (v := ?_) rfl rfl ?_ ?_; rotate_left; (intro W hC hE; clear hE; (obtain ⟨r0, r1, r2⟩ := HX0.out W hC; obtain ⟨r3, r4⟩ := HX.out W hC); clear hC; go_simp; done); simp only [Act.put, List.setIfInBounds_toArray, List.set_cons_zero, List.set_cons_succ])
          | (refine wpAs_pure (v := ?_) rfl rfl ?_ ?_; rotate_left; (intro W hC hE; clear hE; (obtain ⟨r0, r1, r2⟩ := HX0.out W hC; obtain ⟨r3, r4⟩ := HX.out W hC); clear hC; go_simp; with_reducible rfl); simp only [Act.put, List.setIfInBounds_toArray, List.set_cons_zero, List.set_cons_succ]))
        refine wpAs_fixed rfl rfl rfl ?_ ?_
        · intro W hC hE
          refine does_enter (f := 58) (args := #[.agg #[.int .u8 (x.1.1.toNat : Int), .int .u32 x.1.2.1, .int .u32 x.1.2.2, .int .i64 x.2.1, .slice E x.2.2.length ce]]) ?_ ?_
          · go_simp
          · refine (refMayI_any _ x W (HI.out W hC)).mono ?_
            (rintro e W' ⟨rfl, hg⟩; rw [hmx.out])
            exact ⟨_, rfl, rfl, hg⟩
        simp only [Act.put, List.setIfInBounds_toArray, List.set_cons_zero, List.set_cons_succ]
        iterate 4 (first
          | (refine wpAs_skip rfl ?_; simp only [Act.put, List.setIfInBounds_toArray, List.set_cons_zero, List.set_cons_succ])
          | (refine wpAs_pure (v := ?_) rfl rfl ?_ ?_; rotate_left; (intro W hC hE; clear hE; skip; clear hC; go_simp; with_reducible rfl); simp only [Act.put, List.setIfInBounds_toArray, List.set_cons_zero, List.set_cons_succ]))
        refine wpAs_pure_jump (v := .bool true) 0 rfl rfl rfl ?_ (by kernel_rfl) ?_
        · intro W hC hE
          clear hE hC
          first
            | (go_simp; done)
            | (go_simp; simp; omega)
            | (go_simp; simp_all; done)
        simp only [skipN, Act.put, List.drop_succ_cons, List.drop_zero, List.setIfInBounds_toArray, List.set_cons_zero, List.set_cons_succ]
        iterate 9 (first
          | (refine wpAs_skip rfl ?_; simp only [Act.put, List.setIfInBounds_toArray, List.set_cons_zero, List.set_cons_succ])
          | (refine wpAs_pure (v := ?_) rfl rfl ?_ ?_; rotate_left; (intro W hC hE; clear hE; (obtain ⟨p3, p4⟩ := HP.out W hC; obtain ⟨y0, y1, y2, y3, y4⟩ := FYY.out W hC; obtain ⟨r0, r1, r2⟩ := HX0.out W hC); clear hC; go_simp; with_reducible rfl); simp only [Act.put, List.setIfInBounds_toArray, List.set_cons_zero, List.set_cons_succ]))
        refine wpAs_fixed rfl rfl rfl ?_ ?_
        · intro W hC hE
          refine does_enter (f := 39) (args := #[kyV y.1, kyV x.1]) ?_ ?_
          · go_simp
          · refine (refLess_any y.1 x.1 W).mono ?_
            (rintro e W' ⟨rfl, hg⟩; rw [hs.out])
            exact ⟨_, rfl, rfl, hg⟩
        simp only [Act.put, List.setIfInBounds_toArray, List.set_cons_zero, List.set_cons_succ]
        iterate 3 (first
          | (refine wpAs_skip rfl ?_; simp only [Act.put, List.setIfInBounds_toArray, List.set_cons_zero, List.set_cons_succ])
          | (refine wpAs_pure (v := ?_) rfl rfl ?_ ?_; rotate_left; (intro W hC hE; clear hE; skip; clear hC; go_simp; with_reducible rfl); simp only [Act.put, List.setIfInBounds_toArray, List.set_cons_zero, List.set_cons_succ]))
        iterate 4 (first
          | (refine wpAs_skip rfl ?_; simp only [Act.put, List.setIfInBounds_toArray, List.set_cons_zero, List.set_cons_succ])
          | (refine wpAs_pure (v := ?_) rfl rfl ?_ ?_; rotate_left; (intro W hC hE; clear hE; (obtain ⟨p3, p4⟩ := HP.out W hC); clear hC; go_simp; with_reducible rfl); simp only [Act.put, List.setIfInBounds_toArray, List.set_cons_zero, List.set_cons_succ]))
        by_cases h7 : l ≤ 0
        · have h7' : ¬ (0 : Int) < l := by omega
          have hall := Lib.hid (hstep.out (by rw [hsucc.out, okP, hmx.out, hl.out]; simp [h7]))
          refine wpAs_pure_jump (v := .bool false) 9 rfl rfl rfl ?_ (by kernel_rfl) ?_
          · intro W hC hE
            clear hE hC
            first
              | (go_simp; done)
              | (go_simp; simp; omega)
              | (go_simp; simp_all; done)
          simp only [skipN, Act.put, List.drop_succ_cons, List.drop_zero, List.setIfInBounds_toArray, List.set_cons_zero, List.set_cons_succ]
          iterate 2 (first
            | (refine wpAs_skip rfl ?_; simp only [Act.put, List.setIfInBounds_toArray, List.set_cons_zero, List.set_cons_succ])
            | (refine wpAs_pure (v := ?_) rfl rfl ?_ ?_; rotate_left; (intro W hC hE; clear hE; skip; clear hC; go_simp; with_reducible rfl); simp only [Act.put, List.setIfInBounds_toArray, List.set_cons_zero, List.set_cons_succ]))
          refine wpAs_end fun W hC hE => ?_
          have BW := Lib.hid (B2.out.trans (hC.mono B2.out.size))
          clear hE hC
          go_wp2_with fail
          go_roundw
          case rel => exact ⟨k + 1, by omega, by go_num, hall.out, BW.out⟩
          case measure => simp [intOf]; omega
        · have h7' : (0 : Int) < l := by omega
          refine wpAs_pure_jump (v := .bool true) 0 rfl rfl rfl ?_ (by kernel_rfl) ?_
          · intro W hC hE
            clear hE hC
            first
              | (go_simp; done)
              | (go_simp; simp; omega)
              | (go_simp; simp_all; done)
          simp only [skipN, Act.put, List.drop_succ_cons, List.drop_zero, List.setIfInBounds_toArray, List.set_cons_zero, List.set_cons_succ]
          iterate 3 (first
            | (refine wpAs_skip rfl ?_; simp only [Act.put, List.setIfInBounds_toArray, List.set_cons_zero, List.set_cons_succ])
            | (refine wpAs_pure (v := ?_) rfl rfl ?_ ?_; rotate_left; (intro W hC hE; clear hE; (obtain ⟨p3, p4⟩ := HP.out W hC; obtain ⟨r3, r4⟩ := HX.out W hC); clear hC; go_simp; with_reducible rfl); simp only [Act.put, List.setIfInBounds_toArray, List.set_cons_zero, List.set_cons_succ]))
          by_cases h8 : x.2.1 = 0
          · have h8' : (x.2.1 == 0) = true := by simpa using h8
            have hr := Lib.hid (hbk.out (okAt_noP hx.out (by rw [okP, hmx.out, hl.out, refersI]; simp [h8]; omega)))
            replace h8 := Lib.hid h8
            refine wpAs_pure_jump (v := .bool true) 4 rfl rfl rfl ?_ (by kernel_rfl) ?_
            · intro W hC hE
              clear hE hC
              first
                | (go_simp; done)
                | (go_simp; simp; omega)
                | (go_simp; simp_all; done)
            simp only [skipN, Act.put, List.drop_succ_cons, List.drop_zero, List.setIfInBounds_toArray, List.set_cons_zero, List.set_cons_succ]
            iterate 3 (first
              | (refine wpAs_skip rfl ?_; simp only [Act.put, List.setIfInBounds_toArray, List.set_cons_zero, List.set_cons_succ])
              | (refine wpAs_pure (v := ?_) rfl rfl ?_ ?_; rotate_left; (intro W hC hE; clear hE; skip; clear hC; go_simp; with_reducible rfl); simp only [Act.put, List.setIfInBounds_toArray, List.set_cons_zero, List.set_cons_succ]))
            refine wpAs_end fun W hC hE => ?_
            have BF := Lib.hid (hB.out _ (B2.out.trans (hC.mono B2.out.size)))
            clear hE hC
            go_wp2_with fail
            go_ret
            exact ⟨ret_bool hr.out.symm, BF.out⟩
          · have h8' : (x.2.1 == 0) = false := by simpa using h8
            by_cases h9 : x.2.2.length = 0
            · have h9' : ¬ (0 : Int) < (x.2.2.length : Int) := by omega
              have hall := Lib.hid (hstep.out (by rw [hsucc.out, okP, hmx.out, refersI]; simp [h8, h9]))
              replace h8 := Lib.hid h8
              replace h9 := Lib.hid h9
              refine wpAs_pure_jump (v := .bool false) 0 rfl rfl rfl ?_ (by kernel_rfl) ?_
              · intro W hC hE
                clear hE hC
                first
                  | (go_simp; done)
                  | (go_simp; simp; omega)
                  | (go_simp; simp_all; done)
              simp only [skipN, Act.put, List.drop_succ_cons, List.drop_zero, List.setIfInBounds_toArray, List.set_cons_zero, List.set_cons_succ]
              iterate 7 (first
                | (refine wpAs_skip rfl ?_; simp only [Act.put, List.setIfInBounds_toArray, List.set_cons_zero, List.set_cons_succ])
                | (refine wpAs_pure (v := ?_) rfl rfl ?_ ?_; rotate_left; (intro W hC hE; clear hE; (obtain ⟨r3, r4⟩ := HX.out W hC); clear hC; go_simp; with_reducible rfl); simp only [Act.put, List.setIfInBounds_toArray, List.set_cons_zero, List.set_cons_succ]))
              refine wpAs_end fun W hC hE => ?_
              have BW := Lib.hid (B2.out.trans (hC.mono B2.out.size))
              clear hE hC
              go_wp2_with fail
              go_roundw
              case rel => exact ⟨k + 1, by omega, by go_num, hall.out, BW.out⟩
              case measure => simp [intOf]; omega
            · have h9' : (0 : Int) < (x.2.2.length : Int) := by omega
              have hr := Lib.hid (hbk.out (okAt_noP hx.out (by rw [okP, hmx.out, hl.out, refersI]; simp [h9]; omega)))
              replace h8 := Lib.hid h8
              replace h9 := Lib.hid h9
              refine wpAs_pure_jump (v := .bool false) 0 rfl rfl rfl ?_ (by kernel_rfl) ?_
              · intro W hC hE
                clear hE hC
                first
                  | (go_simp; done)
                  | (go_simp; simp; omega)
                  | (go_simp; simp_all; done)
              simp only [skipN, Act.put, List.drop_succ_cons, List.drop_zero, List.setIfInBounds_toArray, List.set_cons_zero, List.set_cons_succ]
              iterate 7 (first
                | (refine wpAs_skip rfl ?_; simp only [Act.put, List.setIfInBounds_toArray, List.set_cons_zero, List.set_cons_succ])
                | (refine wpAs_pure (v := ?_) rfl rfl ?_ ?_; rotate_left; (intro W hC hE; clear hE; (obtain ⟨r3, r4⟩ := HX.out W hC); clear hC; go_simp; with_reducible rfl); simp only [Act.put, List.setIfInBounds_toArray, List.set_cons_zero, List.set_cons_succ]))
              refine wpAs_end fun W hC hE => ?_
              have BF := Lib.hid (hB.out _ (B2.out.trans (hC.mono B2.out.size)))
              clear hE hC
              go_wp2_with fail
              go_ret
              exact ⟨ret_bool hr.out.symm, BF.out⟩

set_option maxRecDepth 100000 in
set_option maxHeartbeats 2000000 in
theorem refCheckN_any (v : Value) (n : Nd) (w : World) (h : Nod (Old w) w v n) : Calls Try.prog 20 #[v] w fun e w' => e = .returned (.int .i64 (chkN n)) ∧ Below w.heap.size w w' := by
  obtain ⟨d, rfl, _⟩ := id h
  obtain ⟨w0, hw0, b0, hs0, hB0⟩ := box_pair' w (.int .i64 n.1) d 26
  obtain ⟨f1, f2, _, _⟩ := two_cells b0
  have H0 := Lib.hid (h.below hB0)
  have HB0 := Lib.hid hB0
  replace hs0 := Lib.hid hs0
  clear hB0 b0 h
  rcases bool_two (mayN n) with hm | hm
  · have hc := Lib.hid (chkN_bad hm)
    go_enter Try.func20, Try.ntmps20
    go_upto_region 1 with fail
    clear hw0
    go_wp2_with fail
    with_reducible refine (refMayN_any _ n _ H0.out).mono ?_
    rintro e w1 ⟨rfl, hb⟩
    rw [hm]
    have HB := Lib.hid (HB0.out.trans (hb.mono HB0.out.size))
    clear hb
    go_wp2_with fail
    go_ret
    exact ⟨ret_int hc.out.symm, HB.out⟩
  · have hc := Lib.hid (chkN_ok hm)
    go_enter Try.func20, Try.ntmps20
    go_upto_region 1 with fail
    clear hw0
    go_wp2_with fail
    with_reducible refine (refMayN_any _ n _ H0.out).mono ?_
    rintro e w1 ⟨rfl, hb⟩
    rw [hm]
    have HB := Lib.hid (HB0.out.trans (hb.mono HB0.out.size))
    clear hb
    go_wp2_with fail
    go_ret
    exact ⟨ret_int hc.out.symm, HB.out⟩
end Go.Proofs.Ytpcajbcdahcehaa

/-
  The document's answers of layer 6: told, Block, Write. Conditions: those that each lemma states.
-/
namespace Go.Proofs.Ytpcajbcdahcehaa
open Go.RowKit

set_option maxRecDepth 100000 in
set_option maxHeartbeats 4000000 in
theorem refTold_ok (v : Value) (n : Nd) (w : World) (h : Nod (Old w) w v n) (hm : mayN n = true) :
    Calls Try.prog 38 #[v] w fun e w' => ∃ u, e = .returned u ∧ rBy (New w.heap.size w') w' [u] (toldN n) ∧ Below w.heap.size w w' := by
  obtain ⟨A, c, rfl, hin, l1, m1, hA⟩ := h.open
  obtain ⟨w1, hw1, b0, hs0, hB0⟩ := box_pair' w (.int .i64 n.1) (.slice A n.2.length c) 26
  obtain ⟨f1, f2, _, lt1⟩ := two_cells b0
  have HA := Lib.hid hA
  have B1 := Lib.hid hB0
  replace hs0 := Lib.hid hs0
  clear h hA hB0 b0 hin
  have hmay := Lib.hid hm
  obtain ⟨⟨s1, s2, s3, _⟩, _⟩ := mayN_of hm
  obtain ⟨m, hmm⟩ : ∃ m, n.2.length = m := ⟨_, rfl⟩
  have hu1 := u8_small s1 (by omega)
  have hu2 := u8_small (l := (n.2.length : Int)) (by omega) (by omega)
  have hhead := Lib.hid (show headN n = [78, UInt8.ofNat n.1.toNat, UInt8.ofNat n.2.length] from rfl)
  rw [Int.toNat_natCast] at hu2
  rw [hmm] at l1 f2 hw1 HA s3 hu2 hhead ⊢
  obtain ⟨l, hl⟩ : ∃ l, n.1 = l := ⟨_, rfl⟩
  rw [hl] at f1 hw1 s1 s2 hu1 hhead ⊢
  replace hl := Lib.hid hl
  replace hmm := Lib.hid hmm
  clear hm
  obtain ⟨w2, hw2, own2, hb2, hs2⟩ := lit_own3 w1 78 (UInt8.ofNat l.toNat) (UInt8.ofNat m) 78 l m rfl hu1.1 hu2.1
  rw [← hhead.out] at own2
  have q1 := hu1.2
  have q2 := hu2.2
  have lt2 : w.heap.size < w2.heap.size := Nat.lt_of_lt_of_le lt1 hb2.size
  have hb2' := Lib.hid hb2
  replace own2 := Lib.hid own2
  replace hu1 := Lib.hid hu1
  replace hu2 := Lib.hid hu2
  replace hs2 := Lib.hid hs2
  clear hb2
  go_enter Try.func38, Try.ntmps38
  go_upto_region 1 with fail
  clear hw1
  go_upto_region 2 with fail
  clear hw2
  go_wp2_with fail
  go_loopw [3, 4] (fun b i wr => ∃ k : Nat, k ≤ m ∧ i = .int .i64 k ∧ wr.ownsRow w1.heap.size 5 1 b (3 + (itsB (n.2.take k)).length) (u8s (headN n ++ itsB (n.2.take k))) ∧ Below w1.heap.size w1 wr) (fun _ i _ => m - (intOf i).toNat)
  case atStart => exact ⟨0, by omega, rfl, by simpa [itsB] using own2.out, hb2'.out⟩
  case round =>
    obtain ⟨k, hk, rfl, hown, hb⟩ := hrel
    replace hb := Lib.hid hb
    have h63 := itsB_take_len hmay.out k
    obtain ⟨B, cb, rfl, c1, c2, hby⟩ := own_byt hown
    have BF := Lib.hid (B1.out.trans (hb.out.mono B1.out.size))
    have p4 := (hb.out.cell (p := ⟨w.heap.size, 1, none⟩) lt1).trans f2
    by_cases hlt : k < m
    case neg =>
      have hkm : Hid (n.2.take k = n.2) := Lib.hid (List.take_of_length_le (by rw [hmm.out]; omega))
      rw [hkm.out] at hown c1 ⊢
      have hfin := Lib.hid (show rBy (New w.heap.size wr) wr [.slice B (3 + (itsB n.2).length) cb] (toldN n) from stab_by.mono (own_by hown) B1.out.size)
      obtain ⟨q, hq⟩ : ∃ q, 3 + (itsB n.2).length = q := ⟨_, rfl⟩
      rw [hq] at hfin c1 ⊢
      clear hown hq hby
      go_wp2_with fail
      go_ret
      exact ⟨_, rfl, hfin.out, BF.out⟩
    obtain ⟨x, hx⟩ : ∃ x, n.2[k]? = some x := ⟨_, List.getElem?_eq_getElem (by rw [hmm.out]; exact hlt)⟩
    obtain ⟨ad, E, ce, rfl, _, _, hinx, FX⟩ := its_old HA.out hx
    obtain ⟨⟨z0, z1, z2, z3, z4⟩, hIx⟩ := FX wr BF.out
    have HI := Lib.hid hIx
    have hmx := Lib.hid (okP_may (mayN_item hmay.out hx))
    have htk := Lib.hid (itsB_take hx)
    have hlx := Lib.hid (show (itB x).length ≤ 24 by have := (mayI_of hmx.out).2; rw [itB_length]; omega)
    have HO := Lib.hid hown
    have i1 : (0 : Int) ≤ (k : Int) := by omega
    have i2 : (k : Int) < (m : Int) := by omega
    replace hx := Lib.hid hx
    clear FX hinx hIx hown hby
    unfold itV at *
    go_wp2_with fail
    with_reducible refine (refBytes_ok _ x _ HI.out hmx.out).mono ?_
    rintro e4 w4 ⟨u, rfl, hu, hb4⟩
    obtain ⟨U, cu, rfl, _, _, hyu⟩ := rBy_byt (B := w4.heap.size) (fun p hp => hp.2.1) hu
    have B4 := hb.out.trans (hb4.mono hb.out.size)
    obtain ⟨v5, w5, hr5, o5, ba5⟩ := app_own_byt _ (3 + (itsB (n.2.take k)).length) (itB x).length cu _ (itB x) U w1.heap.size w4 (own_below HO.out hb4) hyu rfl (by have := hlx.out; omega) B4.size
    have B5 := Lib.hid (B4.trans ba5)
    have H5 := Lib.hid hr5
    have o5' := Lib.hid (show w5.ownsRow w1.heap.size 5 1 v5 (3 + (itsB (n.2.take (k + 1))).length) (u8s (headN n ++ itsB (n.2.take (k + 1)))) by
      rw [htk.out, List.length_append, ← List.append_assoc, ← Nat.add_assoc]
      exact o5)
    clear hu hb4 hyu hr5 o5 ba5 B4
    go_wp2_with (at_builtin; refine wpList_append_run rfl _ _ _ rfl rfl rfl H5.out ?_; clear H5)
    go_roundw
    case rel => exact ⟨k + 1, by omega, by go_num, o5'.out, B5.out⟩
    case measure => simp [intOf]; omega

set_option maxRecDepth 100000 in
set_option maxHeartbeats 2000000 in
theorem refBlockN_ok (v : Value) (n : Nd) (w : World) (h : Nod (Old w) w v n) (hm : mayN n = true) :
    Calls Try.prog 34 #[v] w fun e w' => ∃ u, e = .returned u ∧ rBy (New w.heap.size w') w' [u] (blkN n) ∧ Below w.heap.size w w' := by
  obtain ⟨d, rfl, _⟩ := id h
  obtain ⟨w0, hw0, b0, hs0, hB0⟩ := box_pair' w (.int .i64 n.1) d 26
  obtain ⟨f1, f2, _, _⟩ := two_cells b0
  have H0 := Lib.hid (h.below hB0)
  have HB0 := Lib.hid hB0
  have hl := toldN_len hm
  replace hm := Lib.hid hm
  replace hs0 := Lib.hid hs0
  clear hB0 b0 h
  go_enter Try.func34, Try.ntmps34
  go_upto_region 1 with fail
  clear hw0
  go_wp2_with fail
  with_reducible refine (refTold_ok _ n _ H0.out hm.out).mono ?_
  rintro e1 w1 ⟨u, rfl, hu, hb1⟩
  obtain ⟨U, cu, rfl, g1, g2, hyu⟩ := rBy_byt (B := w1.heap.size) (fun p hp => hp.2.1) hu
  obtain ⟨q, hq⟩ : ∃ q, (toldN n).length = q := ⟨_, rfl⟩
  rw [hq] at g1 hl ⊢
  replace hq := Lib.hid hq
  have B1 := Lib.hid (HB0.out.trans (hb1.mono HB0.out.size))
  have HY := Lib.hid hyu
  clear hu hb1 hyu
  go_wp2_with fail
  with_reducible refine (sealed_ref U q cu (toldN n) hq hl g1 g2 _ HY.out).mono ?_
  rintro e2 w2 ⟨u2, rfl, ho, hb2⟩
  have BF := Lib.hid (B1.out.trans (hb2.mono B1.out.size))
  have hfin := Lib.hid (show rBy (New w.heap.size w2) w2 [u2] (blkN n) from stab_by.mono (own_by ho) B1.out.size)
  clear hb2 ho
  go_wp2_with fail
  go_ret
  exact ⟨_, rfl, hfin.out, BF.out⟩

set_option maxRecDepth 100000 in
theorem refWriteN_any (v : Value) (n : Nd) (w : World) (h : Nod (Old w) w v n) :
    Calls Try.prog 16 #[v] w fun e w' => ∃ u, e = .returned (.tuple #[u, .int .i64 (chkN n)]) ∧ rBy (New w.heap.size w') w' [u] (wrN n) ∧ Below w.heap.size w w' := by
  obtain ⟨d, rfl, _⟩ := id h
  obtain ⟨w0, hw0, b0, hs0, hB0⟩ := box_pair' w (.int .i64 n.1) d 26
  obtain ⟨f1, f2, _, lt0⟩ := two_cells b0
  have H0 := Lib.hid (h.below hB0)
  have HB0 := Lib.hid hB0
  replace hs0 := Lib.hid hs0
  clear hB0 b0 h
  rcases bool_two (mayN n) with hm | hm
  · rw [chkN_bad hm, show wrN n = [] by simp [wrN, hm]]
    go_enter Try.func16, Try.ntmps16
    go_upto_region 1 with fail
    clear hw0
    go_wp2_with fail
    with_reducible refine (refMayN_any _ n _ H0.out).mono ?_
    rintro e1 w1 ⟨rfl, hb1⟩
    rw [hm]
    have BF := Lib.hid (HB0.out.trans (hb1.mono HB0.out.size))
    clear hb1
    go_wp2_with fail
    go_ret2
    exact ⟨_, rfl, rBy_nil_new _ _, BF.out⟩
  · rw [chkN_ok hm, show wrN n = blkN n by simp [wrN, hm]]
    go_enter Try.func16, Try.ntmps16
    go_upto_region 1 with fail
    clear hw0
    go_wp2_with fail
    with_reducible refine (refMayN_any _ n _ H0.out).mono ?_
    rintro e1 w1 ⟨rfl, hb1⟩
    rw [hm]
    replace f1 := (hb1.cell (p := ⟨w.heap.size, 0, none⟩) lt0).trans f1
    replace f2 := (hb1.cell (p := ⟨w.heap.size, 1, none⟩) lt0).trans f2
    have H1 := Lib.hid (H0.out.below hb1)
    have B1 := Lib.hid (HB0.out.trans (hb1.mono HB0.out.size))
    clear hb1
    replace hm := Lib.hid hm
    go_wp2_with fail
    with_reducible refine (refBlockN_ok _ n _ H1.out hm.out).mono ?_
    rintro e2 w2 ⟨u, rfl, hu, hb2⟩
    have BF := Lib.hid (B1.out.trans (hb2.mono B1.out.size))
    have hu2 := Lib.hid (stab_by.mono hu B1.out.size)
    clear hb2 hu
    go_wp2_with fail
    go_ret2
    exact ⟨_, rfl, hu2.out, BF.out⟩
end Go.Proofs.Ytpcajbcdahcehaa

/-
  The document's answers of layer 6: same (bytes with noughts behind); what a block tells, plain. Conditions: those that each lemma states.
-/
namespace Go.Proofs.Ytpcajbcdahcehaa
open Go.RowKit

def samAt (b t : List UInt8) (i : Nat) : Bool := if i < t.length then b[i]?.getD 0 == t[i]?.getD 0 else b[i]?.getD 0 == 0
def samB (b t : List UInt8) : Bool := (List.range b.length).all (samAt b t) && decide (t.length ≤ b.length)
theorem samB_no {b t : List UInt8} {k : Nat} (hk : k < b.length) (h : samAt b t k = false) : samB b t = false := by
  cases e : samB b t with
  | false => rfl
  | true =>
    simp only [samB, Bool.and_eq_true, List.all_eq_true] at e
    have := e.1 k (by simpa using hk)
    rw [h] at this
    cases this
theorem samB_end {b t : List UInt8} (h : ∀ k, k < b.length → samAt b t k = true) : samB b t = decide (t.length ≤ b.length) := by
  have : (List.range b.length).all (samAt b t) = true := by
    rw [List.all_eq_true]
    exact fun x hx => h x (by simpa using hx)
  rw [samB, this, Bool.true_and]
theorem samB_of {b t : List UInt8} (h : samB b t = true) : ∃ r, noughtsB r = true ∧ b = t ++ r := by
  simp only [samB, Bool.and_eq_true, List.all_eq_true, decide_eq_true_eq] at h
  obtain ⟨h1, h2⟩ := h
  have h3 : ∀ i, i < b.length → samAt b t i = true := fun i hi => h1 i (by simpa using hi)
  refine ⟨b.drop t.length, ?_, ?_⟩
  · unfold noughtsB
    rw [List.all_eq_true]
    intro x hx
    obtain ⟨j, hj⟩ := List.mem_iff_getElem?.1 hx
    rw [List.getElem?_drop] at hj
    have := h3 (t.length + j) (List.getElem?_eq_some_iff.1 hj).1
    unfold samAt at this
    rw [if_neg (by omega), hj] at this
    simpa using this
  · apply List.ext_getElem?
    intro i
    rcases Nat.lt_or_ge i t.length with hi | hi
    · rw [List.getElem?_append_left hi]
      have := h3 i (by omega)
      unfold samAt at this
      rw [if_pos hi, List.getElem?_eq_getElem hi, List.getElem?_eq_getElem (show i < b.length by omega)] at this
      rw [List.getElem?_eq_getElem hi, List.getElem?_eq_getElem (show i < b.length by omega)]
      simpa using this
    · rw [List.getElem?_append_right hi, List.getElem?_drop]
      congr 1
      omega
theorem samB_mk {t r : List UInt8} (h : noughtsB r = true) : samB (t ++ r) t = true := by
  have h2 : ∀ i, samAt (t ++ r) t i = true := fun i => by
    unfold samAt
    split
    · rename_i hi
      rw [List.getElem?_append_left hi]
      simp
    · rename_i hi
      rw [List.getElem?_append_right (by omega), noughts_zeros h]
      unfold zeros
      rw [List.getElem?_replicate]
      split <;> simp
  rw [samB_end fun i _ => h2 i]
  simp

set_option maxRecDepth 100000 in
set_option maxHeartbeats 4000000 in
theorem refSamN_any (A B : Option Addr) (n c m d : Nat) (b t : List UInt8) (hn : Hid (b.length = n)) (hm : Hid (t.length = m)) (l1 : n ≤ c) (m1 : c ≤ 9223372036854775807) (l2 : m ≤ d) (m2 : d ≤ 9223372036854775807) (w : World) (hb : Byt w w.heap.size A b) (ht : Byt w w.heap.size B t) :
    Calls Try.prog 37 #[.slice A n c, .slice B m d] w fun e w' => e = .returned (.bool (samB b t)) ∧ Below w.heap.size w w' := by
  have HB := Lib.hid hb
  have HT := Lib.hid ht
  clear hb ht
  have hdef := Lib.hid (fun (k : Nat) (hk : k < b.length) (h : samAt b t k = false) => samB_no hk h)
  have hend := Lib.hid (fun h => samB_end (b := b) (t := t) h)
  go_enter Try.func37, Try.ntmps37
  go_wp2_with fail
  go_loopw [5] (fun i wr => ∃ k : Nat, k ≤ n ∧ i = .int .i64 k ∧ (∀ j, j < k → samAt b t j = true) ∧ Below w.heap.size w wr) (fun i _ => n - (intOf i).toNat)
  case atStart => exact ⟨0, by omega, rfl, fun j hj => by omega, Below.refl _ _⟩
  case round =>
    obtain ⟨k, hk, rfl, ha, hbw⟩ := hrel
    replace ha := Lib.hid ha
    replace hbw := Lib.hid hbw
    by_cases hlt : k < n
    · obtain ⟨ad, rfl, _, hc⟩ := (HB.out.below hbw.out) (by rw [hn.out]; omega)
      replace hc := hc k (by rw [hn.out]; exact hlt)
      have hbad := Lib.hid (hdef.out k (by rw [hn.out]; exact hlt))
      have hstep : Hid (samAt b t k = true → ∀ j, j < k + 1 → samAt b t j = true) := Lib.hid fun h j hj => by
        rcases Nat.lt_or_ge j k with h1 | h1
        · exact ha.out j h1
        · obtain rfl : j = k := by omega
          exact h
      have hat : samAt b t k = if k < t.length then b[k]?.getD 0 == t[k]?.getD 0 else b[k]?.getD 0 == 0 := rfl
      rw [hm.out] at hat
      have i1 : (0 : Int) ≤ (k : Int) := by omega
      have i2 : (k : Int) < (n : Int) := by omega
      obtain ⟨x, hx⟩ : ∃ x, b[k]?.getD 0 = x := ⟨_, rfl⟩
      rw [hx] at hc hat
      replace hx := Lib.hid hx
      by_cases hkm : k < m
      · obtain ⟨bd, rfl, _, hc2⟩ := (HT.out.below hbw.out) (by rw [hm.out]; omega)
        replace hc2 := hc2 k (by rw [hm.out]; exact hkm)
        obtain ⟨y, hy⟩ : ∃ y, t[k]?.getD 0 = y := ⟨_, rfl⟩
        rw [hy] at hc2 hat
        replace hy := Lib.hid hy
        rw [if_pos hkm] at hat
        have i3 : (k : Int) < (m : Int) := by omega
        by_cases e : x = y
        · have hall := Lib.hid (hstep.out (by rw [hat, e]; simp))
          clear hat
          subst e
          have he : ((x.toNat : Int) != (x.toNat : Int)) = false := by simp
          go_wp2_with fail
          have i5 : decide (m ≤ k) = false := by simp; omega
          go_quiet (fail)
          go_wp2_with fail
          go_roundw
          case rel => exact ⟨k + 1, by omega, by go_num, hall.out, below_drewN hbw.out _⟩
          case measure => simp [intOf]; omega
        · have he : ((x.toNat : Int) != (y.toNat : Int)) = true := by
            have : x.toNat ≠ y.toNat := fun h => e (UInt8.toNat.inj h)
            simp
            omega
          have hr := Lib.hid (hbad.out (by rw [hat]; simpa using e))
          replace e := Lib.hid e
          clear hat
          go_wp2_with fail
          go_quiet (fail)
          go_wp2_with fail
          go_ret
          exact ⟨ret_bool hr.out.symm, below_drewN hbw.out _⟩
      · rw [if_neg hkm] at hat
        have i3 : ¬ (k : Int) < (m : Int) := by omega
        have i4 : (m : Int) ≤ (k : Int) := by omega
        by_cases e : x = 0
        · have he : ((x.toNat : Int) != 0) = false := by rw [e]; rfl
          have hall := Lib.hid (hstep.out (by rw [hat, e]; rfl))
          replace e := Lib.hid e
          clear hat
          go_wp2_with fail
          go_quiet (fail)
          go_wp2_with fail
          go_roundw
          case rel => exact ⟨k + 1, by omega, by go_num, hall.out, below_drewN hbw.out _⟩
          case measure => simp [intOf]; omega
        · have he : ((x.toNat : Int) != 0) = true := by
            have : x.toNat ≠ 0 := fun h => e (UInt8.toNat.inj h)
            simp
            omega
          have hr := Lib.hid (hbad.out (by rw [hat]; simpa using e))
          replace e := Lib.hid e
          clear hat
          go_wp2_with fail
          go_quiet (fail)
          go_wp2_with fail
          go_ret
          exact ⟨ret_bool hr.out.symm, below_drewN hbw.out _⟩
    · have hr := Lib.hid (hend.out fun j hj => ha.out j (by have := hn.out; omega))
      rw [hn.out, hm.out] at hr
      by_cases h9 : m ≤ n
      · have i3 : (m : Int) ≤ (n : Int) := by omega
        have hr2 := Lib.hid (show samB b t = true by rw [hr.out]; simpa using h9)
        go_wp2_with fail
        go_ret
        exact ⟨ret_bool hr2.out.symm, hbw.out⟩
      · have i3 : ¬ (m : Int) ≤ (n : Int) := by omega
        have hr2 := Lib.hid (show samB b t = false by rw [hr.out]; simpa using h9)
        go_wp2_with fail
        go_ret
        exact ⟨ret_bool hr2.out.symm, hbw.out⟩

/-! ### What the document's reading takes for a node -/
def capN (bd : List UInt8) : Nat := min (manyN bd) 6
def ndR (bd : List UInt8) : Nd := (lvlN bd, cutL (bd.drop 3) (capN bd))
def rdR (bd : List UInt8) : Bool := (cutTo (bd.drop 3) (capN bd)).isSome && (mayN (ndR bd) && samB bd (toldN (ndR bd)))
theorem rdR_eq {bd : List UInt8} (h124 : bd.length = 124) : rdR bd = rdN bd ∧ (rdR bd = true → ndR bd = ndN bd) := by
  by_cases hm : manyN bd ≤ 6
  · have hc : capN bd = manyN bd := by unfold capN; omega
    have hnd : ndR bd = ndN bd := by unfold ndR ndN; rw [hc]
    refine ⟨?_, fun _ => hnd⟩
    unfold rdR rdN
    rw [hnd, hc]
    cases hct : cutTo (bd.drop 3) (manyN bd) with
    | none => simp
    | some p =>
      obtain ⟨l, r⟩ := p
      have hL : cutL (bd.drop 3) (manyN bd) = l := by simp [cutL, hct]
      have hR : cutR (bd.drop 3) (manyN bd) = r := by simp [cutR, hct]
      obtain ⟨c1, c2, _⟩ := cutTo_bytes hct
      rw [hR]
      have hT : toldN (ndN bd) = [78, bd[1]?.getD 0, bd[2]?.getD 0] ++ itsB l := by
        rw [ndN, hL, told_parts, c2]
        have e1 : UInt8.ofNat (lvlN bd).toNat = bd[1]?.getD 0 := by simp [lvlN]
        have e2 : UInt8.ofNat (manyN bd) = bd[2]?.getD 0 := by simp [manyN]
        show [78, UInt8.ofNat (lvlN bd).toNat, UInt8.ofNat (manyN bd)] ++ itsB l = _
        rw [e1, e2]
      have hsplit : bd = [bd[0]?.getD 0, bd[1]?.getD 0, bd[2]?.getD 0] ++ bd.drop 3 := by
        match bd, h124 with
        | x :: y :: z :: q, _ => simp
      have key : samB bd (toldN (ndN bd)) = (decide (bd[0]?.getD 0 = 78) && noughtsB r) := by
        rw [Bool.eq_iff_iff, Bool.and_eq_true, decide_eq_true_iff]
        constructor
        · intro h
          obtain ⟨r', hr', e⟩ := samB_of h
          rw [hT] at e
          have h0 : bd[0]?.getD 0 = 78 := by rw [e]; rfl
          refine ⟨h0, ?_⟩
          have h1 : bd.drop 3 = itsB l ++ r' := by rw [e]; rfl
          rw [c1] at h1
          have := List.append_cancel_left h1
          rw [this]
          exact hr'
        · rintro ⟨h0, hr⟩
          have e : bd = toldN (ndN bd) ++ r := by
            rw [hT, List.append_assoc, ← c1, ← h0]
            exact hsplit
          have := samB_mk (t := toldN (ndN bd)) hr
          rwa [← e] at this
      rw [key]
      cases decide (bd[0]?.getD 0 = 78) <;> cases noughtsB r <;> cases mayN (ndN bd) <;> rfl
  · have hc : capN bd = 6 := by unfold capN; omega
    have h1 : rdR bd = false := by
      unfold rdR
      rw [hc]
      cases hct : cutTo (bd.drop 3) 6 with
      | none => rfl
      | some p =>
        obtain ⟨l, r⟩ := p
        have hL : cutL (bd.drop 3) 6 = l := by simp [cutL, hct]
        obtain ⟨_, c2, _⟩ := cutTo_bytes hct
        have : mayN (ndR bd) = false := mayN_shape (fun hh => by
          have := hh.2.2.1
          rw [ndR, hc, hL] at this
          simp only at this
          omega)
        rw [this]
        rfl
    have h2 : rdN bd = false := by
      unfold rdN
      cases hct : cutTo (bd.drop 3) (manyN bd) with
      | none => simp
      | some p =>
        obtain ⟨l, r⟩ := p
        have hL : cutL (bd.drop 3) (manyN bd) = l := by simp [cutL, hct]
        obtain ⟨_, c2, _⟩ := cutTo_bytes hct
        have : mayN (ndN bd) = false := mayN_shape (fun hh => by
          have := hh.2.2.1
          rw [ndN, hL] at this
          simp only at this
          omega)
        rw [this]
        simp
    exact ⟨by rw [h1, h2], fun h => by rw [h1] at h; cases h⟩
end Go.Proofs.Ytpcajbcdahcehaa

/-
  The document's answers of layer 6: Read. Conditions: those that each lemma states.
-/
namespace Go.Proofs.Ytpcajbcdahcehaa
open Go.RowKit

theorem reN_ref {b : List UInt8} (h : oe b = 0) : reN b = (if rdR (ob b) then 0 else 8) ∧ reV b = (if rdR (ob b) then ndR (ob b) else zeroN) := by
  obtain ⟨_, _, _, h124⟩ := oe_zeroN h
  obtain ⟨e1, e2⟩ := rdR_eq h124
  cases e : rdR (ob b) with
  | true => exact ⟨(reN_good h (by rw [← e1, e])).1, by rw [(reN_good h (by rw [← e1, e])).2, ← e2 e]; rfl⟩
  | false => exact ⟨(reN_bad h (by rw [← e1, e])).1, (reN_bad h (by rw [← e1, e])).2⟩

set_option maxRecDepth 100000 in
set_option maxHeartbeats 8000000 in
theorem refReadN_any (v : Value) (b : List UInt8) (w : World) (h : rBy (Old w) w [v] b) :
    Calls Try.prog 17 #[v] w fun e w' => ∃ u, e = .returned (.tuple #[u, .int .i64 (reN b)]) ∧ Nod (New w.heap.size w') w' u (reV b) ∧ Below w.heap.size w w' := by
  obtain ⟨A, c, rfl, l1, m1, hy⟩ := rBy_byt (B := w.heap.size) (fun p hp => hp) h
  obtain ⟨n, hn⟩ : ∃ n, b.length = n := ⟨_, rfl⟩
  rw [hn] at l1 ⊢
  replace hn := Lib.hid hn
  obtain ⟨w0, hw0, b0, hs0, hB0⟩ := box_pair' w (.int .i64 0) (.slice none 0 0) 26
  have lt0 : w.heap.size < w0.heap.size := by omega
  have HB0 := Lib.hid hB0
  have HY := Lib.hid ((hy.below hB0).more hB0.size)
  have hzero : Hid (∀ (er : Int) (W : World), reN b = er ∧ reV b = zeroN → Below w0.heap.size w0 W → ∃ W9, (W.setCell ⟨w.heap.size, 0, none⟩ (.int .i64 0)).setCell ⟨w.heap.size, 1, none⟩ (.slice none 0 0) = W9 ∧ W9.cell? ⟨w.heap.size, 0, none⟩ = some (.int .i64 0) ∧ W9.cell? ⟨w.heap.size, 1, none⟩ = some (.slice none 0 0) ∧ (∀ o, W.frozen? ⟨w.heap.size, o, none⟩ = false) ∧ W.cell? ⟨w.heap.size, 0, none⟩ = some (.int .i64 0) ∧ W.cell? ⟨w.heap.size, 1, none⟩ = some (.slice none 0 0) ∧
      (∃ u, Ending.returned (.tuple #[.agg #[.int .i64 0, .slice none 0 0], .int .i64 er]) = .returned (.tuple #[u, .int .i64 (reN b)]) ∧ Nod (New w.heap.size W9) W9 u (reV b) ∧ Below w.heap.size w W9)) := Lib.hid fun er W hre hW => by
    have bW := (hW.block w.heap.size lt0).trans b0
    obtain ⟨W9, e9, g9, gr9, gs9⟩ := put_two (u := .int .i64 0) (v := .slice none 0 0) bW
    obtain ⟨k0, k1, kf, _⟩ := two_cells g9
    obtain ⟨y0, y1, yf, _⟩ := two_cells bW
    have hBW := HB0.out.trans (hW.mono HB0.out.size)
    exact ⟨W9, e9, k0, k1, yf, y0, y1, _, by rw [hre.1], by rw [hre.2]; exact nod_zero _ _, hBW.grown gr9 hBW.size (fun q e => by cases e; omega)⟩
  replace b0 := Lib.hid b0
  replace hw0 := Lib.hid hw0
  clear hB0 hs0 h hy
  go_enter Try.func17, Try.ntmps17
  go_upto_region 1 with fail
  rw [hw0.out]
  clear hw0
  go_wp2_with fail
  with_reducible refine (openRef_any A n c b hn l1 m1 _ HY.out).mono ?_
  rintro e1 w1 ⟨v1, rfl, ho1, hb1⟩
  have B1 := Lib.hid hb1
  have hBW1 := Lib.hid (show w.heap.size ≤ w1.heap.size from Nat.le_trans (Nat.le_of_lt lt0) hb1.size)
  obtain ⟨er, hoe⟩ : ∃ er, oe b = er := ⟨_, rfl⟩
  rw [hoe]
  by_cases h0 : er = 0
  case neg =>
    have t0 : (er != 0) = true := by simpa using h0
    obtain ⟨W9, e9, k0, k1, yf, y0, y1, hfin⟩ := hzero.out er w1 (by rw [← hoe]; exact reN_open (by rw [hoe]; exact h0)) B1.out
    replace hfin := Lib.hid hfin
    replace h0 := Lib.hid h0
    replace hoe := Lib.hid hoe
    clear ho1 hb1
    go_wp2_with fail
    exact bodyPost_ret (v := .tuple #[.agg #[.int .i64 0, .slice none 0 0], .int .i64 er]) (by simp [results, Try.results17, go_sem, k0, k1]) rfl hfin.out
  subst h0
  obtain ⟨hlen, hfits, hob, hl124⟩ := oe_zeroN hoe
  have hre := reN_ref hoe
  have hr1 := own_by ho1
  obtain ⟨bd, hbd⟩ : ∃ bd, ob b = bd := ⟨_, rfl⟩
  rw [hbd] at hr1 hre hl124
  have HZ : Hid (∀ W, rdR bd = false → Below w0.heap.size w0 W → _) := Lib.hid (fun W h hW => hzero.out 8 W (by rw [hre.1, hre.2, h]; exact ⟨rfl, rfl⟩) hW)
  have HG : Hid (rdR bd = true → reN b = 0 ∧ reV b = ndR bd) := Lib.hid (fun h => by rw [hre.1, hre.2, h]; exact ⟨rfl, rfl⟩)
  replace hbd := Lib.hid hbd
  obtain ⟨Q, cq, rfl, n1, n2, hcell⟩ := rBy_open hr1
  rw [hl124] at n1 hcell hr1 ⊢
  obtain ⟨ad, rfl, hn0, hc0⟩ := hcell 0 (by omega)
  obtain ⟨_, e, hn1', hc1⟩ := hcell 1 (by omega)
  cases e
  obtain ⟨_, e, hn2', hc2⟩ := hcell 2 (by omega)
  cases e
  have z0 : w1.cell? ad = some (.int .u8 ((bd[0]?.getD 0).toNat : Int)) := by simpa [Addr.add] using hc0
  have z1 : w1.cell? ⟨ad.block, ad.off + 1, none⟩ = some (.int .u8 ((bd[1]?.getD 0).toNat : Int)) := by simpa [Addr.add] using hc1
  have z2 : w1.cell? ⟨ad.block, ad.off + 2, none⟩ = some (.int .u8 ((bd[2]?.getD 0).toNat : Int)) := by simpa [Addr.add] using hc2
  have ltb : ad.block < w1.heap.size := World.block_lt_of_cell? _ _ z0
  have hbody := Lib.hid (stab_by.drop hr1)
  have hrest := rBy_rest hbody.out 3 (by omega)
  have had3 : ad.add 3 = ⟨ad.block, ad.off + 3, none⟩ := by simp [Addr.add]
  rw [had3] at hrest
  replace hrest : Hid (rBy (Old w1) w1 [.slice (some ⟨ad.block, ad.off + 3, none⟩) 121 (cq - 3)] (bd.drop 3)) := Lib.hid hrest
  have hl := Lib.hid hl124
  replace hoe := Lib.hid hoe
  clear hre hfits hob hlen hc0 hc1 hc2 hn0 hn1' hn2' ho1 hb1 hcell hl124 hzero hr1 z0
  have hrd : Hid (rdR bd = ((cutTo (bd.drop 3) (capN bd)).isSome && (mayN (ndR bd) && samB bd (toldN (ndR bd))))) := Lib.hid rfl
  obtain ⟨lv, hlv⟩ : ∃ lv, lvlN bd = lv := ⟨_, rfl⟩
  have hlin := lvlN_in bd
  rw [hlv] at hlin
  have z1' : w1.cell? ⟨ad.block, ad.off + 1, none⟩ = some (.int .u8 lv) := by rw [← hlv]; exact z1
  have hlw : IntKind.i64.wrap lv = lv := IntWalk.i64_in _ ⟨hlin.1, hlin.2⟩
  obtain ⟨mn, hmn⟩ : ∃ m, manyN bd = m := ⟨_, rfl⟩
  have hmlt := manyN_lt bd
  rw [hmn] at hmlt
  have hcap := Lib.hid (show capN bd = min mn 6 by rw [← hmn]; rfl)
  have z2' : w1.cell? ⟨ad.block, ad.off + 2, none⟩ = some (.int .u8 (mn : Int)) := by rw [← hmn]; exact z2
  have hwm : IntKind.i64.wrap (mn : Int) = (mn : Int) := IntWalk.i64_in _ (by omega)
  replace hmn := Lib.hid hmn
  replace hlv := Lib.hid hlv
  replace hlin := Lib.hid hlin
  obtain ⟨w2, hw2, g2, hs2, hB2⟩ := box_pair' w1 (.int .i64 lv) (.slice none 0 0) 26
  obtain ⟨e20, e21, e22, lt2⟩ := two_cells g2
  obtain ⟨w3, hw3, g3, gr3, gs3⟩ := put_snd (u := .slice none 0 0) g2
  have hB3 := Lib.hid (hB2.grown gr3 hB2.size (fun q e => by cases e; omega))
  have s23 := Lib.hid gs3
  replace g3 := Lib.hid g3
  replace hs2 := Lib.hid hs2
  have c3 : ¬ cq = 3 := by omega
  have c4 : (3 : Int) ≤ cq := by omega
  clear z1 z2 gr3 gs3
  go_upto_region 5 with fail
  clear hw2 hw3 e20 e21 e22 z1'
  go_wp2_with fail
  go_loopw [7, 8] (fun q i wr => ∃ (k : Nat) (l : List It) (r : List UInt8) (A1 : Option Addr) (c1 : Nat), k ≤ min mn 6 ∧ i = .int .i64 k ∧ l.length = k ∧ cutTo (bd.drop 3) k = some (l, r) ∧ rBy (Old w1) w1 [q] r ∧ wr.heap[w1.heap.size]? = some (.cells #[.int .i64 lv, .slice A1 k c1] 26 (0, 0)) ∧ RowOf rIt 5 52 w3.heap.size wr A1 c1 l ∧ Below w1.heap.size w1 wr ∧ w3.heap.size ≤ wr.heap.size) (fun _ i _ => 7 - (intOf i).toNat)
  case atStart => exact ⟨0, [], bd.drop 3, none, 0, by omega, rfl, rfl, rfl, hrest.out, g3.out, RowOf.nil _ _ _ _ _, hB3.out, Nat.le_refl _⟩
  case round =>
    obtain ⟨k, l, r, A1, c1, hk, rfl, hll, hcut, hq, hz, hrow, hb, hsz⟩ := hrel
    obtain ⟨r2, r3, r4, r5⟩ := two_cells hz
    have y2 := (hb.cell (p := ⟨ad.block, ad.off + 2, none⟩) ltb).trans z2'
    replace hrow := Lib.hid hrow
    replace hcut := Lib.hid hcut
    replace hll := Lib.hid hll
    have hz' := Lib.hid hz
    replace hb := Lib.hid hb
    obtain ⟨R0, cr, rfl, n3, n4, _⟩ := id (rBy_open hq)
    obtain ⟨nq, hnq⟩ : ∃ n, r.length = n := ⟨_, rfl⟩
    rw [hnq] at n3 hq ⊢
    replace hnq := Lib.hid hnq
    replace hq := Lib.hid hq
    have hqr := Lib.hid (stab_by.old hq.out hb.out)
    have BR := Lib.hid (B1.out.trans (hb.out.mono B1.out.size))
    clear hz
    by_cases hlt : k < mn ∧ k ≤ 5
    case neg =>
      have hcapk : capN bd = k := by rw [hcap.out]; omega
      by_cases hlt1 : k < mn
      · have i1 : (k : Int) < mn := by omega
        have i2 : ¬ (k : Int) ≤ 5 := by omega
        have hL := Lib.hid (show cutL (bd.drop 3) (capN bd) = l by rw [hcapk]; simp [cutL, hcut.out])
        have hsome := Lib.hid (show (cutTo (bd.drop 3) (capN bd)).isSome = true by rw [hcapk, hcut.out]; rfl)
        have hnd := Lib.hid (show ndR bd = (lv, l) by rw [ndR, hL.out, hlv.out])
        have hN0 : Nod (New w3.heap.size wr) wr (.agg #[.int .i64 lv, .slice A1 k c1]) (lv, l) := ⟨_, rfl, hlin.out, by
          have h1 := hrow.out.rel stab_it
          rwa [hll.out] at h1⟩
        have HN0 := Lib.hid hN0
        replace hcapk := Lib.hid hcapk
        clear hN0
        go_wp2_with fail
        with_reducible refine (refMayN_any _ (lv, l) _ HN0.out.drop).mono ?_
        rintro e5 w5 ⟨rfl, hb5⟩
        have B5 := Lib.hid (BR.out.trans (hb5.mono BR.out.size))
        have HN5 := Lib.hid (HN0.out.new (Nat.le_refl _) hb5)
        have t2 := (hb5.cell (p := ⟨w1.heap.size, 0, none⟩) r5).trans r2
        have t3 := (hb5.cell (p := ⟨w1.heap.size, 1, none⟩) r5).trans r3
        have t5 : w1.heap.size < w5.heap.size := Nat.lt_of_lt_of_le r5 hb5.size
        have C5 := Lib.hid (hb.out.trans (hb5.mono hb.out.size))
        clear hb5 r2 r3 r4 y2
        rcases bool_two (mayN (lv, l)) with hm | hm
        · obtain ⟨W9, e9, k0, k1, yf, u0, u1, hfin⟩ := HZ.out w5 (by rw [hrd.out, hnd.out, hm]; simp) B5.out
          replace hfin := Lib.hid hfin
          rw [hm]
          replace hm := Lib.hid hm
          go_wp2_with fail
          exact bodyPost_ret (v := .tuple #[.agg #[.int .i64 0, .slice none 0 0], .int .i64 8]) (by simp [results, Try.results17, go_sem, k0, k1]) rfl hfin.out
        rw [hm]
        have hm' := Lib.hid hm
        clear hm
        go_wp2_with fail
        with_reducible refine (refTold_ok _ (lv, l) _ HN5.out.drop hm'.out).mono ?_
        rintro e6 w6 ⟨u6, rfl, hu6, hb6⟩
        obtain ⟨U, cu, rfl, g6, g6', hyu⟩ := rBy_byt (B := w6.heap.size) (fun p hp => hp.2.1) hu6
        obtain ⟨tl, htl⟩ : ∃ q, (toldN (lv, l)).length = q := ⟨_, rfl⟩
        rw [htl] at g6 ⊢
        replace htl := Lib.hid htl
        have B6 := Lib.hid (B5.out.trans (hb6.mono B5.out.size))
        have C6 := Lib.hid (C5.out.trans (hb6.mono C5.out.size))
        have HN6 := Lib.hid (HN5.out.new (Nat.le_refl _) hb6)
        have s2 := (hb6.cell (p := ⟨w1.heap.size, 0, none⟩) t5).trans t2
        have s3 := (hb6.cell (p := ⟨w1.heap.size, 1, none⟩) t5).trans t3
        have s5 : w1.heap.size < w6.heap.size := Nat.lt_of_lt_of_le t5 hb6.size
        have HYU := Lib.hid hyu
        have HYB : Hid (Byt w6 w6.heap.size (some ad) bd) := Lib.hid (by
          obtain ⟨_, _, e, _, _, h⟩ := rBy_byt (B := w6.heap.size) (fun p hp => hp) (stab_by.old hbody.out C6.out)
          rw [hl.out] at e
          cases e
          exact h)
        clear hu6 hb6 hyu t2 t3 t5
        go_wp2_with fail
        with_reducible refine (refSamN_any (some ad) U 124 cq tl cu bd (toldN (lv, l)) hl htl n1 n2 g6 g6' _ HYB.out HYU.out).mono ?_
        rintro e7 w7 ⟨rfl, hb7⟩
        have B7 := Lib.hid (B6.out.trans (hb7.mono B6.out.size))
        have HN7 := Lib.hid (HN6.out.new (Nat.le_refl _) hb7)
        have t2 := (hb7.cell (p := ⟨w1.heap.size, 0, none⟩) s5).trans s2
        have t3 := (hb7.cell (p := ⟨w1.heap.size, 1, none⟩) s5).trans s3
        clear hb7 s2 s3
        rcases bool_two (samB bd (toldN (lv, l))) with hz | hz
        · obtain ⟨W9, e9, k0, k1, yf, u0, u1, hfin⟩ := HZ.out w7 (by rw [hrd.out, hnd.out, hz]; simp) B7.out
          replace hfin := Lib.hid hfin
          rw [hz]
          replace hz := Lib.hid hz
          go_wp2_with fail
          exact bodyPost_ret (v := .tuple #[.agg #[.int .i64 0, .slice none 0 0], .int .i64 8]) (by simp [results, Try.results17, go_sem, k0, k1]) rfl hfin.out
        · have hgood := Lib.hid (HG.out (by rw [hrd.out, hnd.out, hz, hm'.out, hsome.out]; rfl))
          have bW := (B7.out.block w.heap.size lt0).trans b0.out
          obtain ⟨W9, e9, g9, gr9, gs9⟩ := put_two (u := .int .i64 lv) (v := .slice A1 k c1) bW
          obtain ⟨k0, k1, kf, _⟩ := two_cells g9
          obtain ⟨u0, u1, yf, _⟩ := two_cells bW
          have hBW := HB0.out.trans (B7.out.mono HB0.out.size)
          have hlt3 : w.heap.size < w3.heap.size := Nat.lt_of_lt_of_le lt0 (Nat.le_trans B1.out.size hB3.out.size)
          have hfin : Hid (Nod (New w.heap.size W9) W9 (.agg #[.int .i64 lv, .slice A1 k c1]) (reV b) ∧ Below w.heap.size w W9) := Lib.hid ⟨by
            rw [hgood.out.2, hnd.out]
            exact (HN7.out.grown gr9 (fun q e => by cases e; exact hlt3)).map fun p v hp hc => ⟨⟨Nat.le_trans (Nat.le_of_lt hlt3) hp.1, hp.2⟩, hc⟩, hBW.grown gr9 hBW.size (fun q e => by cases e; omega)⟩
          rw [hz]
          replace hz := Lib.hid hz
          replace bW := Lib.hid bW
          replace g9 := Lib.hid g9
          clear gr9
          go_wp2_with fail
          exact bodyPost_ret (v := .tuple #[.agg #[.int .i64 lv, .slice A1 k c1], .int .i64 0]) (by simp [results, Try.results17, go_sem, k0, k1]) rfl ⟨_, by rw [hgood.out.1], hfin.out.1, hfin.out.2⟩
      · have i1 : ¬ (k : Int) < mn := by omega
        have hL := Lib.hid (show cutL (bd.drop 3) (capN bd) = l by rw [hcapk]; simp [cutL, hcut.out])
        have hsome := Lib.hid (show (cutTo (bd.drop 3) (capN bd)).isSome = true by rw [hcapk, hcut.out]; rfl)
        have hnd := Lib.hid (show ndR bd = (lv, l) by rw [ndR, hL.out, hlv.out])
        have hN0 : Nod (New w3.heap.size wr) wr (.agg #[.int .i64 lv, .slice A1 k c1]) (lv, l) := ⟨_, rfl, hlin.out, by
          have h1 := hrow.out.rel stab_it
          rwa [hll.out] at h1⟩
        have HN0 := Lib.hid hN0
        replace hcapk := Lib.hid hcapk
        clear hN0
        go_wp2_with fail
        with_reducible refine (refMayN_any _ (lv, l) _ HN0.out.drop).mono ?_
        rintro e5 w5 ⟨rfl, hb5⟩
        have B5 := Lib.hid (BR.out.trans (hb5.mono BR.out.size))
        have HN5 := Lib.hid (HN0.out.new (Nat.le_refl _) hb5)
        have t2 := (hb5.cell (p := ⟨w1.heap.size, 0, none⟩) r5).trans r2
        have t3 := (hb5.cell (p := ⟨w1.heap.size, 1, none⟩) r5).trans r3
        have t5 : w1.heap.size < w5.heap.size := Nat.lt_of_lt_of_le r5 hb5.size
        have C5 := Lib.hid (hb.out.trans (hb5.mono hb.out.size))
        clear hb5 r2 r3 r4 y2
        rcases bool_two (mayN (lv, l)) with hm | hm
        · obtain ⟨W9, e9, k0, k1, yf, u0, u1, hfin⟩ := HZ.out w5 (by rw [hrd.out, hnd.out, hm]; simp) B5.out
          replace hfin := Lib.hid hfin
          rw [hm]
          replace hm := Lib.hid hm
          go_wp2_with fail
          exact bodyPost_ret (v := .tuple #[.agg #[.int .i64 0, .slice none 0 0], .int .i64 8]) (by simp [results, Try.results17, go_sem, k0, k1]) rfl hfin.out
        rw [hm]
        have hm' := Lib.hid hm
        clear hm
        go_wp2_with fail
        with_reducible refine (refTold_ok _ (lv, l) _ HN5.out.drop hm'.out).mono ?_
        rintro e6 w6 ⟨u6, rfl, hu6, hb6⟩
        obtain ⟨U, cu, rfl, g6, g6', hyu⟩ := rBy_byt (B := w6.heap.size) (fun p hp => hp.2.1) hu6
        obtain ⟨tl, htl⟩ : ∃ q, (toldN (lv, l)).length = q := ⟨_, rfl⟩
        rw [htl] at g6 ⊢
        replace htl := Lib.hid htl
        have B6 := Lib.hid (B5.out.trans (hb6.mono B5.out.size))
        have C6 := Lib.hid (C5.out.trans (hb6.mono C5.out.size))
        have HN6 := Lib.hid (HN5.out.new (Nat.le_refl _) hb6)
        have s2 := (hb6.cell (p := ⟨w1.heap.size, 0, none⟩) t5).trans t2
        have s3 := (hb6.cell (p := ⟨w1.heap.size, 1, none⟩) t5).trans t3
        have s5 : w1.heap.size < w6.heap.size := Nat.lt_of_lt_of_le t5 hb6.size
        have HYU := Lib.hid hyu
        have HYB : Hid (Byt w6 w6.heap.size (some ad) bd) := Lib.hid (by
          obtain ⟨_, _, e, _, _, h⟩ := rBy_byt (B := w6.heap.size) (fun p hp => hp) (stab_by.old hbody.out C6.out)
          rw [hl.out] at e
          cases e
          exact h)
        clear hu6 hb6 hyu t2 t3 t5
        go_wp2_with fail
        with_reducible refine (refSamN_any (some ad) U 124 cq tl cu bd (toldN (lv, l)) hl htl n1 n2 g6 g6' _ HYB.out HYU.out).mono ?_
        rintro e7 w7 ⟨rfl, hb7⟩
        have B7 := Lib.hid (B6.out.trans (hb7.mono B6.out.size))
        have HN7 := Lib.hid (HN6.out.new (Nat.le_refl _) hb7)
        have t2 := (hb7.cell (p := ⟨w1.heap.size, 0, none⟩) s5).trans s2
        have t3 := (hb7.cell (p := ⟨w1.heap.size, 1, none⟩) s5).trans s3
        clear hb7 s2 s3
        rcases bool_two (samB bd (toldN (lv, l))) with hz | hz
        · obtain ⟨W9, e9, k0, k1, yf, u0, u1, hfin⟩ := HZ.out w7 (by rw [hrd.out, hnd.out, hz]; simp) B7.out
          replace hfin := Lib.hid hfin
          rw [hz]
          replace hz := Lib.hid hz
          go_wp2_with fail
          exact bodyPost_ret (v := .tuple #[.agg #[.int .i64 0, .slice none 0 0], .int .i64 8]) (by simp [results, Try.results17, go_sem, k0, k1]) rfl hfin.out
        · have hgood := Lib.hid (HG.out (by rw [hrd.out, hnd.out, hz, hm'.out, hsome.out]; rfl))
          have bW := (B7.out.block w.heap.size lt0).trans b0.out
          obtain ⟨W9, e9, g9, gr9, gs9⟩ := put_two (u := .int .i64 lv) (v := .slice A1 k c1) bW
          obtain ⟨k0, k1, kf, _⟩ := two_cells g9
          obtain ⟨u0, u1, yf, _⟩ := two_cells bW
          have hBW := HB0.out.trans (B7.out.mono HB0.out.size)
          have hlt3 : w.heap.size < w3.heap.size := Nat.lt_of_lt_of_le lt0 (Nat.le_trans B1.out.size hB3.out.size)
          have hfin : Hid (Nod (New w.heap.size W9) W9 (.agg #[.int .i64 lv, .slice A1 k c1]) (reV b) ∧ Below w.heap.size w W9) := Lib.hid ⟨by
            rw [hgood.out.2, hnd.out]
            exact (HN7.out.grown gr9 (fun q e => by cases e; exact hlt3)).map fun p v hp hc => ⟨⟨Nat.le_trans (Nat.le_of_lt hlt3) hp.1, hp.2⟩, hc⟩, hBW.grown gr9 hBW.size (fun q e => by cases e; omega)⟩
          rw [hz]
          replace hz := Lib.hid hz
          replace bW := Lib.hid bW
          replace g9 := Lib.hid g9
          clear gr9
          go_wp2_with fail
          exact bodyPost_ret (v := .tuple #[.agg #[.int .i64 lv, .slice A1 k c1], .int .i64 0]) (by simp [results, Try.results17, go_sem, k0, k1]) rfl ⟨_, by rw [hgood.out.1], hfin.out.1, hfin.out.2⟩
    obtain ⟨hlt1, hlt2⟩ := hlt
    have i1 : (k : Int) < mn := by omega
    have i2 : (k : Int) ≤ 5 := by omega
    go_wp2_with fail
    with_reducible refine (refReadI_any _ r _ hqr.out).mono ?_
    rintro e3 w4 ⟨u3, rfl, hu3, hb3⟩
    obtain ⟨D, dc, rfl, hin, _, _, hby⟩ := id hu3.open
    obtain ⟨w5, hw5, s0, s1, s2, s3, s4, hs4, hb4, b4⟩ := box_five w4 (.int .u8 ((itR r).1.1.toNat : Int)) (.int .u32 (itR r).1.2.1) (.int .u32 (itR r).1.2.2) (.int .i64 (itR r).2.1) (.slice D (itR r).2.2.length dc) 52
    have C4 := Lib.hid (hb3.trans (hb4.mono hb3.size))
    have B4 := Lib.hid (hb.out.trans (C4.out.mono hb.out.size))
    have hI4 := Lib.hid (hu3.new (Nat.le_refl _) hb4)
    obtain ⟨x, hx⟩ : ∃ x, itR r = x := ⟨_, rfl⟩
    rw [hx] at hin s0 s1 s2 s3 s4 b4 hI4 hw5 ⊢
    replace hs4 := Lib.hid hs4
    replace hx := Lib.hid hx
    have x3 := (C4.out.cell (p := ⟨w1.heap.size, 1, none⟩) r5).trans r3
    clear hb3 hb4 hu3 hby r2 r3 r4
    unfold itV at *
    go_upto_region 10 with fail
    clear hw5
    rcases bool_ways (okR r) with hok | hok
    · have hE := Lib.hid (show itE r = 8 by simp [itE, hok])
      have hno := Lib.hid (cutTo_none (cutTo_no hcut.out hok) (show k + 1 ≤ capN bd by rw [hcap.out]; omega))
      obtain ⟨W9, e9, k0, k1, yf, u0, u1, hfin⟩ := HZ.out w5 (by rw [hrd.out, hno.out]; rfl) (B1.out.trans (B4.out.mono B1.out.size))
      replace hfin := Lib.hid hfin
      rw [hE.out]
      replace hok := Lib.hid hok
      go_wp2_with fail
      exact bodyPost_ret (v := .tuple #[.agg #[.int .i64 0, .slice none 0 0], .int .i64 8]) (by simp [results, Try.results17, go_sem, k0, k1]) rfl hfin.out
    have hE := Lib.hid (show itE r = 0 by simp [itE, hok])
    obtain ⟨m, hm1, hm2, hm3, hm4⟩ := read_itB hok
    have hyes := cutTo_yes hcut.out hok
    rw [hm1, show ((m : Int)).toNat = m by omega, hx.out] at hyes
    have hrl : 12 ≤ nq := by have := okC_yes (okR_fields hok).1; have := hnq.out; omega
    rw [hnq.out] at hm2
    rw [hE.out, hm1]
    replace hyes := Lib.hid hyes
    replace hok := Lib.hid hok
    clear hm1 hm3 hm4
    obtain ⟨w6, hw6, _, _, _, _, _, hs5, hb5, b5⟩ := box_five w5 (.int .u8 (x.1.1.toNat : Int)) (.int .u32 x.1.2.1) (.int .u32 x.1.2.2) (.int .i64 x.2.1) (.slice D x.2.2.length dc) 52
    have C5 := C4.out.trans (hb5.mono C4.out.size)
    have hI5 := hI4.out.new (Nat.le_refl _) hb5
    have hx5 : rBy (NewBut w3.heap.size A1 w6) w6 [.slice D x.2.2.length dc] x.2.2 := by
      obtain ⟨d, e, _, hd⟩ := hI5
      have ed : d = .slice D x.2.2.length dc := by injection e with e; simpa using e.symm
      subst ed
      exact stab_by _ _ _ _ _ _ (fun p v hp hc => ⟨hrow.out.but (Nat.le_refl _) hsz hp, hc⟩) hd
    have row5 := RowOf.below stab_it hrow.out C5
    obtain ⟨A2, c2, w7, hr2, row7, _, ba7⟩ := its_push row5 w5.heap.size x _ 1 k hll.out b5 (by omega) (Nat.le_trans hsz C5.size) hin hx5
    have s23' := s23.out
    have lt12 : w1.heap.size < w3.heap.size := by omega
    have g7 := (ba7.block w1.heap.size lt12).trans ((C5.block w1.heap.size r5).trans hz'.out)
    obtain ⟨w8, hw8, g8, gr8, gs8⟩ := put_snd (u := .slice A2 (k + 1) c2) g7
    have row8 := Lib.hid (RowOf.grown stab_it row7 gr8 (fun q e => by cases e; omega))
    have hb7 : Below w1.heap.size w1 w7 := (hb.out.trans (C5.mono hb.out.size)).trans (ba7.mono (Nat.le_of_lt lt12))
    have hb8 := Lib.hid (hb7.grown gr8 hb7.size (fun q e => by cases e; omega))
    have sz8 := Lib.hid (show w3.heap.size ≤ w8.heap.size by rw [gs8]; exact Nat.le_trans (Nat.le_trans hsz C5.size) ba7.size)
    obtain ⟨y5, y6, y7, y8⟩ := two_cells g7
    have H2 := Lib.hid hr2
    have hll2 := Lib.hid (show (l ++ [x]).length = k + 1 by simp [hll.out])
    obtain ⟨qa, rfl⟩ : ∃ qa, R0 = some qa := by
      obtain ⟨_, _, e, _, _, h4⟩ := rBy_open hq.out
      cases e
      obtain ⟨qa, e, _⟩ := h4 0 (by have := hnq.out; omega)
      exact ⟨qa, e⟩
    have hrest2 := Lib.hid (rBy_rest hq.out m (by rw [hnq.out]; exact hm2))
    have hnil : Hid (m = nq → ∀ ok, rBy ok w1 [.slice (some qa) 0 0] (r.drop m)) := Lib.hid fun e ok => by
      rw [List.drop_of_length_le (by rw [hnq.out]; omega)]
      exact rBy_part0 _ _ _
    replace hs5 := Lib.hid hs5
    replace b5 := Lib.hid b5
    replace hI5 := Lib.hid hI5
    replace g8 := Lib.hid g8
    replace g7 := Lib.hid g7
    clear hr2 row7 gr8 ba7 hb7 gs8 hx5 row5 C5 hb5 hin s23'
    have d1 : (0 : Int) ≤ (m : Int) := by omega
    have d2 : (m : Int) ≤ cr := by omega
    have d3 : (m : Int) ≤ nq := by omega
    by_cases hmc : m = cr
    · go_wp2_with (at_builtin; refine wpList_append_run rfl _ _ _ rfl rfl rfl H2.out ?_; clear H2)
      go_roundw
      case rel => exact ⟨k + 1, l ++ [x], r.drop m, A2, c2, by omega, by go_num, hll2.out, hyes.out, hnil.out (by omega) _, g8.out, row8.out, hb8.out, sz8.out⟩
      case measure => simp [intOf]; omega
    · go_wp2_with (at_builtin; refine wpList_append_run rfl _ _ _ rfl rfl rfl H2.out ?_; clear H2)
      go_roundw
      case rel => exact ⟨k + 1, l ++ [x], r.drop m, A2, c2, by omega, by go_num, hll2.out, hyes.out, hrest2.out, g8.out, row8.out, hb8.out, sz8.out⟩
      case measure => simp [intOf]; omega
end Go.Proofs.Ytpcajbcdahcehaa

/-
  The document's answers of layers 5, 6: SameItems, Same, Place. Conditions: those that each lemma states.
-/
namespace Go.Proofs.Ytpcajbcdahcehaa
open Go.RowKit

set_option maxRecDepth 100000 in
set_option maxHeartbeats 4000000 in
theorem refSameIs_any (v u : Value) (xs ys : List It) (w : World) (hv : rIts (Old w) w [v] xs) (hu : rIts (Old w) w [u] ys) :
    Calls Try.prog 40 #[v, u] w fun e w' => e = .returned (.bool (sameIs xs ys)) ∧ Below w.heap.size w w' := by
  obtain ⟨A, a, rfl, la, ma⟩ := its_open hv
  obtain ⟨B, b, rfl, lb, mb⟩ := its_open hu
  have HA := Lib.hid hv
  have HB := Lib.hid hu
  clear hv hu
  have hdef : Hid (sameIs xs ys = decide (xs = ys)) := Lib.hid rfl
  generalize sameIs xs ys = res at hdef ⊢
  obtain ⟨n, hn⟩ : ∃ n, xs.length = n := ⟨_, rfl⟩
  obtain ⟨m, hm⟩ : ∃ m, ys.length = m := ⟨_, rfl⟩
  rw [hn] at la HA ⊢
  rw [hm] at lb HB ⊢
  replace hn := Lib.hid hn
  replace hm := Lib.hid hm
  by_cases h1 : n = m
  · subst h1
    go_enter Try.func40, Try.ntmps40
    go_wp2_with fail
    go_loopw [5] (fun i wr => ∃ k : Nat, k ≤ n ∧ i = .int .i64 k ∧ xs.take k = ys.take k ∧ Below w.heap.size w wr) (fun i _ => n - (intOf i).toNat)
    case atStart => exact ⟨0, by omega, rfl, rfl, Below.refl _ _⟩
    case round =>
      obtain ⟨k, hk, rfl, ha, hb⟩ := hrel
      replace ha := Lib.hid ha
      replace hb := Lib.hid hb
      by_cases hlt : k < n
      · obtain ⟨x, hx⟩ : ∃ x, xs[k]? = some x := ⟨_, List.getElem?_eq_getElem (by rw [hn.out]; exact hlt)⟩
        obtain ⟨y, hy⟩ : ∃ y, ys[k]? = some y := ⟨_, List.getElem?_eq_getElem (by rw [hm.out]; exact hlt)⟩
        obtain ⟨ad, E, ce, rfl, _, _, _, FX⟩ := its_old HA.out hx
        obtain ⟨bd, E', ce', rfl, _, _, _, FY⟩ := its_old HB.out hy
        replace hx := Lib.hid hx
        replace hy := Lib.hid hy
        have FX' := Lib.hid (fun W (hW : Below wr.heap.size wr W) => FX W (hb.out.trans (hW.mono hb.out.size)))
        have FY' := Lib.hid (fun W (hW : Below wr.heap.size wr W) => FY W (hb.out.trans (hW.mono hb.out.size)))
        have i1 : (0 : Int) ≤ (k : Int) := by omega
        have i2 : (k : Int) < (n : Int) := by omega
        obtain ⟨s, hs⟩ : ∃ s, sameI x y = s := ⟨_, rfl⟩
        have hs' := Lib.hid hs
        clear hs FX FY
        unfold itV at *
        go_wp2_with fail
        refine wp_region_fx (by kernel_rfl) (fun W => Below wr.heap.size wr W) (fun _ => none) (fun i => match i with
          | 8 => some (.bool s)
          | _ => none) (by kernel_rfl) (Below.refl _ _).drew (fun w w' h hb => h.trans (hb.mono h.size)) (fun j φ x W W' hp => by cases hp) ?_
        repeat (first
          | (refine wpAs_skip rfl ?_; simp only [Act.put, List.setIfInBounds_toArray, List.set_cons_zero, List.set_cons_succ])
          | (refine wpAs_pure (v := ?_) rfl rfl ?_ ?_; rotate_left; (intro W hC hE; clear hE; (obtain ⟨⟨z0, z1, z2, z3, z4⟩, _⟩ := FX'.out W hC; obtain ⟨⟨y0, y1, y2, y3, y4⟩, _⟩ := FY'.out W hC); clear hC; go_simp; done); simp only [Act.put, List.setIfInBounds_toArray, List.set_cons_zero, List.set_cons_succ])
          | (refine wpAs_pure (v := ?_) rfl rfl ?_ ?_; rotate_left; (intro W hC hE; clear hE; (obtain ⟨⟨z0, z1, z2, z3, z4⟩, _⟩ := FX'.out W hC; obtain ⟨⟨y0, y1, y2, y3, y4⟩, _⟩ := FY'.out W hC); clear hC; go_simp; with_reducible rfl); simp only [Act.put, List.setIfInBounds_toArray, List.set_cons_zero, List.set_cons_succ]))
        refine wpAs_fixed rfl rfl rfl ?_ ?_
        · intro W hC hE
          refine does_enter (f := 64) (args := #[.agg #[.int .u8 (x.1.1.toNat : Int), .int .u32 x.1.2.1, .int .u32 x.1.2.2, .int .i64 x.2.1, .slice E x.2.2.length ce], .agg #[.int .u8 (y.1.1.toNat : Int), .int .u32 y.1.2.1, .int .u32 y.1.2.2, .int .i64 y.2.1, .slice E' y.2.2.length ce']]) ?_ ?_
          · go_simp
          · refine (refSameI_any _ _ x y W (FX'.out W hC).2 (FY'.out W hC).2).mono ?_
            (rintro e W' ⟨rfl, hg⟩; rw [hs'.out])
            exact ⟨_, rfl, rfl, hg⟩
        simp only [Act.put, List.setIfInBounds_toArray, List.set_cons_zero, List.set_cons_succ]
        repeat (first
          | (refine wpAs_skip rfl ?_; simp only [Act.put, List.setIfInBounds_toArray, List.set_cons_zero, List.set_cons_succ])
          | (refine wpAs_pure (v := ?_) rfl rfl ?_ ?_; rotate_left; (intro W hC hE; clear hE; skip; clear hC; go_simp; done); simp only [Act.put, List.setIfInBounds_toArray, List.set_cons_zero, List.set_cons_succ])
          | (refine wpAs_pure (v := ?_) rfl rfl ?_ ?_; rotate_left; (intro W hC hE; clear hE; skip; clear hC; go_simp; with_reducible rfl); simp only [Act.put, List.setIfInBounds_toArray, List.set_cons_zero, List.set_cons_succ]))
        refine wpAs_end fun W hC hE => ?_
        have BW := Lib.hid (hb.out.trans (hC.mono hb.out.size))
        clear hE hC
        cases s with
        | true =>
          have he := Lib.hid (sameI_eq hs'.out)
          go_wp2_with fail
          go_roundw
          case rel => exact ⟨k + 1, by omega, by go_num, take_eq_succ ha.out hx.out hy.out he.out, BW.out⟩
          case measure => simp [intOf]; omega
        | false =>
          have hne := Lib.hid (show res = false by rw [hdef.out]; simpa using ne_of_at hx.out hy.out (fun h => by have := hs'.out; rw [h, sameI_self] at this; cases this))
          go_wp2_with fail
          go_ret
          exact ⟨ret_bool hne.out.symm, BW.out⟩
      · have hge : n ≤ k := by omega
        have he : Hid (res = true) := Lib.hid (by
          have := ha.out
          rw [List.take_of_length_le (by rw [hn.out]; exact hge), List.take_of_length_le (by rw [hm.out]; exact hge)] at this
          rw [hdef.out]
          simpa using this)
        go_wp2_with fail
        go_ret
        exact ⟨ret_bool he.out.symm, hb.out⟩
  · have he : Hid (res = false) := Lib.hid (by
      rw [hdef.out]
      simp only [decide_eq_false_iff_not]
      intro e
      have := hn.out
      rw [e, hm.out] at this
      exact h1 this.symm)
    have h1' : ((n : Int) != m) = true := by simp; omega
    go_enter Try.func40, Try.ntmps40
    go_wp2_with fail
    go_ret
    exact ⟨ret_bool he.out.symm, Below.refl _ _⟩

set_option maxRecDepth 100000 in
set_option maxHeartbeats 2000000 in
theorem refSameN_any (v u : Value) (a b : Nd) (w : World) (hv : Nod (Old w) w v a) (hu : Nod (Old w) w u b) :
    Calls Try.prog 19 #[v, u] w fun e w' => e = .returned (.bool (sameN a b)) ∧ Below w.heap.size w w' := by
  obtain ⟨d, rfl, _, hd⟩ := hv
  obtain ⟨d', rfl, _, hd'⟩ := hu
  have hp := Lib.hid (sameN_parts a b)
  generalize sameN a b = res at hp ⊢
  obtain ⟨w1, hw1, b1, hs1, hB1⟩ := box_pair' w (.int .i64 a.1) d 26
  obtain ⟨w2, hw2, b2, hs2, hB2⟩ := box_pair' w1 (.int .i64 b.1) d' 26
  obtain ⟨f1, f2, _, lt1⟩ := two_cells ((hB2.block w.heap.size (by omega)).trans b1)
  obtain ⟨g1, g2, _, _⟩ := two_cells b2
  have hB0 := hB1.trans (hB2.mono hB1.size)
  have HD := Lib.hid (stab_its.old hd hB0)
  have HD' := Lib.hid (stab_its.old hd' hB0)
  obtain ⟨_, _, rfl, _⟩ := its_open hd
  obtain ⟨_, _, rfl, _⟩ := its_open hd'
  replace hB0 := Lib.hid hB0
  replace hs1 := Lib.hid hs1
  replace hs2 := Lib.hid hs2
  replace b1 := Lib.hid b1
  replace b2 := Lib.hid b2
  clear hd hd' hB1 hB2
  by_cases h : a.1 = b.1
  · have h1 : (a.1 == b.1) = true := by simpa using h
    have hfin := Lib.hid (show sameIs a.2 b.2 = res by rw [hp.out]; simp [h])
    replace h := Lib.hid h
    go_enter Try.func19, Try.ntmps19
    go_upto_region 1 with fail
    clear hw1 hw2
    go_wp2_with fail
    with_reducible refine (refSameIs_any _ _ a.2 b.2 _ HD.out HD'.out).mono ?_
    rintro e3 w3 ⟨rfl, hb3⟩
    rw [hfin.out]
    have BF := Lib.hid (hB0.out.trans (hb3.mono hB0.out.size))
    clear hb3
    go_wp2_with fail
    go_ret
    exact ⟨rfl, BF.out⟩
  · have h1 : (a.1 == b.1) = false := by simpa using h
    have hfin := Lib.hid (show res = false by rw [hp.out]; simp [h])
    replace h := Lib.hid h
    go_enter Try.func19, Try.ntmps19
    go_upto_region 1 with fail
    clear hw1 hw2
    go_wp2_with fail
    go_ret
    exact ⟨ret_bool hfin.out.symm, hB0.out⟩

set_option maxRecDepth 100000 in
set_option maxHeartbeats 4000000 in
theorem refPlaceN_any (v : Value) (n : Nd) (key : Ky) (w : World) (h : Nod (Old w) w v n) :
    Calls Try.prog 18 #[v, kyV key] w fun e w' => e = .returned (.tuple #[.int .i64 (placeN n key : Nat), .bool (thereN n key)]) ∧ Below w.heap.size w w' := by
  obtain ⟨A, c, rfl, _, l1, m1, hA⟩ := h.open
  have HA := Lib.hid hA
  clear h hA
  have hout := Lib.hid (fun hh => thereN_out (n := n) (k := key) hh)
  obtain ⟨m, hm⟩ : ∃ m, n.2.length = m := ⟨_, rfl⟩
  obtain ⟨l, hl⟩ : ∃ l, n.1 = l := ⟨_, rfl⟩
  rw [hm] at l1 HA hout ⊢
  rw [hl]
  clear hl
  replace hm := Lib.hid hm
  obtain ⟨w1, hw1, b1, hs1, hB1⟩ := box_pair' w (.int .i64 l) (.slice A m c) 26
  obtain ⟨w0, hw0, g0, g1, g2, hs0, hB2, _⟩ := box_three w1 (.int .u8 (key.1.toNat : Int)) (.int .u32 key.2.1) (.int .u32 key.2.2) 30
  obtain ⟨_, f2', _, lt1⟩ := two_cells b1
  have f2 := (hB2.cell (p := ⟨w.heap.size, 1, none⟩) lt1).trans f2'
  have hB0 := Lib.hid (hB1.trans (hB2.mono hB1.size))
  have lt0 : w.heap.size < w0.heap.size := Nat.lt_of_lt_of_le lt1 hB2.size
  have ltk : w1.heap.size < w0.heap.size := by omega
  have hB := Lib.hid (fun wr (hb : Below w0.heap.size w0 wr) => hB0.out.trans (hb.mono hB0.out.size))
  clear hB1 hB2 b1 f2'
  replace hs1 := Lib.hid hs1
  replace hs0 := Lib.hid hs0
  have hgd := key_guard
  unfold kyV
  go_enter Try.func18, Try.ntmps18
  go_upto_region 1 with fail
  clear hw0 hw1
  go_wp2_with fail
  go_loopw [6, 7] (fun a i wr => ∃ k : Nat, k ≤ m ∧ i = .int .i64 k ∧ a = .int .i64 (cntK (n.2.take k) key : Nat) ∧ Below w0.heap.size w0 wr) (fun _ i _ => m - (intOf i).toNat)
  case atStart => exact ⟨0, by omega, rfl, rfl, Below.refl _ _⟩
  case round =>
    obtain ⟨k, hk, rfl, rfl, hb⟩ := hrel
    have hcle := cntK_take n.2 key k
    replace hb := Lib.hid hb
    have p2 := (hb.out.cell (p := ⟨w.heap.size, 1, none⟩) lt0).trans f2
    have y0 := (hb.out.cell (p := ⟨w1.heap.size, 0, none⟩) ltk).trans g0
    have y1 := (hb.out.cell (p := ⟨w1.heap.size, 1, none⟩) ltk).trans g1
    have y2 := (hb.out.cell (p := ⟨w1.heap.size, 2, none⟩) ltk).trans g2
    have BF := Lib.hid (hB.out _ hb.out)
    by_cases hlt : k < m
    case neg =>
      have hkm : Hid (n.2.take k = n.2) := Lib.hid (List.take_of_length_le (by rw [hm.out]; omega))
      have hat := Lib.hid (show cntK (n.2.take k) key = placeN n key by rw [hkm.out]; rfl)
      rw [hat.out] at hcle ⊢
      obtain ⟨p, hp⟩ : ∃ p, placeN n key = p := ⟨_, rfl⟩
      rw [hp] at hcle hout ⊢
      by_cases hpm : p < m
      · obtain ⟨x, hx⟩ : ∃ x, n.2[p]? = some x := ⟨_, List.getElem?_eq_getElem (by rw [hm.out]; exact hpm)⟩
        obtain ⟨ad, E, ce, rfl, _, _, _, FX⟩ := its_old HA.out hx
        obtain ⟨⟨z0, z1, z2, z3, z4⟩, _⟩ := FX wr BF.out
        have hth := Lib.hid (show decide (x.1 = key) = thereN n key from (thereN_at (by rw [hp]; exact hx)).symm)
        have he := key_eq x.1 key
        unfold kyV at he
        replace hp := Lib.hid hp
        replace hx := Lib.hid hx
        have i1 : (p : Int) < (m : Int) := by omega
        have i0 : (0 : Int) ≤ (p : Int) := by omega
        clear FX
        go_wp2_with fail
        go_quiet (fail)
        go_wp2_with fail
        go_ret2
        exact ⟨by rw [hp.out, hth.out]; rfl, below_drewN BF.out _⟩
      · have hth := Lib.hid (hout.out (by omega))
        have i1 : ¬ (p : Int) < (m : Int) := by omega
        replace hp := Lib.hid hp
        go_wp2_with fail
        go_quiet (fail)
        go_wp2_with fail
        go_ret2
        exact ⟨by rw [hp.out, hth.out]; rfl, below_drewN BF.out _⟩
    obtain ⟨x, hx⟩ : ∃ x, n.2[k]? = some x := ⟨_, List.getElem?_eq_getElem (by rw [hm.out]; exact hlt)⟩
    obtain ⟨ad, E, ce, rfl, q1, q2, hinx, FX⟩ := its_old HA.out hx
    have FX' := Lib.hid (fun W (hW : Below wr.heap.size wr W) => (FX W (BF.out.trans (hW.mono BF.out.size))).1)
    have HK : Hid (∀ W, Below wr.heap.size wr W → W.cell? ⟨w.heap.size, 1, none⟩ = some (.slice (some ad) m c) ∧ W.cell? ⟨w1.heap.size, 0, none⟩ = some (.int .u8 (key.1.toNat : Int)) ∧ W.cell? ⟨w1.heap.size, 1, none⟩ = some (.int .u32 key.2.1) ∧ W.cell? ⟨w1.heap.size, 2, none⟩ = some (.int .u32 key.2.2)) := Lib.hid fun W hW =>
      ⟨((hb.out.trans (hW.mono hb.out.size)).cell (p := ⟨w.heap.size, 1, none⟩) lt0).trans f2, ((hb.out.trans (hW.mono hb.out.size)).cell (p := ⟨w1.heap.size, 0, none⟩) ltk).trans g0, ((hb.out.trans (hW.mono hb.out.size)).cell (p := ⟨w1.heap.size, 1, none⟩) ltk).trans g1, ((hb.out.trans (hW.mono hb.out.size)).cell (p := ⟨w1.heap.size, 2, none⟩) ltk).trans g2⟩
    have hyes := Lib.hid (fun hh => cntK_yes (k := key) hx hh)
    have hno := Lib.hid (fun hh => cntK_no (k := key) hx hh)
    replace hx := Lib.hid hx
    clear FX hinx
    have i1 : (0 : Int) ≤ (k : Int) := by omega
    have i2 : (k : Int) < (m : Int) := by omega
    obtain ⟨s, hs⟩ : ∃ s, lessK x.1 key = s := ⟨_, rfl⟩
    rw [hs] at hyes hno
    replace hs := Lib.hid hs
    obtain ⟨q, hq⟩ : ∃ q, cntK (n.2.take k) key = q := ⟨_, rfl⟩
    rw [hq] at hyes hno hcle ⊢
    replace hq := Lib.hid hq
    go_wp2_with fail
    clear y0 y1 y2 p2
    refine wp_region_fx (by kernel_rfl) (fun W => Below wr.heap.size wr W) (fun _ => none) (fun i => match i with
      | 7 => some (.bool s)
      | _ => none) (by kernel_rfl) (Below.refl _ _).drew (fun w w' h hb => h.trans (hb.mono h.size)) (fun j φ x W W' hp => by cases hp) ?_
    repeat (first
      | (refine wpAs_skip rfl ?_; simp only [Act.put, List.setIfInBounds_toArray, List.set_cons_zero, List.set_cons_succ])
      | (refine wpAs_pure (v := ?_) rfl rfl ?_ ?_; rotate_left; (intro W hC hE; clear hE; (obtain ⟨z0, z1, z2, z3, z4⟩ := FX'.out W hC; obtain ⟨p2, y0, y1, y2⟩ := HK.out W hC); clear hC; go_simp; done); simp only [Act.put, List.setIfInBounds_toArray, List.set_cons_zero, List.set_cons_succ])
      | (refine wpAs_pure (v := ?_) rfl rfl ?_ ?_; rotate_left; (intro W hC hE; clear hE; (obtain ⟨z0, z1, z2, z3, z4⟩ := FX'.out W hC; obtain ⟨p2, y0, y1, y2⟩ := HK.out W hC); clear hC; go_simp; with_reducible rfl); simp only [Act.put, List.setIfInBounds_toArray, List.set_cons_zero, List.set_cons_succ]))
    refine wpAs_fixed rfl rfl rfl ?_ ?_
    · intro W hC hE
      refine does_enter (f := 39) (args := #[kyV x.1, kyV key]) ?_ ?_
      · go_simp
      · refine (refLess_any x.1 key W).mono ?_
        (rintro e W' ⟨rfl, hg⟩; rw [hs.out])
        exact ⟨_, rfl, rfl, hg⟩
    simp only [Act.put, List.setIfInBounds_toArray, List.set_cons_zero, List.set_cons_succ]
    refine wpAs_end fun W hC hE => ?_
    have B3 := Lib.hid (hb.out.trans (hC.mono hb.out.size))
    clear hE hC
    cases s with
    | true =>
      have hn := Lib.hid (hyes.out rfl)
      go_wp2_with fail
      go_roundw
      case rel => exact ⟨k + 1, by omega, by go_num, by rw [hn.out]; go_num, B3.out⟩
      case measure => simp [intOf]; omega
    | false =>
      have hn := Lib.hid (hno.out rfl)
      go_wp2_with fail
      go_roundw
      case rel => exact ⟨k + 1, by omega, by go_num, by rw [hn.out], B3.out⟩
      case measure => simp [intOf]; omega
end Go.Proofs.Ytpcajbcdahcehaa
