/-
  Lemmas on the program and on the document's answers, gathered: NdLeaf, NdPlace, NdSame, NdBack, NdGreat, Spoil05, NdBag. Conditions: those that each lemma states.
-/
import Derived.Test.YtpcajbcdahcehaaBnd2
import Derived.Laws.StructEq
import Derived.WalkLawsBesides
/-
  Layer 6's law helpers: leaf. Conditions: those that each lemma states.
-/
namespace Go.Proofs.Ytpcajbcdahcehaa
open Go.RowKit

def rU4 : Rel (List Int) := rSl 1 (rK .u32)
theorem stab_u4 : Stab rU4 := stab_sl (stab_k _)
theorem u4_at {ok : Addr → Prop} {w : World} {A : Option Addr} {n c k : Nat} {xs : List Int} {x : Int} (h : rU4 ok w [.slice A n c] xs) (hk : xs[k]? = some x) : ∃ ad, A = some ad ∧ ok (ad.add k) ∧ w.cell? (ad.add k) = some (.int .u32 x) ∧ InU x := by
  obtain ⟨_, _, e, _, _, h4⟩ := h
  cases e
  obtain ⟨ad, vs, rfl, _, q, r1, r2, r3⟩ := h4 k x hk
  subst r1
  have := q 0 _ rfl
  rw [Nat.mul_one, Nat.add_zero] at this
  simp [IntKind.min, IntKind.max, IntKind.signed, IntKind.bits] at r2 r3
  exact ⟨ad, rfl, this.1, this.2, r2, by omega⟩
def leafI (x : Int) : It := ((2, 0, x), 0, [])
def leafN (xs : List Int) : Nd := (0, xs.map leafI)
theorem leafI_in {x : Int} (h : InU x) : InI (leafI x) := ⟨⟨⟨by show (0 : Int) ≤ 0; omega, by show (0 : Int) < _; omega⟩, h⟩, ⟨by show _ ≤ (0 : Int); omega, by show (0 : Int) ≤ _; omega⟩⟩

set_option maxRecDepth 100000 in
set_option maxHeartbeats 4000000 in
theorem leaf_any (v : Value) (xs : List Int) (w : World) (hbig : xs.length ≤ 1000) (h : rU4 (Old w) w [v] xs) : Calls Try.prog 10 #[v] w fun e w' => ∃ u, e = .returned u ∧ Nod (New w.heap.size w') w' u (leafN xs) ∧ Below w.heap.size w w' := by
  obtain ⟨A, c, e, l1, m1, _⟩ := id h
  have e' : v = .slice A xs.length c := by simpa using e
  subst e'
  obtain ⟨n, hn⟩ : ∃ n, xs.length = n := ⟨_, rfl⟩
  rw [hn] at h l1 hbig ⊢
  have HA := Lib.hid h
  replace hn := Lib.hid hn
  clear h e
  obtain ⟨w2, hw2, f2, hs2, hB2⟩ := box_pair' w (.int .i64 0) (.slice none 0 0) 26
  obtain ⟨w3, hw3, g3, hs3, hB3⟩ := box_pair' w2 (.int .i64 0) (.slice none 0 0) 26
  have S5 : Hid (w.heap.size + 1 = w2.heap.size ∧ w2.heap.size + 1 = w3.heap.size) := Lib.hid ⟨by omega, by omega⟩
  have lt0 : w.heap.size < w2.heap.size := by omega
  have hB2' := Lib.hid hB2
  replace hs2 := Lib.hid hs2
  replace hs3 := Lib.hid hs3
  replace g3 := Lib.hid g3
  replace f2 := Lib.hid f2
  replace hw3 := Lib.hid hw3
  replace hw2 := Lib.hid hw2
  clear hB2
  go_enter Try.func10, Try.ntmps10
  go_upto_region 1 with fail
  rw [hw2.out]
  clear hw2
  go_upto_region 2 with fail
  rw [hw3.out]
  clear hw3
  go_wp2_with fail
  go_loopw [4] (fun i wr => ∃ k : Nat, k ≤ n ∧ i = .int .i64 k ∧ Below w2.heap.size w2 wr ∧ ∃ (A1 : Option Addr) (c1 : Nat), wr.heap[w2.heap.size]? = some (.cells #[.int .i64 0, .slice A1 k c1] 26 (0, 0)) ∧
      RowOf rIt 5 52 w3.heap.size wr A1 c1 ((xs.map leafI).take k)) (fun i _ => n - (intOf i).toNat)
  case atStart => exact ⟨0, by omega, rfl, hB3, none, 0, g3.out, RowOf.nil _ _ _ _ _⟩
  case round =>
    obtain ⟨k, hk, rfl, hb, A1, c1, hz, hrow⟩ := hrel
    obtain ⟨r2, r3, r4, r5⟩ := two_cells hz
    have htl := Lib.hid (show ((xs.map leafI).take k).length = k by rw [List.length_take, List.length_map, hn.out]; omega)
    replace hrow := Lib.hid hrow
    have hz' := Lib.hid hz
    have hb' := Lib.hid hb
    have hWr : Below w.heap.size w wr := hB2'.out.trans (hb.mono hB2'.out.size)
    by_cases hlt : k < n
    · obtain ⟨x, hx⟩ : ∃ x, xs[k]? = some x := ⟨_, List.getElem?_eq_getElem (by rw [hn.out]; exact hlt)⟩
      obtain ⟨ad, rfl, hok, hc, hxu⟩ := u4_at HA.out hx
      have hcr := (hWr.cell hok).trans hc
      have htk := Lib.hid (show (xs.map leafI).take (k + 1) = (xs.map leafI).take k ++ [leafI x] by rw [List.take_add_one, List.getElem?_map, hx]; rfl)
      have t3 := World.block_lt_of_cell? _ _ hcr
      have i1 : (0 : Int) ≤ (k : Int) := by omega
      have i2 : (k : Int) < (n : Int) := by omega
      replace hx := Lib.hid hx
      replace hxu := Lib.hid hxu
      replace hWr := Lib.hid hWr
      clear hz hb hc hok
      go_wp2_with fail
      refine wp_region_tails (by kernel_rfl) 9 (fun W => Below wr.heap.size wr W) (fun i => match i with
          | 8 => some (fun v W => ∃ g, v = .slice (some ⟨g, 0, none⟩) 1 1 ∧ wr.heap.size ≤ g ∧ W.heap[g]? = some (.cells #[.int .u8 2, .int .u32 0, .int .u32 x, .int .i64 0, .slice none 0 0] 52 (0, 0)))
          | _ => none) (fun _ => none) (by decide) (by kernel_rfl) (by kernel_rfl) (Below.refl _ _).drew (fun w w' h hb => h.trans (hb.mono h.size)) ?tst ?_
      case tst =>
        intro j φ x W W' hp hx hb
        match j, hp with
        | 8, hp =>
          cases hp
          obtain ⟨g, e1, e2, e3⟩ := hx
          exact ⟨g, e1, e2, (hb.block g (Array.getElem?_eq_some_iff.1 e3).1).trans e3⟩
      simp only [List.take_succ_cons, List.take_zero, List.drop_succ_cons, List.drop_zero]
      repeat (first
        | (refine wpAs_skip rfl ?_; simp only [Act.put, List.setIfInBounds_toArray, List.set_cons_zero, List.set_cons_succ])
        | (refine wpAs_pure (v := ?_) rfl rfl ?_ ?_; rotate_left; (intro W hC hE; clear hE; (have z2 := (hC.cell (p := ⟨w2.heap.size, 1, none⟩) r5).trans r3; have z3 := (hC.cell t3).trans hcr); clear hC; go_simp; done); simp only [Act.put, List.setIfInBounds_toArray, List.set_cons_zero, List.set_cons_succ])
        | (refine wpAs_pure (v := ?_) rfl rfl ?_ ?_; rotate_left; (intro W hC hE; clear hE; (have z2 := (hC.cell (p := ⟨w2.heap.size, 1, none⟩) r5).trans r3; have z3 := (hC.cell t3).trans hcr); clear hC; go_simp; with_reducible rfl); simp only [Act.put, List.setIfInBounds_toArray, List.set_cons_zero, List.set_cons_succ]))
      refine wpAs_act rfl rfl ?_ ?_
      · intro W hC hE
        have hsw := hC.size
        clear hE hC
        go_simp
        exact ⟨⟨W.heap.size, rfl, hsw, heap_alloc_new _ _⟩, (Below.refl _ _).alloc (Nat.le_refl _) _⟩
      simp only [Act.put, List.setIfInBounds_toArray, List.set_cons_zero, List.set_cons_succ, envAdd]
      intro x21
      refine wpAs_end fun W hC hE => ?_
      obtain ⟨⟨g, rfl, hg, hg3⟩, _⟩ := hE
      have s5 := S5.out
      have hwr := hb'.out.size
      have hrowW := RowOf.below stab_it hrow.out hC
      have hlo : w3.heap.size ≤ wr.heap.size := by omega
      obtain ⟨A2, c2, w7, hr2, row7, gr7, ba7⟩ := its_push hrowW g (leafI x) (.slice none 0 0) 1 k htl.out hg3 (by omega) (Nat.le_trans hlo hC.size) (leafI_in hxu.out) (rBy_part0 _ _ none)
      have g7 := (ba7.block w2.heap.size (by omega)).trans ((hC.block w2.heap.size r5).trans hz'.out)
      obtain ⟨w8, hw8, g8, gr8, gs8⟩ := put_snd (u := .slice A2 (k + 1) c2) g7
      have row8 := Lib.hid (RowOf.grown stab_it row7 gr8 (fun q e => by cases e; omega))
      have hb7 : Below w2.heap.size w2 w7 := (hb'.out.trans (hC.mono hb'.out.size)).trans (ba7.mono (by omega))
      have hb8 := Lib.hid (hb7.grown gr8 hb7.size (fun q e => by cases e; omega))
      have z2 := (hC.cell (p := ⟨w2.heap.size, 1, none⟩) r5).trans r3
      obtain ⟨y1, y2, y3, y4⟩ := two_cells g7
      have H2 := Lib.hid hr2
      replace g8 := Lib.hid g8
      replace g7 := Lib.hid g7
      replace hg3 := Lib.hid hg3
      clear hr2 row7 gr7 gr8 ba7 hb7 hrowW hC gs8 s5
      go_wp2_with (at_builtin; refine wpList_append_run rfl _ _ _ rfl rfl rfl H2.out ?_; clear H2)
      go_roundw
      case rel => exact ⟨k + 1, by omega, by go_num, hb8.out, A2, c2, g8.out, by rw [htk.out]; exact row8.out⟩
      case measure => simp [intOf]; omega
    · have hkn := Lib.hid (show k = n by omega)
      have hall := Lib.hid (show (xs.map leafI).take k = xs.map leafI from List.take_of_length_le (by rw [List.length_map, hn.out]; omega))
      have s5 := S5.out
      have bR := (hb.block w.heap.size lt0).trans f2.out
      obtain ⟨p0, p1, pf, _⟩ := two_cells bR
      obtain ⟨W9, hW9, g9, gr9, gs9⟩ := put_two (u := .int .i64 0) (v := .slice A1 k c1) bR
      obtain ⟨k0, k1, _, _⟩ := two_cells g9
      have B9 := Lib.hid (hWr.grown gr9 hWr.size (fun q e => by cases e; omega))
      have row9 := RowOf.low stab_it (RowOf.grown stab_it hrow.out gr9 (fun q e => by cases e; omega)) (show w.heap.size ≤ w3.heap.size by omega)
      have hfin : Hid (Nod (New w.heap.size W9) W9 (.agg #[.int .i64 0, .slice A1 k c1]) (leafN xs)) := Lib.hid (by
        have h1 := row9.rel stab_it
        rw [htl.out, hall.out] at h1
        exact ⟨_, rfl, (nod_zero (Old w) w).choose_spec.2.1, h1⟩)
      replace bR := Lib.hid bR
      replace g9 := Lib.hid g9
      clear gr9 row9 s5 hz hrow
      go_wp2_with fail
      exact bodyPost_ret (v := .agg #[.int .i64 0, .slice A1 k c1]) (by simp [results, Try.results10, go_sem, k0, k1]) rfl ⟨_, rfl, hfin.out, B9.out⟩
end Go.Proofs.Ytpcajbcdahcehaa

/-
  Package node: Place. Conditions: those that each lemma states.
-/
namespace Go.Proofs.Ytpcajbcdahcehaa
open Go.RowKit

def cntK (l : List It) (k : Ky) : Nat := (l.filter fun x => lessK x.1 k).length
theorem cntK_le (l : List It) (k : Ky) : cntK l k ≤ l.length := List.length_filter_le _ _
theorem cntK_take (l : List It) (k : Ky) (i : Nat) : cntK (l.take i) k ≤ i := Nat.le_trans (cntK_le _ _) (List.length_take_le _ _)
theorem cntK_yes {l : List It} {k : Ky} {i : Nat} {x : It} (hx : l[i]? = some x) (h : lessK x.1 k = true) : cntK (l.take (i + 1)) k = cntK (l.take i) k + 1 := by
  unfold cntK
  rw [List.take_add_one, hx, Option.toList_some, List.filter_append]
  simp [h]
theorem cntK_no {l : List It} {k : Ky} {i : Nat} {x : It} (hx : l[i]? = some x) (h : lessK x.1 k = false) : cntK (l.take (i + 1)) k = cntK (l.take i) k := by
  unfold cntK
  rw [List.take_add_one, hx, Option.toList_some, List.filter_append]
  simp [h]
def placeN (n : Nd) (k : Ky) : Nat := cntK n.2 k
def thereN (n : Nd) (k : Ky) : Bool := match n.2[placeN n k]? with
  | none => false
  | some x => decide (x.1 = k)
theorem thereN_out {n : Nd} {k : Ky} (h : n.2.length ≤ placeN n k) : thereN n k = false := by
  unfold thereN
  rw [List.getElem?_eq_none h]
theorem thereN_at {n : Nd} {k : Ky} {x : It} (h : n.2[placeN n k]? = some x) : thereN n k = decide (x.1 = k) := by
  unfold thereN
  rw [h]
set_option maxRecDepth 100000 in
theorem key_guard : Try.prog.eqGuardType Try.prog.depth 30 = false := by kernel_rfl
set_option maxRecDepth 100000 in
/-- Two keys held against each other, as the walk spells it. -/
theorem key_eq (a b : Ky) (w : World) : (Op.equalIn 10000 30 (kyV a) (kyV b)).run Try.prog w = .ok (decide (a = b)) w := by
  have hS : Try.prog.underlying 30 = some (.struct (Try.prog.fieldsOf 30)) := by kernel_rfl
  have hp : Try.prog.stoodInHeld 30 = false := by kernel_rfl
  have u3 := Try.underlying5
  have u4 := Try.underlying28
  have a3 := Try.isAgg5
  have z3 := Try.sizeOf5
  have a4 := Try.isAgg28
  have z4 := Try.sizeOf28
  obtain ⟨a1, a2, a3⟩ := a
  obtain ⟨b1, b2, b3⟩ := b
  have h : a1 = b1 ↔ (a1.toNat : Int) = b1.toNat := ⟨fun h => by rw [h], fun h => UInt8.toNat.inj (by omega)⟩
  simp only [Prod.mk.injEq, h]
  unfold kyV
  rw [show (10000 : Nat) = 9999 + 1 from rfl, run_equalIn_agg w 9999 30 _ _ hS hp]
  simp only [Program.fieldsOf, Try.underlying30]
  go_simp
  by_cases h1 : (a1.toNat : Int) = b1.toNat <;> by_cases h2 : a2 = b2 <;> by_cases h3 : a3 = b3 <;> simp [h1, h2, h3]

set_option maxRecDepth 100000 in
set_option maxHeartbeats 4000000 in
theorem nodePlace_any (v : Value) (n : Nd) (key : Ky) (w : World) (h : Nod (Old w) w v n) :
    Calls Try.prog 9 #[v, kyV key] w fun e w' => e = .returned (.tuple #[.int .i64 (placeN n key : Nat), .bool (thereN n key)]) ∧ Below w.heap.size w w' := by
  obtain ⟨A, c, rfl, _, l1, m1, hA⟩ := h.open
  have HA := Lib.hid hA
  clear h hA
  have hout := Lib.hid (fun hh => thereN_out (n := n) (k := key) hh)
  obtain ⟨m, hm⟩ : ∃ m, n.2.length = m := ⟨_, rfl⟩
  obtain ⟨l, hl⟩ : ∃ l, n.1 = l := ⟨_, rfl⟩
  rw [hm] at l1 HA hout ⊢
  rw [hl]
  clear hl
  replace hm := Lib.hid hm
  obtain ⟨w1, hw1, b1, hs1, hB1⟩ := box_pair' w (.int .i64 l) (.slice A m c) 26
  obtain ⟨w0, hw0, g0, g1, g2, hs0, hB2, _⟩ := box_three w1 (.int .u8 (key.1.toNat : Int)) (.int .u32 key.2.1) (.int .u32 key.2.2) 30
  obtain ⟨_, f2', _, lt1⟩ := two_cells b1
  have f2 := (hB2.cell (p := ⟨w.heap.size, 1, none⟩) lt1).trans f2'
  have hB0 := Lib.hid (hB1.trans (hB2.mono hB1.size))
  have lt0 : w.heap.size < w0.heap.size := Nat.lt_of_lt_of_le lt1 hB2.size
  have ltk : w1.heap.size < w0.heap.size := by omega
  have hB := Lib.hid (fun wr (hb : Below w0.heap.size w0 wr) => hB0.out.trans (hb.mono hB0.out.size))
  clear hB1 hB2 b1 f2'
  replace hs1 := Lib.hid hs1
  replace hs0 := Lib.hid hs0
  unfold kyV
  go_enter Try.func9, Try.ntmps9
  go_upto_region 1 with fail
  clear hw0 hw1
  go_wp2_with fail
  go_loopw [4, 11] (fun a i wr => ∃ k : Nat, k ≤ m ∧ i = .int .i64 k ∧ a = .int .i64 (cntK (n.2.take k) key : Nat) ∧ Below w0.heap.size w0 wr) (fun _ i _ => m - (intOf i).toNat)
  case atStart => exact ⟨0, by omega, rfl, rfl, Below.refl _ _⟩
  case round =>
    obtain ⟨k, hk, rfl, rfl, hb⟩ := hrel
    have hcle := cntK_take n.2 key k
    replace hb := Lib.hid hb
    have p2 := (hb.out.cell (p := ⟨w.heap.size, 1, none⟩) lt0).trans f2
    have y0 := (hb.out.cell (p := ⟨w1.heap.size, 0, none⟩) ltk).trans g0
    have y1 := (hb.out.cell (p := ⟨w1.heap.size, 1, none⟩) ltk).trans g1
    have y2 := (hb.out.cell (p := ⟨w1.heap.size, 2, none⟩) ltk).trans g2
    have BF := Lib.hid (hB.out _ hb.out)
    by_cases hlt : k < m
    case neg =>
      have hkm : Hid (n.2.take k = n.2) := Lib.hid (List.take_of_length_le (by rw [hm.out]; omega))
      have hat := Lib.hid (show cntK (n.2.take k) key = placeN n key by rw [hkm.out]; rfl)
      rw [hat.out] at hcle ⊢
      obtain ⟨p, hp⟩ : ∃ p, placeN n key = p := ⟨_, rfl⟩
      rw [hp] at hcle hout ⊢
      by_cases hpm : p < m
      · obtain ⟨x, hx⟩ : ∃ x, n.2[p]? = some x := ⟨_, List.getElem?_eq_getElem (by rw [hm.out]; exact hpm)⟩
        obtain ⟨ad, E, ce, rfl, _, _, _, FX⟩ := its_old HA.out hx
        obtain ⟨⟨z0, z1, z2, z3, z4⟩, _⟩ := FX wr BF.out
        have hth := Lib.hid (show decide (x.1 = key) = thereN n key from (thereN_at (by rw [hp]; exact hx)).symm)
        have he := key_eq x.1 key
        have hg := key_guard
        unfold kyV at he
        replace hp := Lib.hid hp
        replace hx := Lib.hid hx
        have i1 : (p : Int) < (m : Int) := by omega
        have i0 : (0 : Int) ≤ (p : Int) := by omega
        clear FX
        go_wp2_with fail
        go_quiet (fail)
        go_wp2_with fail
        go_ret2
        exact ⟨by rw [hp.out, hth.out]; rfl, below_drewN BF.out _⟩
      · have hth := Lib.hid (hout.out (by omega))
        have i1 : ¬ (p : Int) < (m : Int) := by omega
        replace hp := Lib.hid hp
        go_wp2_with fail
        go_quiet (fail)
        go_wp2_with fail
        go_ret2
        exact ⟨by rw [hp.out, hth.out]; rfl, below_drewN BF.out _⟩
    obtain ⟨x, hx⟩ : ∃ x, n.2[k]? = some x := ⟨_, List.getElem?_eq_getElem (by rw [hm.out]; exact hlt)⟩
    obtain ⟨ad, E, ce, rfl, q1, q2, hinx, FX⟩ := its_old HA.out hx
    obtain ⟨⟨z0, z1, z2, z3, z4⟩, _⟩ := FX wr BF.out
    obtain ⟨w2, hw2, r0, r1, r2, _, _, hs2, hB2, _⟩ := box_five wr (.int .u8 (x.1.1.toNat : Int)) (.int .u32 x.1.2.1) (.int .u32 x.1.2.2) (.int .i64 x.2.1) (.slice E x.2.2.length ce) 52
    have B2 := Lib.hid (hb.out.trans (hB2.mono hb.out.size))
    have v0 := (B2.out.cell (p := ⟨w1.heap.size, 0, none⟩) ltk).trans g0
    have v1 := (B2.out.cell (p := ⟨w1.heap.size, 1, none⟩) ltk).trans g1
    have v2 := (B2.out.cell (p := ⟨w1.heap.size, 2, none⟩) ltk).trans g2
    have hyes := Lib.hid (fun hh => cntK_yes (k := key) hx hh)
    have hno := Lib.hid (fun hh => cntK_no (k := key) hx hh)
    replace hx := Lib.hid hx
    replace hs2 := Lib.hid hs2
    clear FX hB2 hinx
    go_upto_region 4 with fail
    clear hw2 z0 z1 z2 z3 z4 y0 y1 y2
    go_wp2_with fail
    with_reducible refine (less_any x.1 key _).mono ?_
    rintro e3 w3 ⟨rfl, hb3⟩
    have B3 := Lib.hid (B2.out.trans (hb3.mono B2.out.size))
    clear hb3
    obtain ⟨s, hs⟩ : ∃ s, lessK x.1 key = s := ⟨_, rfl⟩
    rw [hs] at hyes hno ⊢
    replace hs := Lib.hid hs
    obtain ⟨q, hq⟩ : ∃ q, cntK (n.2.take k) key = q := ⟨_, rfl⟩
    rw [hq] at hyes hno hcle ⊢
    replace hq := Lib.hid hq
    cases s with
    | true =>
      have hn := Lib.hid (hyes.out rfl)
      go_wp2_with fail
      go_roundw
      case rel => exact ⟨k + 1, by omega, by go_num, by rw [hn.out]; go_num, B3.out⟩
      case measure => simp [intOf]; omega
    | false =>
      have hn := Lib.hid (hno.out rfl)
      go_wp2_with fail
      go_roundw
      case rel => exact ⟨k + 1, by omega, by go_num, by rw [hn.out], B3.out⟩
      case measure => simp [intOf]; omega
end Go.Proofs.Ytpcajbcdahcehaa

/-
  Package node: Same. Conditions: those that each lemma states.
-/
namespace Go.Proofs.Ytpcajbcdahcehaa
open Go.RowKit

def sameN (a b : Nd) : Bool := decide (a = b)
theorem sameN_self (a : Nd) : sameN a a = true := by simp [sameN]
theorem sameN_eq {a b : Nd} (h : sameN a b = true) : a = b := by simpa [sameN] using h
theorem sameN_comm (a b : Nd) : sameN a b = sameN b a := by
  unfold sameN
  rw [Bool.eq_iff_iff]
  simp only [decide_eq_true_eq]
  exact ⟨fun h => h.symm, fun h => h.symm⟩
def sameIs (xs ys : List It) : Bool := decide (xs = ys)

set_option maxRecDepth 100000 in
set_option maxHeartbeats 4000000 in
theorem itsEqual_any (v u : Value) (xs ys : List It) (w : World) (hv : rIts (Old w) w [v] xs) (hu : rIts (Old w) w [u] ys) :
    Calls Try.prog 41 #[v, u, .func (.func 42) #[] #[]] w fun e w' => e = .returned (.bool (sameIs xs ys)) ∧ Below w.heap.size w w' := by
  obtain ⟨A, a, rfl, la, ma⟩ := its_open hv
  obtain ⟨B, b, rfl, lb, mb⟩ := its_open hu
  have HA := Lib.hid hv
  have HB := Lib.hid hu
  clear hv hu
  have hdef : Hid (sameIs xs ys = decide (xs = ys)) := Lib.hid rfl
  generalize sameIs xs ys = res at hdef ⊢
  obtain ⟨n, hn⟩ : ∃ n, xs.length = n := ⟨_, rfl⟩
  obtain ⟨m, hm⟩ : ∃ m, ys.length = m := ⟨_, rfl⟩
  rw [hn] at la HA ⊢
  rw [hm] at lb HB ⊢
  replace hn := Lib.hid hn
  replace hm := Lib.hid hm
  by_cases h1 : n = m
  · subst h1
    go_enter Try.func41, Try.ntmps41
    go_wp2_with fail
    go_loopw [17] (fun i wr => ∃ k : Nat, k ≤ n ∧ i = .int .i64 k ∧ xs.take k = ys.take k ∧ Below w.heap.size w wr) (fun i _ => n - (intOf i).toNat)
    case atStart => exact ⟨0, by omega, rfl, rfl, Below.refl _ _⟩
    case round =>
      obtain ⟨k, hk, rfl, ha, hb⟩ := hrel
      replace ha := Lib.hid ha
      replace hb := Lib.hid hb
      by_cases hlt : k < n
      · obtain ⟨x, hx⟩ : ∃ x, xs[k]? = some x := ⟨_, List.getElem?_eq_getElem (by rw [hn.out]; exact hlt)⟩
        obtain ⟨y, hy⟩ : ∃ y, ys[k]? = some y := ⟨_, List.getElem?_eq_getElem (by rw [hm.out]; exact hlt)⟩
        obtain ⟨ad, E, ce, rfl, _, _, _, FX⟩ := its_old HA.out hx
        obtain ⟨bd, E', ce', rfl, _, _, _, FY⟩ := its_old HB.out hy
        replace hx := Lib.hid hx
        replace hy := Lib.hid hy
        obtain ⟨⟨z0, z1, z2, z3, z4⟩, hIx⟩ := FX wr hb.out
        obtain ⟨w2, hw2, r0, r1, r2, r3, r4, hs2, hB2, _⟩ := box_five wr (.int .u8 (x.1.1.toNat : Int)) (.int .u32 x.1.2.1) (.int .u32 x.1.2.2) (.int .i64 x.2.1) (.slice E x.2.2.length ce) 52
        have hb2 := hb.out.trans (hB2.mono hb.out.size)
        obtain ⟨⟨y0, y1, y2, y3, y4⟩, hIy⟩ := FY w2 hb2
        have lt2 : wr.heap.size < w2.heap.size := by omega
        replace hs2 := Lib.hid hs2
        go_upto_region 6 with fail
        clear hw2 z0 z1 z2 z3 z4
        obtain ⟨w3, hw3, t0, t1, t2, t3, t4, hs3, hB3, _⟩ := box_five w2 (.int .u8 (y.1.1.toNat : Int)) (.int .u32 y.1.2.1) (.int .u32 y.1.2.2) (.int .i64 y.2.1) (.slice E' y.2.2.length ce') 52
        have hb3 := Lib.hid (hb2.trans (hB3.mono hb2.size))
        have HIx := Lib.hid ((hIx.below hB2).below hB3)
        have HIy := Lib.hid (hIy.below hB3)
        have s0 := (hB3.cell (p := ⟨wr.heap.size, 0, none⟩) lt2).trans r0
        have s1 := (hB3.cell (p := ⟨wr.heap.size, 1, none⟩) lt2).trans r1
        have s2 := (hB3.cell (p := ⟨wr.heap.size, 2, none⟩) lt2).trans r2
        have s3 := (hB3.cell (p := ⟨wr.heap.size, 3, none⟩) lt2).trans r3
        have s4 := (hB3.cell (p := ⟨wr.heap.size, 4, none⟩) lt2).trans r4
        replace hs3 := Lib.hid hs3
        clear FX FY hIx hIy hB2 hB3 hb2
        unfold itV at *
        go_upto_region 7 with fail
        clear hw3 y0 y1 y2 y3 y4 r0 r1 r2 r3 r4
        go_wp2_with fail
        with_reducible refine (sameI_any _ _ x y _ HIx.out HIy.out).mono ?_
        rintro e4 w4 ⟨rfl, hb4⟩
        have B4 := Lib.hid (hb3.out.trans (hb4.mono hb3.out.size))
        clear hb4 s0 s1 s2 s3 s4 t0 t1 t2 t3 t4
        rcases bool_ways (sameI x y) with e | e
        · have hne := Lib.hid (show res = false by rw [hdef.out]; simpa using ne_of_at hx.out hy.out (fun h => by rw [h, sameI_self] at e; cases e))
          rw [e]
          replace e := Lib.hid e
          go_wp2_with fail
          go_ret
          exact ⟨ret_bool hne.out.symm, B4.out⟩
        · have he := Lib.hid (sameI_eq e)
          rw [e]
          replace e := Lib.hid e
          go_wp2_with fail
          go_roundw
          case rel => exact ⟨k + 1, by omega, by go_num, take_eq_succ ha.out hx.out hy.out he.out, B4.out⟩
          case measure => simp [intOf]; omega
      · have hge : n ≤ k := by omega
        have he : Hid (res = true) := Lib.hid (by
          have := ha.out
          rw [List.take_of_length_le (by rw [hn.out]; exact hge), List.take_of_length_le (by rw [hm.out]; exact hge)] at this
          rw [hdef.out]
          simpa using this)
        go_wp2_with fail
        go_ret
        exact ⟨ret_bool he.out.symm, hb.out⟩
  · have he : Hid (res = false) := Lib.hid (by
      rw [hdef.out]
      simp only [decide_eq_false_iff_not]
      intro e
      have := hn.out
      rw [e, hm.out] at this
      exact h1 this.symm)
    have h1' : ((n : Int) != m) = true := by simp; omega
    go_enter Try.func41, Try.ntmps41
    go_wp2_with fail
    go_ret
    exact ⟨ret_bool he.out.symm, Below.refl _ _⟩

theorem sameN_parts (a b : Nd) : sameN a b = (decide (a.1 = b.1) && sameIs a.2 b.2) := by
  obtain ⟨a1, a2⟩ := a
  obtain ⟨b1, b2⟩ := b
  unfold sameN sameIs
  rw [Bool.eq_iff_iff]
  simp

set_option maxRecDepth 100000 in
set_option maxHeartbeats 2000000 in
theorem sameN_any (v u : Value) (a b : Nd) (w : World) (hv : Nod (Old w) w v a) (hu : Nod (Old w) w u b) :
    Calls Try.prog 21 #[v, u] w fun e w' => e = .returned (.bool (sameN a b)) ∧ Below w.heap.size w w' := by
  obtain ⟨d, rfl, _, hd⟩ := hv
  obtain ⟨d', rfl, _, hd'⟩ := hu
  have hp := Lib.hid (sameN_parts a b)
  generalize sameN a b = res at hp ⊢
  obtain ⟨w1, hw1, b1, hs1, hB1⟩ := box_pair' w (.int .i64 a.1) d 26
  obtain ⟨w2, hw2, b2, hs2, hB2⟩ := box_pair' w1 (.int .i64 b.1) d' 26
  obtain ⟨f1, f2, _, lt1⟩ := two_cells ((hB2.block w.heap.size (by omega)).trans b1)
  obtain ⟨g1, g2, _, _⟩ := two_cells b2
  have hB0 := hB1.trans (hB2.mono hB1.size)
  have HD := Lib.hid (stab_its.old hd hB0)
  have HD' := Lib.hid (stab_its.old hd' hB0)
  obtain ⟨_, _, rfl, _⟩ := its_open hd
  obtain ⟨_, _, rfl, _⟩ := its_open hd'
  replace hB0 := Lib.hid hB0
  replace hs1 := Lib.hid hs1
  replace hs2 := Lib.hid hs2
  replace b1 := Lib.hid b1
  replace b2 := Lib.hid b2
  clear hd hd' hB1 hB2
  by_cases h : a.1 = b.1
  · have h1 : (a.1 == b.1) = true := by simpa using h
    have hfin := Lib.hid (show sameIs a.2 b.2 = res by rw [hp.out]; simp [h])
    replace h := Lib.hid h
    go_enter Try.func21, Try.ntmps21
    go_upto_region 1 with fail
    clear hw1 hw2
    go_wp2_with fail
    with_reducible refine (itsEqual_any _ _ a.2 b.2 _ HD.out HD'.out).mono ?_
    rintro e3 w3 ⟨rfl, hb3⟩
    rw [hfin.out]
    have BF := Lib.hid (hB0.out.trans (hb3.mono hB0.out.size))
    clear hb3
    go_wp2_with fail
    go_ret
    exact ⟨rfl, BF.out⟩
  · have h1 : (a.1 == b.1) = false := by simpa using h
    have hfin := Lib.hid (show res = false by rw [hp.out]; simp [h])
    replace h := Lib.hid h
    go_enter Try.func21, Try.ntmps21
    go_upto_region 1 with fail
    clear hw1 hw2
    go_wp2_with fail
    go_ret
    exact ⟨ret_bool hfin.out.symm, hB0.out⟩
end Go.Proofs.Ytpcajbcdahcehaa

/-
  What nodes and their blocks tell of one another, plain. Layer 6's law helper alive. Conditions: those that each lemma states.
-/
namespace Go.Proofs.Ytpcajbcdahcehaa
open Go.RowKit

structure InN (n : Nd) : Prop where
  lv : In64 n.1
  it : ∀ x ∈ n.2, InI x
theorem Nod.inN {ok : Addr → Prop} {w : World} {v : Value} {n : Nd} (h : Nod ok w v n) : InN n := by
  obtain ⟨A, c, _, h1, _, _, h2⟩ := h.open
  refine ⟨h1, fun x hx => ?_⟩
  obtain ⟨k, hk⟩ := List.mem_iff_getElem?.1 hx
  obtain ⟨_, _, _, _, _, _, _, _, _, hi⟩ := its_at h2 hk
  exact hi
theorem cutTo_its (l : List It) (xs : List UInt8) (h : ∀ x ∈ l, mayI x = true ∧ InI x) : ∀ k, k ≤ l.length → cutTo (itsB l ++ xs) k = some (l.take k, itsB (l.drop k) ++ xs)
  | 0, _ => by simp [cutTo]
  | k + 1, hk => by
    have hx : l[k]? = some l[k] := List.getElem?_eq_getElem hk
    obtain ⟨h1, h2⟩ := h l[k] (List.getElem_mem hk)
    have hd : itsB (l.drop k) ++ xs = itB l[k] ++ (itsB (l.drop (k + 1)) ++ xs) := by
      rw [List.drop_eq_getElem_cons hk, show itsB (l[k] :: l.drop (k + 1)) = itB l[k] ++ itsB (l.drop (k + 1)) from rfl, List.append_assoc]
    have ih := cutTo_its l xs h k (by omega)
    rw [hd] at ih
    obtain ⟨q0, q1, q2, _⟩ := itB_read l[k] (itsB (l.drop (k + 1)) ++ xs) h2 h1
    rw [cutTo_yes ih q0, q1, q2, List.take_add_one, hx]
    simp
theorem zeros_noughts (k : Nat) : noughtsB (zeros k) = true := by simp [noughtsB, zeros]
theorem noughts_zeros {b : List UInt8} (h : noughtsB b = true) : b = zeros b.length := by
  simp only [noughtsB, List.all_eq_true, beq_iff_eq] at h
  exact List.eq_replicate_iff.2 ⟨rfl, h⟩
theorem told_parts (n : Nd) : toldN n = [78, UInt8.ofNat n.1.toNat, UInt8.ofNat n.2.length] ++ itsB n.2 := rfl
/-- What is written is read. -/
theorem read_blkN {n : Nd} (h : mayN n = true) (hi : InN n) : reN (blkN n) = 0 ∧ reV (blkN n) = n := by
  have hl := toldN_len h
  obtain ⟨⟨s1, s2, s3, _⟩, _⟩ := mayN_of h
  have hob : ob (blkN n) = padN (toldN n) := by
    unfold ob
    rw [if_pos ⟨blkN_length h, fits_seal _⟩]
    exact seal_drop _
  have hoe : oe (blkN n) = 0 := by
    unfold oe
    rw [if_pos (blkN_length h), if_pos (show fits (blkN n) from fits_seal _)]
  obtain ⟨z, hz⟩ : ∃ z, 124 - (toldN n).length = z := ⟨_, rfl⟩
  have hp : padN (toldN n) = 78 :: UInt8.ofNat n.1.toNat :: UInt8.ofNat n.2.length :: (itsB n.2 ++ zeros z) := by
    rw [padN, hz, told_parts]
    simp
  have h0 : (ob (blkN n))[0]?.getD 0 = 78 := by rw [hob, hp]; rfl
  have h1 : lvlN (ob (blkN n)) = n.1 := by
    rw [hob, hp]
    show ((UInt8.ofNat n.1.toNat).toNat : Int) = n.1
    rw [UInt8.toNat_ofNat']
    omega
  have h2 : manyN (ob (blkN n)) = n.2.length := by
    rw [hob, hp]
    show (UInt8.ofNat n.2.length).toNat = n.2.length
    rw [UInt8.toNat_ofNat']
    omega
  have h3 : (ob (blkN n)).drop 3 = itsB n.2 ++ zeros z := by rw [hob, hp]; rfl
  have hc : cutTo ((ob (blkN n)).drop 3) (manyN (ob (blkN n))) = some (n.2, zeros z) := by
    rw [h2, h3, cutTo_its n.2 (zeros z) (fun x hx => ⟨mayN_all h x hx, hi.it x hx⟩) n.2.length (Nat.le_refl _)]
    simp [itsB]
  have hnd : ndN (ob (blkN n)) = n := by
    unfold ndN cutL
    rw [hc, h1]
    rfl
  have hr : rdN (ob (blkN n)) = true := by
    unfold rdN cutR
    rw [h0, hc, hnd, h]
    simp [zeros_noughts]
  obtain ⟨e1, e2⟩ := reN_good hoe hr
  exact ⟨e1, by rw [e2, hnd]⟩
/-- What is read is written so. -/
theorem blkN_read {b : List UInt8} (h : reN b = 0) : mayN (reV b) = true ∧ blkN (reV b) = b ∧ InN (reV b) := by
  have hoe : oe b = 0 := by
    unfold reN at h
    by_cases e : oe b = 0
    · exact e
    · rw [if_neg e] at h; exact absurd h e
  have hrd : rdN (ob b) = true := by
    unfold reN at h
    rw [if_pos hoe] at h
    cases e : rdN (ob b) with
    | true => rfl
    | false => rw [e] at h; cases h
  obtain ⟨e1, e2⟩ := reN_good hoe hrd
  obtain ⟨hlen, hfits, hob, h124⟩ := oe_zeroN hoe
  rw [e2]
  obtain ⟨bd, hbd⟩ : ∃ bd, ob b = bd := ⟨_, rfl⟩
  rw [hbd] at hrd h124 ⊢
  unfold rdN at hrd
  simp only [Bool.and_eq_true, decide_eq_true_eq] at hrd
  obtain ⟨h78, hs, hm, hn⟩ := hrd
  cases hc : cutTo (bd.drop 3) (manyN bd) with
  | none => rw [hc] at hs; cases hs
  | some p =>
    obtain ⟨l, r⟩ := p
    have hL : cutL (bd.drop 3) (manyN bd) = l := by simp [cutL, hc]
    have hR : cutR (bd.drop 3) (manyN bd) = r := by simp [cutR, hc]
    obtain ⟨c1, c2, c3⟩ := cutTo_bytes hc
    rw [hR] at hn
    have hnd : ndN bd = (lvlN bd, l) := by rw [ndN, hL]
    have hin : InN (ndN bd) := by
      rw [hnd]
      exact ⟨lvlN_in bd, fun x hx => (c3 x hx).2⟩
    refine ⟨hm, ?_, hin⟩
    have hsplit : bd = [78, bd[1]?.getD 0, bd[2]?.getD 0] ++ bd.drop 3 := by
      match bd, h124, h78 with
      | x :: y :: z :: q, _, h78 =>
        simp at h78
        simp [h78]
    have hT : toldN (ndN bd) = [78, bd[1]?.getD 0, bd[2]?.getD 0] ++ itsB l := by
      rw [hnd, told_parts, c2]
      have e1 : UInt8.ofNat (lvlN bd).toNat = bd[1]?.getD 0 := by simp [lvlN]
      have e2 : UInt8.ofNat (manyN bd) = bd[2]?.getD 0 := by simp [manyN]
      show [78, UInt8.ofNat (lvlN bd).toNat, UInt8.ofNat (manyN bd)] ++ itsB l = _
      rw [e1, e2]
    have hbody : bd = toldN (ndN bd) ++ r := by
      rw [hT, List.append_assoc, ← c1]
      exact hsplit
    have hpad : padN (toldN (ndN bd)) = bd := by
      have hl2 : (toldN (ndN bd)).length + r.length = 124 := by
        have := congrArg List.length hbody
        rw [List.length_append, h124] at this
        omega
      rw [padN, show 124 - (toldN (ndN bd)).length = r.length by omega, ← noughts_zeros hn]
      exact hbody.symm
    show sealN (toldN (ndN bd)) = b
    have hs : sealN (toldN (ndN bd)) = sealN bd := by
      unfold sealN
      rw [hpad, padN_full h124]
    rw [hs, ← hbd, hob]
    exact seal_back hlen hfits
theorem blkN_inj {a b : Nd} (ha : mayN a = true) (hb : mayN b = true) (ia : InN a) (ib : InN b) : decide (blkN a = blkN b) = sameN a b := by
  unfold sameN
  rw [Bool.eq_iff_iff]
  simp only [decide_eq_true_eq]
  refine ⟨fun h => ?_, fun h => by rw [h]⟩
  rw [← (read_blkN ha ia).2, h, (read_blkN hb ib).2]
theorem reN_no {b : List UInt8} (h : reN b ≠ 0) : reV b = zeroN := by
  by_cases e : oe b = 0
  · cases e2 : rdN (ob b) with
    | true => exact absurd (reN_good e e2).1 h
    | false => exact (reN_bad e e2).2
  · exact (reN_open e).2

/-! ### alive -/
theorem u4_lit (w : World) (t : TypeId) (xs : List Int) (cs : Array Value) (hc : cs.toList = xs.map fun x => Value.int .u32 x) (hb : xs.length ≤ 1000) (h : ∀ x ∈ xs, InU x) :
    rU4 (Old (w.alloc (.cells cs t))) (w.alloc (.cells cs t)) [.slice (some ⟨w.heap.size, 0, none⟩) xs.length xs.length] xs := by
  refine ⟨_, _, rfl, Nat.le_refl _, by omega, fun i x hi => ⟨_, [.int .u32 x], rfl, rfl, fun j v hj => ?_, rfl, ?_, ?_⟩⟩
  · have hj0 : j = 0 := by
      have := (List.getElem?_eq_some_iff.1 hj).1
      simp at this
      omega
    subst hj0
    cases hj
    have hcell : (w.alloc (.cells cs t)).cell? ((⟨w.heap.size, 0, none⟩ : Addr).add (i * 1 + 0)) = some (.int .u32 x) := by
      have e : ((⟨w.heap.size, 0, none⟩ : Addr).add (i * 1 + 0)) = ⟨w.heap.size, i, none⟩ := by unfold Addr.add; split <;> simp_all
      have e2 : cs[i]? = some (.int .u32 x) := by rw [← Array.getElem?_toList, hc, List.getElem?_map, hi]; rfl
      rw [e, ← e2]
      simp
    exact ⟨World.block_lt_of_cell? _ _ hcell, hcell⟩
  · have := (h x (List.mem_of_getElem? hi)).1
    simpa [IntKind.min, IntKind.signed, IntKind.bits] using this
  · have := (h x (List.mem_of_getElem? hi)).2
    simp [IntKind.max, IntKind.signed, IntKind.bits]
    omega
theorem u4_small {xs : List Int} (h : ∀ x ∈ xs, 0 ≤ x ∧ x < 1000) : ∀ x ∈ xs, InU x := fun x hx => by
  have := h x hx
  exact ⟨this.1, by omega⟩
theorem leafN_in {xs : List Int} (h : ∀ x ∈ xs, InU x) : InN (leafN xs) := ⟨⟨by show _ ≤ (0 : Int); omega, by show (0 : Int) ≤ _; omega⟩, fun x hx => by
  obtain ⟨y, hy, rfl⟩ := List.mem_map.1 hx
  exact leafI_in (h y hy)⟩

theorem place_lit (v : Value) (n : Nd) (k : UInt8) (p i o : Int) (hp : (k.toNat : Int) = p) (w : World) (h : Nod (Old w) w v n) :
    Calls Try.prog 9 #[v, .agg #[.int .u8 p, .int .u32 i, .int .u32 o]] w fun e w' => e = .returned (.tuple #[.int .i64 (placeN n (k, i, o) : Nat), .bool (thereN n (k, i, o))]) ∧ Below w.heap.size w w' := by
  subst hp
  exact nodePlace_any v n (k, i, o) w h

set_option maxRecDepth 100000 in
set_option maxHeartbeats 4000000 in
theorem alive6 (w : World) : Calls Try.prog 13 #[] w fun e w' => e = .returned (.bool true) ∧ Below w.heap.size w w' := by
  have hb1 : Below w.heap.size w (w.alloc (.cells #[.int .u32 2, .int .u32 4, .int .u32 6] 28)) := (Below.refl _ _).alloc (Nat.le_refl _) _
  have hu1 := u4_lit w 28 [2, 4, 6] #[.int .u32 2, .int .u32 4, .int .u32 6] rfl (by simp) (u4_small (by simp))
  obtain ⟨w1, hw1⟩ : ∃ w1, w.alloc (.cells #[.int .u32 2, .int .u32 4, .int .u32 6] 28) = w1 := ⟨_, rfl⟩
  rw [hw1] at hb1 hu1
  have B1 := Lib.hid hb1
  have hmay : Hid (mayN (leafN [2, 4]) = true) := Lib.hid (by decide)
  have hin : Hid (InN (leafN [2, 4])) := Lib.hid (leafN_in (u4_small (by simp)))
  have hp1 : Hid (placeN (leafN [2, 4, 6]) (2, 0, 4) = 1) := Lib.hid (by decide)
  have hp2 : Hid (thereN (leafN [2, 4, 6]) (2, 0, 4) = true) := Lib.hid (by decide)
  have hc := Lib.hid (chkN_ok hmay.out)
  have hw := Lib.hid (show wrN (leafN [2, 4]) = blkN (leafN [2, 4]) by simp [wrN, hmay.out])
  have hback := Lib.hid (read_blkN hmay.out hin.out)
  replace hu1 : Hid (rU4 (Old w1) w1 [.slice (some ⟨w.heap.size, 0, none⟩) 3 3] [2, 4, 6]) := Lib.hid hu1
  clear hb1
  go_enter Try.func13, Try.ntmps13
  go_wp2_with fail
  clear hw1
  with_reducible refine (leaf_any _ [2, 4, 6] _ (by simp) hu1.out).mono ?_
  rintro e2 w2 ⟨u2, rfl, hN2, hb2⟩
  have B2 := Lib.hid (B1.out.trans (hb2.mono B1.out.size))
  have HN2 := Lib.hid hN2.drop
  clear hN2 hb2
  go_wp2_with fail
  with_reducible refine (place_lit _ (leafN [2, 4, 6]) 2 2 0 4 rfl _ HN2.out).mono ?_
  rintro e3 w3 ⟨rfl, hb3⟩
  rw [hp1.out, hp2.out]
  have B3 := Lib.hid (B2.out.trans (hb3.mono B2.out.size))
  clear hb3
  have hb4 : Below w3.heap.size w3 (w3.alloc (.cells #[.int .u32 2, .int .u32 4] 28)) := (Below.refl _ _).alloc (Nat.le_refl _) _
  have hu4 := u4_lit w3 28 [2, 4] #[.int .u32 2, .int .u32 4] rfl (by simp) (u4_small (by simp))
  obtain ⟨w4, hw4⟩ : ∃ w4, w3.alloc (.cells #[.int .u32 2, .int .u32 4] 28) = w4 := ⟨_, rfl⟩
  rw [hw4] at hb4 hu4
  have B4 := Lib.hid (B3.out.trans (hb4.mono B3.out.size))
  replace hu4 : Hid (rU4 (Old w4) w4 [.slice (some ⟨w3.heap.size, 0, none⟩) 2 2] [2, 4]) := Lib.hid hu4
  clear hb4
  go_wp2_with fail
  clear hw4
  with_reducible refine (leaf_any _ [2, 4] _ (by simp) hu4.out).mono ?_
  rintro e5 w5 ⟨u5, rfl, hN5, hb5⟩
  have B5 := Lib.hid (B4.out.trans (hb5.mono B4.out.size))
  have HN5 := Lib.hid hN5.drop
  clear hN5 hb5
  go_wp2_with fail
  with_reducible refine (nodeWrite_any _ (leafN [2, 4]) _ HN5.out).mono ?_
  rintro e6 w6 ⟨u6, rfl, hu6, hb6⟩
  rw [hc.out]
  rw [hw.out] at hu6
  have B6 := Lib.hid (B5.out.trans (hb6.mono B5.out.size))
  have HU6 := Lib.hid (stab_by.drop hu6)
  clear hu6 hb6
  go_wp2_with fail
  with_reducible refine (nodeRead_any _ (blkN (leafN [2, 4])) _ HU6.out).mono ?_
  rintro e7 w7 ⟨u7, rfl, hN7, hb7⟩
  rw [hback.out.1]
  rw [hback.out.2] at hN7
  have B7 := Lib.hid (B6.out.trans (hb7.mono B6.out.size))
  obtain ⟨A, c, rfl, _, l1, m1, hI⟩ := hN7.drop.open
  obtain ⟨ad, E, ce, rfl, _, _, _, FX⟩ := its_old (k := 1) (s := leafI 4) hI rfl
  obtain ⟨w8, hw8, b8, hs8, hB8⟩ := box_pair' w7 (.int .i64 (leafN [2, 4]).1) (.slice (some ad) (leafN [2, 4]).2.length c) 26
  obtain ⟨f1, f2, _, _⟩ := two_cells b8
  obtain ⟨⟨z0, z1, z2, z3, z4⟩, _⟩ := FX w8 hB8
  have hz : w8.cell? ⟨ad.block, ad.off + 7, none⟩ = some (.int .u32 4) := by simpa [Addr.add, leafI] using z2
  have B8 := Lib.hid (B7.out.trans (hB8.mono B7.out.size))
  have hlen : Hid ((leafN [2, 4]).2.length = 2) := Lib.hid rfl
  rw [hlen.out] at f2 hw8 ⊢
  replace hs8 := Lib.hid hs8
  replace b8 := Lib.hid b8
  clear FX hI hN7 hb7 z0 z1 z2 z3 z4 hB8
  go_upto_region 4 with fail
  clear hw8
  go_wp2_with fail
  go_ret
  exact ⟨rfl, B8.out⟩
end Go.Proofs.Ytpcajbcdahcehaa

/-
  The document's answers of layer 6: Great. Conditions: those that each lemma states.
-/
namespace Go.Proofs.Ytpcajbcdahcehaa
open Go.RowKit

def cap5 (n : Nat) : Int := if (100000 : Int) < n then 100000 else n
theorem cap5_nonneg (n : Nat) : 0 ≤ cap5 n ∧ cap5 n ≤ 100000 := by unfold cap5; split <;> omega
def sumI : List It → Int
  | [] => 0
  | x :: r => cap5 x.2.2.length + sumI r
theorem sumI_snoc (xs : List It) (x : It) : sumI (xs ++ [x]) = sumI xs + cap5 x.2.2.length := by
  induction xs with
  | nil => simp [sumI]
  | cons y r ih => simp only [List.cons_append, sumI, ih]; omega
theorem sumI_le (xs : List It) : 0 ≤ sumI xs ∧ sumI xs ≤ 100000 * xs.length := by
  induction xs with
  | nil => simp [sumI]
  | cons y r ih => have := cap5_nonneg y.2.2.length; simp only [sumI, List.length_cons]; omega
theorem sumI_mem {xs : List It} {x : It} (h : x ∈ xs) : cap5 x.2.2.length ≤ sumI xs := by
  induction xs with
  | nil => cases h
  | cons y r ih =>
    have := cap5_nonneg y.2.2.length
    have := (sumI_le r).1
    simp only [sumI]
    rcases List.mem_cons.1 h with rfl | h
    · omega
    · have := ih h; omega
def greatI (l : List It) : Bool := decide (1000 < l.length) || decide (50000 < sumI (l.take 2000))
/-- Items that are not great are few and small. -/
structure Few (l : List It) : Prop where
  many : l.length ≤ 1000
  val : ∀ (k : Nat) (x : It), l[k]? = some x → x.2.2.length ≤ 100000
theorem few_of {l : List It} (h : greatI l = false) : Few l := by
  simp only [greatI, Bool.or_eq_false_iff, decide_eq_false_iff_not] at h
  obtain ⟨h1, h2⟩ := h
  rw [List.take_of_length_le (by omega)] at h2
  refine ⟨by omega, fun k x hk => ?_⟩
  have := sumI_mem (List.mem_of_getElem? hk)
  unfold cap5 at this
  split at this <;> omega

set_option maxRecDepth 100000 in
set_option maxHeartbeats 2000000 in
theorem greatI_any (v : Value) (l : List It) (w : World) (h : rIts (Old w) w [v] l) : Calls Try.prog 15 #[v] w fun e w' => e = .returned (.bool (greatI l)) ∧ Below w.heap.size w w' := by
  obtain ⟨A, c, rfl, l1, m1⟩ := its_open h
  have HA := Lib.hid h
  clear h
  have hg : greatI l = (decide (1000 < l.length) || decide (50000 < sumI (l.take 2000))) := rfl
  generalize greatI l = res at hg ⊢
  obtain ⟨n, hn⟩ : ∃ n, l.length = n := ⟨_, rfl⟩
  rw [hn] at l1 HA hg ⊢
  replace hn := Lib.hid hn
  replace hg := Lib.hid hg
  go_enter Try.func15, Try.ntmps15
  go_wp2_with fail
  go_loop [3, 4] (fun s i => ∃ k : Nat, k ≤ n ∧ k ≤ 2000 ∧ i = .int .i64 k ∧ s = .int .i64 (sumI (l.take k))) (fun _ i => n - (intOf i).toNat)
  case atStart => exact ⟨0, by omega, by omega, rfl, rfl⟩
  case round =>
    obtain ⟨k, hk, hk2, rfl, rfl⟩ := hrel
    have b1 := sumI_le (l.take k)
    have b2 : (l.take k).length ≤ k := List.length_take_le _ _
    by_cases hlt : k < n ∧ k < 2000
    · obtain ⟨hlt1, hlt2⟩ := hlt
      obtain ⟨x, hx⟩ : ∃ x, l[k]? = some x := ⟨_, List.getElem?_eq_getElem (by rw [hn.out]; exact hlt1)⟩
      obtain ⟨ad, E, ce, rfl, _, _, _, FX⟩ := its_old HA.out hx
      obtain ⟨⟨z0, z1, z2, z3, z4⟩, _⟩ := FX w (Below.refl _ _)
      have hsn := Lib.hid (show sumI (l.take (k + 1)) = sumI (l.take k) + cap5 x.2.2.length by rw [List.take_add_one, hx]; exact sumI_snoc _ _)
      have b3 := cap5_nonneg x.2.2.length
      replace hx := Lib.hid hx
      clear FX
      have hl2 : (k : Int) < 2000 := by omega
      have hl1 : (k : Int) < n := by omega
      generalize sumI (l.take k) = s at *
      generalize (l.take k).length = q at *
      go_wp2_with fail
      go_round
      case rel => exact ⟨k + 1, by omega, by omega, by go_num, by rw [hsn.out]; rfl⟩
      case measure => simp [intOf]; omega
    · have hs1 : Hid (l.take k = l.take 2000) := Lib.hid (by
        have := hn.out
        rcases (by omega : n ≤ k ∨ k = 2000) with h | h
        · rw [List.take_of_length_le (by omega), List.take_of_length_le (by omega)]
        · rw [h])
      rw [hs1.out] at b1 b2 ⊢
      obtain ⟨s, hs⟩ : ∃ s, sumI (l.take 2000) = s := ⟨_, rfl⟩
      replace hg := hg.out
      rw [hs] at hg b1 ⊢
      replace hg := Lib.hid hg
      have b1' : s ≤ 200000000 := by omega
      clear b2 hs
      by_cases h9 : k < n
      · have h10 : ¬ (k : Int) < 2000 := by omega
        by_cases h11 : 1000 < n
        · have h12 : (1000 : Int) < n := by omega
          have hfin := Lib.hid (show res = true by rw [hg.out]; simp [h11])
          go_wp2_with fail
          go_ret
          exact ⟨ret_bool hfin.out.symm, Below.refl _ _⟩
        · omega
      · by_cases h11 : 1000 < n
        · have h12 : (1000 : Int) < n := by omega
          have hfin := Lib.hid (show res = true by rw [hg.out]; simp [h11])
          go_wp2_with fail
          go_ret
          exact ⟨ret_bool hfin.out.symm, Below.refl _ _⟩
        · have h12 : ¬ (1000 : Int) < n := by omega
          have hfin := Lib.hid (show decide (50000 < s) = res by rw [hg.out]; simp [h11])
          go_wp2_with fail
          go_ret
          exact ⟨ret_bool hfin.out, Below.refl _ _⟩
end Go.Proofs.Ytpcajbcdahcehaa

/-
  Bytes of the call's own that are turned where they lie; what lies elsewhere stays. Facts on items whose cells lie in a range that does not move. Conditions: those that each lemma states.
-/
namespace Go.Proofs.Ytpcajbcdahcehaa
open Go.RowKit

structure Turnt (lo hi : Nat) (w wr : World) : Prop where
  sp : Spoilt lo w wr
  keep : ∀ k, hi ≤ k → wr.heap[k]? = w.heap[k]?
theorem Turnt.refl (lo hi : Nat) (w : World) : Turnt lo hi w w := ⟨Spoilt.refl _ _, fun _ _ => rfl⟩
theorem Turnt.step {lo hi : Nat} {w wr : World} (h : Turnt lo hi w wr) {p : Addr} (hp : lo ≤ p.block) (hp' : p.block < hi) {x : UInt8} (hx : wr.cell? p = some (.int .u8 (x.toNat : Int))) (y : UInt8) : Turnt lo hi w (wr.setCell p (.int .u8 (y.toNat : Int))) :=
  ⟨h.sp.step hp hx y, fun k hk => (Below.heap_setCell wr p _ k (by omega)).trans (h.keep k hk)⟩
theorem Turnt.drew {lo hi : Nat} {w wr : World} (h : Turnt lo hi w wr) : Turnt lo hi w wr.drew := ⟨h.sp.drew, h.keep⟩
theorem Turnt.block {lo hi : Nat} {w wr : World} (h : Turnt lo hi w wr) {k : Nat} (hk : k < lo ∨ hi ≤ k) : wr.heap[k]? = w.heap[k]? := by
  rcases hk with hk | hk
  · exact h.sp.low.block k hk
  · exact h.keep k hk
theorem Turnt.cell {lo hi : Nat} {w wr : World} (h : Turnt lo hi w wr) {p : Addr} (hk : p.block < lo ∨ hi ≤ p.block) : wr.cell? p = w.cell? p := World.cell?_of_block (h.block hk)
theorem Turnt.by_out {lo hi : Nat} {w wr : World} {ok : Addr → Prop} {v : Value} {xs : List UInt8} (h : Turnt lo hi w wr) (hok : ∀ p, ok p → p.block < lo ∨ hi ≤ p.block) (hx : rBy ok w [v] xs) : rBy ok wr [v] xs :=
  stab_by _ _ _ _ _ _ (fun p _ hp hc => ⟨hp, (h.cell (hok p hp)).trans hc⟩) hx
theorem Turnt.itm_out {lo hi : Nat} {w wr : World} {ok : Addr → Prop} {v : Value} {s : It} (h : Turnt lo hi w wr) (hok : ∀ p, ok p → p.block < lo ∨ hi ≤ p.block) (hx : Itm ok w v s) : Itm ok wr v s :=
  hx.map fun p _ hp hc => ⟨hp, (h.cell (hok p hp)).trans hc⟩
theorem Turnt.box5 {lo hi g : Nat} {w wr : World} {a b c d e : Value} (h : Turnt lo hi w wr) (hg : g < lo ∨ hi ≤ g) (hb : Box5 g a b c d e w) : Box5 g a b c d e wr :=
  ⟨(h.cell (p := ⟨g, 0, none⟩) hg).trans hb.1, (h.cell (p := ⟨g, 1, none⟩) hg).trans hb.2.1, (h.cell (p := ⟨g, 2, none⟩) hg).trans hb.2.2.1, (h.cell (p := ⟨g, 3, none⟩) hg).trans hb.2.2.2.1, (h.cell (p := ⟨g, 4, none⟩) hg).trans hb.2.2.2.2.1, Nat.lt_of_lt_of_le hb.2.2.2.2.2 h.sp.low.size⟩

/-- Facts whose cells lie in a range that does not move. -/
def OnI (ok : Addr → Prop) (v : Value) (s : It) : World → Prop := fun w => Itm ok w v s
theorem lasts_onI (ok : Addr → Prop) (v : Value) (s : It) : Lasts (OnI ok v s) := fun w _ h hb => Itm.map (fun p _ hp hc => ⟨hp, (hb.cell (World.block_lt_of_cell? w p hc)).trans hc⟩) h
def OnB (ok : Addr → Prop) (v : Value) (xs : List UInt8) : World → Prop := fun w => rBy ok w [v] xs
theorem lasts_onB (ok : Addr → Prop) (v : Value) (xs : List UInt8) : Lasts (OnB ok v xs) := fun w _ h hb => stab_by _ _ _ _ _ _ (fun p _ hp hc => ⟨hp, (hb.cell (World.block_lt_of_cell? w p hc)).trans hc⟩) h
theorem OnI.old {ok : Addr → Prop} {v : Value} {s : It} {w : World} (h : OnI ok v s w) : Itm (Old w) w v s := Itm.map (fun p _ _ hc => ⟨World.block_lt_of_cell? w p hc, hc⟩) h
theorem OnB.old {ok : Addr → Prop} {v : Value} {xs : List UInt8} {w : World} (h : OnB ok v xs w) : rBy (Old w) w [v] xs := stab_by _ _ _ _ _ _ (fun p _ _ hc => ⟨World.block_lt_of_cell? w p hc, hc⟩) h
/-- Where the bytes of an item of the call's own lie. -/
def In (lo hi : Nat) : Addr → Prop := fun p => lo ≤ p.block ∧ p.block < hi
theorem on_new {lo : Nat} {w : World} {v : Value} {s : It} (h : Itm (New lo w) w v s) : OnI (In lo w.heap.size) v s w := h.map fun _ _ hp hc => ⟨⟨hp.1, hp.2.1⟩, hc⟩
theorem on_old {w : World} {v : Value} {s : It} (h : Itm (Old w) w v s) : OnI (In 0 w.heap.size) v s w := h.map fun _ _ hp hc => ⟨⟨Nat.zero_le _, hp⟩, hc⟩
theorem onB_old {w : World} {v : Value} {xs : List UInt8} (h : rBy (Old w) w [v] xs) : OnB (In 0 w.heap.size) v xs w := stab_by _ _ _ _ _ _ (fun _ _ hp hc => ⟨⟨Nat.zero_le _, hp⟩, hc⟩) h
/-- An item of the call's own whose bytes lie in a range that does not move. -/
def Fz (lo hi : Nat) (w : World) : Addr → Prop := fun p => lo ≤ p.block ∧ p.block < hi ∧ w.frozen? p = false
def NewIn (lo hi : Nat) (v : Value) (s : It) : World → Prop := fun w => Itm (Fz lo hi w) w v s ∧ hi ≤ w.heap.size
theorem lasts_newIn (lo hi : Nat) (v : Value) (s : It) : Lasts (NewIn lo hi v s) := fun _ _ h hb => ⟨h.1.map fun _ _ hp hc => ⟨⟨hp.1, hp.2.1, (hb.frozen (Nat.lt_of_lt_of_le hp.2.1 h.2)).trans hp.2.2⟩, (hb.cell (Nat.lt_of_lt_of_le hp.2.1 h.2)).trans hc⟩, Nat.le_trans h.2 hb.size⟩
theorem newIn_of {lo : Nat} {w : World} {v : Value} {s : It} (h : Itm (New lo w) w v s) : NewIn lo w.heap.size v s w := ⟨h, Nat.le_refl _⟩
theorem Turnt.newIn_out {lo hi lo' hi' : Nat} {w wr : World} {v : Value} {s : It} (h : Turnt lo hi w wr) (hk : hi' ≤ lo ∨ hi ≤ lo') (hx : NewIn lo' hi' v s w) : NewIn lo' hi' v s wr :=
  ⟨hx.1.map fun p _ hp hc => by
    have hb := h.block (k := p.block) (by have h1 := hp.1; have h2 := hp.2.1; omega)
    exact ⟨⟨hp.1, hp.2.1, (World.frozen?_of_block hb).trans hp.2.2⟩, (World.cell?_of_block hb).trans hc⟩, Nat.le_trans hx.2 h.sp.low.size⟩
/-- A byte of an item of the call's own, somewhat later in a loop that turns them. -/
theorem turn_at {lo hi : Nat} {w wr : World} {s : It} {A : Option Addr} {n c k : Nat} (h1 : NewIn lo hi (itV s (.slice A n c)) s w) (h : Turnt lo hi w wr) (hk : k < s.2.2.length) :
    ∃ (ad : Addr) (y : UInt8), A = some ad ∧ wr.cell? (ad.add k) = some (.int .u8 (y.toNat : Int)) ∧ wr.frozen? (ad.add k) = false ∧ Turnt lo hi w (wr.setCell (ad.add k) (.int .u8 ((y + 1).toNat : Int))) := by
  obtain ⟨⟨d, e, _, r1⟩, hs⟩ := h1
  have ed : d = .slice A n c := by injection e with e; simpa using e.symm
  subst ed
  obtain ⟨_, _, e3, _, _, o1⟩ := rBy_open r1
  cases e3
  obtain ⟨ad, rfl, hn, hc⟩ := o1 k hk
  have hlt : (ad.add k).block < w.heap.size := Nat.lt_of_lt_of_le hn.2.1 hs
  obtain ⟨y, hy⟩ := h.sp.byte (ad.add k) _ hlt hc
  exact ⟨ad, y, rfl, hy, (h.sp.fro _ hlt).trans hn.2.2, h.step hn.1 hn.2.1 hy (y + 1)⟩
end Go.Proofs.Ytpcajbcdahcehaa

/-
  A bag's facts on nodes; what places tell, plain. Conditions: those that each lemma states.
-/
namespace Go.Proofs.Ytpcajbcdahcehaa
open Go.RowKit

theorem bag_node {w w1 : World} {Fs : List (World → Prop)} (h : Bag w Fs) (hb : Below w.heap.size w w1) (a b : Value) : ∃ w', w1.alloc (.cells #[a, b] 26) = w' ∧ Bag w' (Box2 w1.heap.size a b :: Fs) ∧ Below w.heap.size w w' ∧ Below w1.heap.size w1 w' ∧ w1.heap.size < w'.heap.size := by
  obtain ⟨w2, e2, b2, k4, k5⟩ := box_pair' w1 a b 26
  obtain ⟨k1, k2, _, k3⟩ := two_cells b2
  exact ⟨w2, e2, ((h.below hb).below k5).add ⟨k1, k2, k3⟩ (lasts_box _ _ _), hb.trans (k5.mono hb.size), k5, by omega⟩
def OldN (v : Value) (n : Nd) : World → Prop := fun w => Nod (Old w) w v n
theorem lasts_oldN (v : Value) (n : Nd) : Lasts (OldN v n) := fun _ _ h hb => h.below hb
def OldIs (v : Value) (l : List It) : World → Prop := fun w => rIts (Old w) w [v] l
theorem lasts_oldIs (v : Value) (l : List It) : Lasts (OldIs v l) := fun _ _ h hb => stab_its.old h hb

/-! ### Places -/
theorem cntK_all {l : List It} {k : Ky} : ∀ {i : Nat}, i ≤ l.length → (∀ j x, j < i → l[j]? = some x → lessK x.1 k = true) → cntK (l.take i) k = i
  | 0, _, _ => rfl
  | i + 1, hi, h => by
    have hx : l[i]? = some l[i] := List.getElem?_eq_getElem hi
    rw [cntK_yes hx (h i _ (by omega) hx), cntK_all (by omega) (fun j x hj => h j x (by omega))]
theorem cntK_up (l : List It) (k : Ky) (i : Nat) : cntK (l.take i) k ≤ cntK l k := by
  unfold cntK
  exact ((List.take_sublist i l).filter _).length_le
theorem cntK_stop {l : List It} {k : Ky} {i : Nat} (h : ∀ j x, i ≤ j → l[j]? = some x → lessK x.1 k = false) : cntK l k = cntK (l.take i) k := by
  have e : cntK l k = cntK (l.take i) k + cntK (l.drop i) k := by
    unfold cntK
    rw [← List.length_append, ← List.filter_append, List.take_append_drop]
  have z : cntK (l.drop i) k = 0 := by
    unfold cntK
    rw [List.length_eq_zero_iff, List.filter_eq_nil_iff]
    intro x hx
    obtain ⟨j, hj⟩ := List.mem_iff_getElem?.1 hx
    rw [List.getElem?_drop] at hj
    rw [h (i + j) x (by omega) hj]
    simp
  omega
theorem place_parts {n : Nd} (h : mayN n = true) {k : Ky} {i : Nat} {x : It} (hx : n.2[i]? = some x) : lessK x.1 k = decide (i < placeN n k) := by
  have hi := (List.getElem?_eq_some_iff.1 hx).1
  cases e : lessK x.1 k with
  | true =>
    have h1 : cntK (n.2.take (i + 1)) k = i + 1 := cntK_all (by omega) (fun j y hj hy => by
      rcases Nat.lt_or_ge j i with h2 | h2
      · exact less_trans (mayN_rises h h2 hy hx) e
      · obtain rfl : j = i := by omega
        rw [hx] at hy
        cases hy
        exact e)
    have h2 := cntK_up n.2 k (i + 1)
    have h3 : placeN n k = cntK n.2 k := rfl
    have : i < placeN n k := by omega
    simp [this]
  | false =>
    have h1 : cntK n.2 k = cntK (n.2.take i) k := cntK_stop (fun j y hj hy => by
      rcases Nat.lt_or_ge i j with h2 | h2
      · cases e2 : lessK y.1 k with
        | false => rfl
        | true =>
          have := less_trans (mayN_rises h h2 hx hy) e2
          rw [e] at this
          cases this
      · obtain rfl : i = j := by omega
        rw [hx] at hy
        cases hy
        exact e)
    have h2 := cntK_take n.2 k i
    have h3 : placeN n k = cntK n.2 k := rfl
    have : ¬ i < placeN n k := by omega
    simp [this]
theorem placeN_le (n : Nd) (k : Ky) : placeN n k ≤ n.2.length := cntK_le _ _
theorem place_own {n : Nd} (h : mayN n = true) {i : Nat} {x : It} (hx : n.2[i]? = some x) : placeN n x.1 = i ∧ thereN n x.1 = true := by
  have hi := (List.getElem?_eq_some_iff.1 hx).1
  have h1 : ¬ i < placeN n x.1 := fun h2 => by
    have := place_parts h (k := x.1) hx
    rw [less_self] at this
    simp [h2] at this
  have h2 : placeN n x.1 = i := by
    rcases Nat.eq_zero_or_pos i with h0 | h0
    · omega
    · obtain ⟨j, rfl⟩ : ∃ j, i = j + 1 := ⟨i - 1, by omega⟩
      have hy : n.2[j]? = some n.2[j] := List.getElem?_eq_getElem (by omega)
      have h3 := place_parts h (k := x.1) hy
      rw [mayN_rise h hy hx] at h3
      have : j < placeN n x.1 := by simpa using h3.symm
      omega
  exact ⟨h2, by rw [thereN_at (by rw [h2]; exact hx)]; simp⟩
def anyK (l : List It) (k : Ky) : Bool := l.any fun x => decide (x.1 = k)
theorem anyK_nil (k : Ky) : anyK [] k = false := rfl
theorem anyK_snoc {l : List It} {k : Ky} {i : Nat} {x : It} (hx : l[i]? = some x) : anyK (l.take (i + 1)) k = (anyK (l.take i) k || decide (x.1 = k)) := by
  unfold anyK
  rw [List.take_add_one, hx, Option.toList_some, List.any_append]
  simp
theorem thereN_any {n : Nd} (h : mayN n = true) (k : Ky) : thereN n k = anyK n.2 k := by
  cases e : anyK n.2 k with
  | true =>
    unfold anyK at e
    rw [List.any_eq_true] at e
    obtain ⟨x, hx, hk⟩ := e
    obtain ⟨i, hi⟩ := List.mem_iff_getElem?.1 hx
    have hk' : x.1 = k := by simpa using hk
    rw [← hk']
    exact (place_own h hi).2
  | false =>
    cases e2 : thereN n k with
    | false => rfl
    | true =>
      unfold thereN at e2
      cases e3 : n.2[placeN n k]? with
      | none => rw [e3] at e2; cases e2
      | some x =>
        rw [e3] at e2
        unfold anyK at e
        rw [List.any_eq_false] at e
        exact absurd e2 (by simpa using e x (List.mem_of_getElem? e3))
theorem place_mono {n : Nd} {a b : Ky} (h : lessK a b = true) : placeN n a ≤ placeN n b := by
  show cntK n.2 a ≤ cntK n.2 b
  unfold cntK
  induction n.2 with
  | nil => simp
  | cons x r ih =>
    simp only [List.filter_cons]
    cases e : lessK x.1 a with
    | true => rw [less_trans e h]; simpa using ih
    | false =>
      cases e2 : lessK x.1 b with
      | true => simp; omega
      | false => simpa using ih
end Go.Proofs.Ytpcajbcdahcehaa
