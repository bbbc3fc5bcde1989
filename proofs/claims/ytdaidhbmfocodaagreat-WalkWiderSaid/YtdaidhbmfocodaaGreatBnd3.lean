/-
  Lemmas on the program and on the document's answers, gathered: ItSame, ItWrite, ItRead, Alive05, Bag05, Node, NdCut, NdCut2, NdCheck, NdWrite, NdRead, RmNode, NdPlace, NdBack, FnPlain, DrPlain, RmSame, RmRefN, Spoil05, NdBag, CntChunk, CntWrite, CntRefW, StoZero, RmRefT, DrMake, RmAlive, FnMade, FnKeep, FnSpan, FnPlace, WkPlain, FnLeaf, FnInner, FnTree, WkMade, FnOne, NdTwin, FnItems, DrRefer, DrMk, DrLaw. Conditions: those that each lemma states.
-/
import Derived.Test.YtdaidhbmfocodaaGreatBnd2
import Derived.Deep.CutBlock
import Derived.Deep.CutRange
import Derived.Laws.StructEq
import Derived.WalkLawsBesides
import Derived.Sort.QuietIn
import Derived.Sort.CutIn
/-
  Package item and the document's answers of layer 5: Same, Twin. Conditions: those that each lemma states.
-/
namespace Go.Proofs.YtdaidhbmfocodaaGreat
open Go.RowKit

def sameI (s o : It) : Bool := decide (s = o)
theorem sameI_self (s : It) : sameI s s = true := by simp [sameI]
theorem sameI_eq {s o : It} (h : sameI s o = true) : s = o := by simpa [sameI] using h
theorem same_parts (a1 b1 : UInt8) (a2 b2 a3 b3 a4 b4 : Int) (a5 b5 : List UInt8) : sameI ((a1, a2, a3), a4, a5) ((b1, b2, b3), b4, b5) = decide ((a1.toNat : Int) = b1.toNat ∧ a2 = b2 ∧ a3 = b3 ∧ a4 = b4 ∧ a5 = b5) := by
  unfold sameI
  rw [Bool.eq_iff_iff]
  simp only [Prod.mk.injEq, decide_eq_true_eq]
  have h : a1 = b1 ↔ (a1.toNat : Int) = b1.toNat := ⟨fun h => by rw [h], fun h => UInt8.toNat.inj (by omega)⟩
  rw [h]
  constructor
  · rintro ⟨⟨h1, h2, h3⟩, h4, h5⟩; exact ⟨h1, h2, h3, h4, h5⟩
  · rintro ⟨h1, h2, h3, h4, h5⟩; exact ⟨⟨h1, h2, h3⟩, h4, h5⟩
set_option maxRecDepth 100000 in
set_option maxHeartbeats 4000000 in
theorem sameI_any (v u : Value) (s o : It) (w : World) (hv : Itm (Old w) w v s) (hu : Itm (Old w) w u o) :
    Calls Tryz.prog 21 #[v, u] w fun e w' => e = .returned (.bool (sameI s o)) ∧ Below w.heap.size w w' := by
  obtain ⟨A, c, rfl, _, _, _, rv⟩ := hv.open
  obtain ⟨B, c', rfl, _, _, _, ru⟩ := hu.open
  obtain ⟨⟨a1, a2, a3⟩, a4, a5⟩ := s
  obtain ⟨⟨b1, b2, b3⟩, b4, b5⟩ := o
  unfold itV
  dsimp only at *
  have hfin := Lib.hid (same_parts a1 b1 a2 b2 a3 b3 a4 b4 a5 b5)
  generalize sameI ((a1, a2, a3), a4, a5) ((b1, b2, b3), b4, b5) = res at hfin ⊢
  obtain ⟨w1, hw1, f1, f2, f3, f4, f5, hs1, hB1, _⟩ := box_five w (.int .u8 (a1.toNat : Int)) (.int .u32 a2) (.int .u32 a3) (.int .i64 a4) (.slice A a5.length c) 52
  obtain ⟨w2, hw2, g1, g2, g3, g4, g5, hs2, hB2, _⟩ := box_five w1 (.int .u8 (b1.toNat : Int)) (.int .u32 b2) (.int .u32 b3) (.int .i64 b4) (.slice B b5.length c') 52
  have hB := hB1.trans (hB2.mono hB1.size)
  have k1 := (hB2.cell (p := ⟨w.heap.size, 0, none⟩) (show w.heap.size < _ by omega)).trans f1
  have k2 := (hB2.cell (p := ⟨w.heap.size, 1, none⟩) (show w.heap.size < _ by omega)).trans f2
  have k3 := (hB2.cell (p := ⟨w.heap.size, 2, none⟩) (show w.heap.size < _ by omega)).trans f3
  have k4 := (hB2.cell (p := ⟨w.heap.size, 3, none⟩) (show w.heap.size < _ by omega)).trans f4
  have k5 := (hB2.cell (p := ⟨w.heap.size, 4, none⟩) (show w.heap.size < _ by omega)).trans f5
  have xv := Lib.hid (stab_by.old rv hB)
  have xu := Lib.hid (stab_by.old ru hB)
  clear f1 f2 f3 f4 f5 hv hu rv ru hB1 hB2
  replace hB := Lib.hid hB
  replace hs1 := Lib.hid hs1
  replace hs2 := Lib.hid hs2
  replace hw2 := Lib.hid hw2
  go_enter Tryz.func21, Tryz.ntmps21
  go_upto_region 1 with fail
  rw [hw2.out]
  clear hw1 hw2
  generalize (a1.toNat : Int) = p at *
  generalize (b1.toNat : Int) = q at *
  by_cases e1 : p = q
  case neg =>
    have t1 : (p == q) = false := by simpa using e1
    have hne := Lib.hid (show res = false by rw [hfin.out]; simp [e1])
    go_wp2_with fail
    go_ret
    exact ⟨ret_bool hne.out.symm, hB.out⟩
  by_cases e2 : a2 = b2
  case neg =>
    have t1 : (p == q) = true := by simpa using e1
    have t2 : (a2 == b2) = false := by simpa using e2
    have hne := Lib.hid (show res = false by rw [hfin.out]; simp [e2])
    go_wp2_with fail
    go_ret
    exact ⟨ret_bool hne.out.symm, hB.out⟩
  by_cases e3 : a3 = b3
  case neg =>
    have t1 : (p == q) = true := by simpa using e1
    have t2 : (a2 == b2) = true := by simpa using e2
    have t3 : (a3 == b3) = false := by simpa using e3
    have hne := Lib.hid (show res = false by rw [hfin.out]; simp [e3])
    go_wp2_with fail
    go_ret
    exact ⟨ret_bool hne.out.symm, hB.out⟩
  by_cases e4 : a4 = b4
  case neg =>
    have t1 : (p == q) = true := by simpa using e1
    have t2 : (a2 == b2) = true := by simpa using e2
    have t3 : (a3 == b3) = true := by simpa using e3
    have t4 : (a4 == b4) = false := by simpa using e4
    have hne := Lib.hid (show res = false by rw [hfin.out]; simp [e4])
    clear e4
    go_wp2_with fail
    go_ret
    exact ⟨ret_bool hne.out.symm, hB.out⟩
  have t4 : (a4 == b4) = true := by simpa using e4
  have hne := Lib.hid (show res = decide (a5 = b5) by rw [hfin.out]; simp [e1, e2, e3, e4])
  clear e4
  go_wp2_with fail
  with_reducible refine (equal_any _ _ a5 b5 _ xv.out xu.out).mono ?_
  rintro e w3 ⟨rfl, rfl⟩
  go_wp2_with fail
  go_ret
  exact ⟨ret_bool hne.out.symm, hB.out⟩

theorem put_last {W : World} {g : Nat} {a b c d e u : Value} {t : TypeId} (h : W.heap[g]? = some (.cells #[a, b, c, d, e] t (0, 0))) : ∃ W1, W.setCell ⟨g, 4, none⟩ u = W1 ∧ W1.heap[g]? = some (.cells #[a, b, c, d, u] t (0, 0)) ∧ W.grownBy W1 (some g) ∧ W1.heap.size = W.heap.size :=
  ⟨_, rfl, by simp [World.setCell, Array.getElem?_modify, h], grow_put (p := ⟨g, 4, none⟩) (grow_refl W (some g)) rfl u, by simp⟩
set_option maxRecDepth 100000 in
set_option maxHeartbeats 4000000 in
theorem twinI_any (v : Value) (s : It) (w : World) (hbig : s.2.2.length ≤ 1000000000) (h : Itm (Old w) w v s) :
    Calls Tryz.prog 113 #[v] w fun e w' => ∃ u, e = .returned u ∧ Itm (New w.heap.size w') w' u s ∧ Below w.heap.size w w' := by
  obtain ⟨A, c, rfl, hin, _, _, rv⟩ := h.open
  obtain ⟨⟨a1, a2, a3⟩, a4, a5⟩ := s
  unfold itV
  dsimp only at *
  obtain ⟨w1, hw1, f1, f2, f3, f4, f5, hs1, hB1, b1⟩ := box_five w (.int .u8 (a1.toNat : Int)) (.int .u32 a2) (.int .u32 a3) (.int .i64 a4) (.slice A a5.length c) 52
  obtain ⟨w2, hw2, _, _, _, _, _, hs2, hB2, b2⟩ := box_five w1 (.int .u8 0) (.int .u32 0) (.int .u32 0) (.int .i64 0) (.slice none 0 0) 52
  have hB := hB1.trans (hB2.mono hB1.size)
  have lt1 : w.heap.size < w1.heap.size := by omega
  have lt2 : w1.heap.size < w2.heap.size := by omega
  have b1' := Lib.hid ((hB2.block w.heap.size lt1).trans b1)
  have k5 := (hB2.cell (p := ⟨w.heap.size, 4, none⟩) lt1).trans f5
  have xv := Lib.hid (stab_by.old rv hB)
  clear f1 f2 f3 f4 f5 h rv hB1 hB2 b1
  replace hB := Lib.hid hB
  replace hs1 := Lib.hid hs1
  replace hs2 := Lib.hid hs2
  replace b2 := Lib.hid b2
  replace hw2 := Lib.hid hw2
  replace hbig := Lib.hid hbig
  go_enter Tryz.func113, Tryz.ntmps113
  go_upto_region 1 with fail
  rw [hw2.out]
  clear hw1 hw2
  go_wp2_with fail
  with_reducible refine (clone_by _ a5 _ (by have := hbig.out; omega) xv.out).mono ?_
  rintro e w3 ⟨u, rfl, hu, hb3⟩
  have lt3 : w2.heap.size ≤ w3.heap.size := hb3.size
  have c1 := (hb3.block w.heap.size (by omega)).trans b1'.out
  have c2 := (hb3.block w1.heap.size (by omega)).trans b2.out
  obtain ⟨k0, k1, k2, k3, _, kf, _⟩ := five_cells c1
  obtain ⟨w4, hw4, d1, gr4, gs4⟩ := put_last (u := u) c1
  obtain ⟨l0, l1, l2, l3, l4, _, _⟩ := five_cells d1
  have d2 := (gr4.block w1.heap.size (by omega) (by simp; omega)).trans c2
  obtain ⟨W9, hW9, g9, gr9, gs9⟩ := put_five (u0 := .int .u8 (a1.toNat : Int)) (u1 := .int .u32 a2) (u2 := .int .u32 a3) (u3 := .int .i64 a4) (u4 := u) d2
  obtain ⟨m0, m1, m2, m3, m4, _, _⟩ := five_cells g9
  obtain ⟨n0, n1, n2, n3, n4, nf, _⟩ := five_cells d2
  have B3 := hB.out.trans (hb3.mono hB.out.size)
  have B4 := B3.grown gr4 B3.size (fun q e => by cases e; omega)
  have B9 := Lib.hid (B4.grown gr9 B4.size (fun q e => by cases e; omega))
  have hfin : Hid (Itm (New w.heap.size W9) W9 (.agg #[.int .u8 (a1.toNat : Int), .int .u32 a2, .int .u32 a3, .int .i64 a4, u]) ((a1, a2, a3), a4, a5)) := Lib.hid ⟨u, rfl, hin, by
    have h1 := stab_by.grown hu gr4 (fun q e => by cases e; omega)
    have h2 := stab_by.grown h1 gr9 (fun q e => by cases e; omega)
    exact stab_by.mono h2 (by omega)⟩
  obtain ⟨_, _, rfl, _⟩ := id (rBy_open hu)
  clear c1 c2 d1 d2 g9 gr4 gr9 hu B3 B4 hb3 lt3
  replace hs1 := Lib.hid lt1
  replace hs2 := Lib.hid lt2
  clear lt1 lt2
  go_wp2_with fail
  exact bodyPost_ret (v := .agg #[.int .u8 (a1.toNat : Int), .int .u32 a2, .int .u32 a3, .int .i64 a4, .slice _ _ _]) (by simp [results, Tryz.results113, go_sem, m0, m1, m2, m3, m4]) rfl ⟨_, rfl, hfin.out, B9.out⟩

end Go.Proofs.YtdaidhbmfocodaaGreat

/-
  Package item: Write. Conditions: those that each lemma states.
-/
namespace Go.Proofs.YtdaidhbmfocodaaGreat
open Go.RowKit

theorem itB_flat (s : It) : [[s.1.1], le 4 s.1.2.1, le 4 s.1.2.2, le 2 s.2.1, [UInt8.ofNat s.2.2.length], s.2.2].flatten = itB s := by simp [itB]

set_option maxRecDepth 100000 in
set_option maxHeartbeats 8000000 in
theorem itWrite_ok (v : Value) (s : It) (w : World) (h : Itm (Old w) w v s) (hm : mayI s = true) :
    Calls Tryz.prog 69 #[v] w fun e w' => ∃ u, e = .returned (.tuple #[u, .int .i64 0]) ∧ rBy (New w.heap.size w') w' [u] (itB s) ∧ Below w.heap.size w w' := by
  have hmay := mayI_of hm
  have hchk := Lib.hid (chkI_ok hm)
  have hlen := Lib.hid (itB_length s)
  obtain ⟨A, c, rfl, hin, l1, m1, rv⟩ := h.open
  obtain ⟨⟨⟨g0, g1⟩, ⟨n0, n1⟩⟩, _⟩ := hin
  have hhead := Lib.hid (itB_flat s)
  obtain ⟨w0, hw0, f1, f2, f3, f4, f5, hs0, hB0, _⟩ := box_five w (.int .u8 (s.1.1.toNat : Int)) (.int .u32 s.1.2.1) (.int .u32 s.1.2.2) (.int .i64 s.2.1) (.slice A s.2.2.length c) 52
  have H0 := Lib.hid (h.below hB0)
  have RV := Lib.hid (stab_by.old rv hB0)
  clear rv
  obtain ⟨n, hn⟩ : ∃ n, s.2.2.length = n := ⟨_, rfl⟩
  unfold itV at H0 ⊢
  rw [hn] at l1 f5 H0 hw0 RV hmay hlen hhead ⊢
  have h12 : n ≤ 12 := hmay.2
  have hr0 : 0 ≤ s.2.1 ∧ s.2.1 < 65536 := by have := hmay.1; omega
  have hu8 : ((UInt8.ofNat n).toNat : Int) = (n : Int) := by
    rw [UInt8.toNat_ofNat']
    omega
  have HU := Lib.hid hu8
  have HWR := Lib.hid (show IntKind.u8.wrap (n : Int) = n by rw [IntKind.wrap_u8']; omega)
  obtain ⟨p, hp⟩ : ∃ p : Int, (s.1.1.toNat : Int) = p := ⟨_, rfl⟩
  have HP := Lib.hid hp
  rw [hp] at f1 hw0 H0 ⊢
  clear hp hmay
  replace hn := Lib.hid hn
  have lt0 : w.heap.size < w0.heap.size := by omega
  have HB0 := Lib.hid hB0
  clear hB0 hs0 h hu8
  go_enter Tryz.func69, Tryz.ntmps69
  go_upto_region 1 with fail
  clear hw0
  go_wp2_with fail
  with_reducible refine (checkI_any _ s _ H0.out).mono ?_
  rintro e1 w1 ⟨rfl, hb1⟩
  rw [hchk.out]
  have B1 := Lib.hid hb1
  replace f1 := (hb1.cell (p := ⟨w.heap.size, 0, none⟩) lt0).trans f1
  replace f2 := (hb1.cell (p := ⟨w.heap.size, 1, none⟩) lt0).trans f2
  replace f3 := (hb1.cell (p := ⟨w.heap.size, 2, none⟩) lt0).trans f3
  replace f4 := (hb1.cell (p := ⟨w.heap.size, 3, none⟩) lt0).trans f4
  replace f5 := (hb1.cell (p := ⟨w.heap.size, 4, none⟩) lt0).trans f5
  clear hb1 H0
  go_wp2_with fail
  with_reducible refine (two_by s.2.1 hr0.1 hr0.2 _).mono ?_
  rintro e2 w2 ⟨A2, rfl, y2, hb2⟩
  have lt1 : w.heap.size < w1.heap.size := Nat.lt_of_lt_of_le lt0 B1.out.size
  replace f1 := (hb2.cell (p := ⟨w.heap.size, 0, none⟩) lt1).trans f1
  replace f2 := (hb2.cell (p := ⟨w.heap.size, 1, none⟩) lt1).trans f2
  replace f3 := (hb2.cell (p := ⟨w.heap.size, 2, none⟩) lt1).trans f3
  replace f5 := (hb2.cell (p := ⟨w.heap.size, 4, none⟩) lt1).trans f5
  have B2 := Lib.hid (B1.out.trans (hb2.mono B1.out.size))
  replace y2 := Lib.hid y2
  replace RV := Lib.hid (stab_by.old RV.out B2.out)
  have lt2 : w.heap.size < w2.heap.size := Nat.lt_of_lt_of_le lt1 hb2.size
  clear f4 hb2
  go_wp2_with fail
  refine wp_region_as (by kernel_rfl) (fun W => Below w2.heap.size w2 W) (fun i => match i with
      | 3 => some (fun v W => rBy (Old W) W [v] [s.1.1])
      | 7 => some (fun v W => rBy (Old W) W [v] (le 4 s.1.2.1))
      | 11 => some (fun v W => rBy (Old W) W [v] (le 4 s.1.2.2))
      | 17 => some (fun v W => rBy (Old W) W [v] [UInt8.ofNat n])
      | 20 => some (fun v W => rSl 1 rBy (Old W) W [v] [[s.1.1], le 4 s.1.2.1, le 4 s.1.2.2, le 2 s.2.1, [UInt8.ofNat n], s.2.2])
      | 21 => some (fun v W => rBy (New w2.heap.size W) W [v] (itB s))
      | _ => none) (by kernel_rfl) (Below.refl _ _).drew (fun w w' h hb => h.trans (hb.mono h.size)) ?tst ?_
  case tst =>
    intro j φ x W W' hp hx hb
    match j, hp with
    | 3, hp => cases hp; exact stab_by.old hx hb
    | 7, hp => cases hp; exact stab_by.old hx hb
    | 11, hp => cases hp; exact stab_by.old hx hb
    | 17, hp => cases hp; exact stab_by.old hx hb
    | 20, hp => cases hp; exact (stab_sl stab_by).old hx hb
    | 21, hp => cases hp; exact stab_by.new hx (Nat.le_refl _) hb
  repeat (first
    | (refine wpAs_skip rfl ?_; simp only [Act.put, List.setIfInBounds_toArray, List.set_cons_zero, List.set_cons_succ])
    | (refine wpAs_pure (v := ?_) rfl rfl ?_ ?_; rotate_left; (intro W hC hE; clear hE; (have z1 := (hC.cell (p := ⟨w.heap.size, 0, none⟩) lt2).trans f1); clear hC; go_simp; done); simp only [Act.put, List.setIfInBounds_toArray, List.set_cons_zero, List.set_cons_succ])
    | (refine wpAs_pure (v := ?_) rfl rfl ?_ ?_; rotate_left; (intro W hC hE; clear hE; (have z1 := (hC.cell (p := ⟨w.heap.size, 0, none⟩) lt2).trans f1); clear hC; go_simp; with_reducible rfl); simp only [Act.put, List.setIfInBounds_toArray, List.set_cons_zero, List.set_cons_succ]))
  refine wpAs_act rfl rfl ?_ ?_
  · intro W hC hE
    clear hE hC
    have hy2 := Lib.hid (byte_lit W 5 s.1.1 p HP.out)
    go_simp
    exact ⟨hy2.out, (Below.refl _ _).alloc (Nat.le_refl _) _⟩
  simp only [Act.put, List.setIfInBounds_toArray, List.set_cons_zero, List.set_cons_succ, envAdd]
  intro x24
  repeat (first
    | (refine wpAs_skip rfl ?_; simp only [Act.put, List.setIfInBounds_toArray, List.set_cons_zero, List.set_cons_succ])
    | (refine wpAs_pure (v := ?_) rfl rfl ?_ ?_; rotate_left; (intro W hC hE; clear hE; (have z2 := (hC.cell (p := ⟨w.heap.size, 1, none⟩) lt2).trans f2); clear hC; go_simp; done); simp only [Act.put, List.setIfInBounds_toArray, List.set_cons_zero, List.set_cons_succ])
    | (refine wpAs_pure (v := ?_) rfl rfl ?_ ?_; rotate_left; (intro W hC hE; clear hE; (have z2 := (hC.cell (p := ⟨w.heap.size, 1, none⟩) lt2).trans f2); clear hC; go_simp; with_reducible rfl); simp only [Act.put, List.setIfInBounds_toArray, List.set_cons_zero, List.set_cons_succ]))
  refine wpAs_act rfl rfl ?_ ?_
  · intro W hC hE
    clear hE
    refine does_enter (f := 95) (args := #[.int .u32 s.1.2.1]) ?_ ?_
    · go_simp
    · refine (four_by s.1.2.1 g0 g1 W).mono ?_
      rintro e W' ⟨_, _, rfl, hy, hb⟩
      exact ⟨_, rfl, hy, hb⟩
  simp only [Act.put, List.setIfInBounds_toArray, List.set_cons_zero, List.set_cons_succ, envAdd]
  intro x28
  repeat (first
    | (refine wpAs_skip rfl ?_; simp only [Act.put, List.setIfInBounds_toArray, List.set_cons_zero, List.set_cons_succ])
    | (refine wpAs_pure (v := ?_) rfl rfl ?_ ?_; rotate_left; (intro W hC hE; clear hE; (have z3 := (hC.cell (p := ⟨w.heap.size, 2, none⟩) lt2).trans f3); clear hC; go_simp; done); simp only [Act.put, List.setIfInBounds_toArray, List.set_cons_zero, List.set_cons_succ])
    | (refine wpAs_pure (v := ?_) rfl rfl ?_ ?_; rotate_left; (intro W hC hE; clear hE; (have z3 := (hC.cell (p := ⟨w.heap.size, 2, none⟩) lt2).trans f3); clear hC; go_simp; with_reducible rfl); simp only [Act.put, List.setIfInBounds_toArray, List.set_cons_zero, List.set_cons_succ]))
  refine wpAs_act rfl rfl ?_ ?_
  · intro W hC hE
    clear hE
    refine does_enter (f := 95) (args := #[.int .u32 s.1.2.2]) ?_ ?_
    · go_simp
    · refine (four_by s.1.2.2 n0 n1 W).mono ?_
      rintro e W' ⟨_, _, rfl, hy, hb⟩
      exact ⟨_, rfl, hy, hb⟩
  simp only [Act.put, List.setIfInBounds_toArray, List.set_cons_zero, List.set_cons_succ, envAdd]
  intro x32
  repeat (first
    | (refine wpAs_skip rfl ?_; simp only [Act.put, List.setIfInBounds_toArray, List.set_cons_zero, List.set_cons_succ])
    | (refine wpAs_pure (v := ?_) rfl rfl ?_ ?_; rotate_left; (intro W hC hE; clear hE; (have hwz := HWR.out; have z5 := (hC.cell (p := ⟨w.heap.size, 4, none⟩) lt2).trans f5); clear hC; go_simp; done); simp only [Act.put, List.setIfInBounds_toArray, List.set_cons_zero, List.set_cons_succ])
    | (refine wpAs_pure (v := ?_) rfl rfl ?_ ?_; rotate_left; (intro W hC hE; clear hE; (have hwz := HWR.out; have z5 := (hC.cell (p := ⟨w.heap.size, 4, none⟩) lt2).trans f5); clear hC; go_simp; with_reducible rfl); simp only [Act.put, List.setIfInBounds_toArray, List.set_cons_zero, List.set_cons_succ]))
  refine wpAs_act rfl rfl ?_ ?_
  · intro W hC hE
    clear hE hC
    have hy2 := Lib.hid (byte_lit W 5 (UInt8.ofNat n) (n : Int) HU.out)
    go_simp
    exact ⟨hy2.out, (Below.refl _ _).alloc (Nat.le_refl _) _⟩
  simp only [Act.put, List.setIfInBounds_toArray, List.set_cons_zero, List.set_cons_succ, envAdd]
  intro x38
  repeat (first
    | (refine wpAs_skip rfl ?_; simp only [Act.put, List.setIfInBounds_toArray, List.set_cons_zero, List.set_cons_succ])
    | (refine wpAs_pure (v := ?_) rfl rfl ?_ ?_; rotate_left; (intro W hC hE; clear hE; (have z5 := (hC.cell (p := ⟨w.heap.size, 4, none⟩) lt2).trans f5); clear hC; go_simp; done); simp only [Act.put, List.setIfInBounds_toArray, List.set_cons_zero, List.set_cons_succ])
    | (refine wpAs_pure (v := ?_) rfl rfl ?_ ?_; rotate_left; (intro W hC hE; clear hE; (have z5 := (hC.cell (p := ⟨w.heap.size, 4, none⟩) lt2).trans f5); clear hC; go_simp; with_reducible rfl); simp only [Act.put, List.setIfInBounds_toArray, List.set_cons_zero, List.set_cons_succ]))
  refine wpAs_act rfl rfl ?_ ?_
  · intro W hC hE
    have y38 := hE.1 rfl
    have y32 := hE.2.1 rfl
    have y28 := hE.2.2.1 rfl
    have y24 := hE.2.2.2.1 rfl
    have hl6 := Lib.hid (rows_lit W 27 [x24, x28, x32, .slice A2 2 2, x38, .slice A n c] [[s.1.1], le 4 s.1.2.1, le 4 s.1.2.2, le 2 s.2.1, [UInt8.ofNat n], s.2.2] rfl (by simp) (fun i v x h1 h2 => by
      match i, h1, h2 with
      | 0, h1, h2 => cases h1; cases h2; exact y24
      | 1, h1, h2 => cases h1; cases h2; exact y28
      | 2, h1, h2 => cases h1; cases h2; exact y32
      | 3, h1, h2 => cases h1; cases h2; exact stab_by.old y2.out hC
      | 4, h1, h2 => cases h1; cases h2; exact y38
      | 5, h1, h2 => cases h1; cases h2; exact stab_by.old RV.out hC))
    obtain ⟨_, _, rfl, _⟩ := rBy_open y24
    obtain ⟨_, _, rfl, _⟩ := rBy_open y28
    obtain ⟨_, _, rfl, _⟩ := rBy_open y32
    obtain ⟨_, _, rfl, _⟩ := rBy_open y38
    clear hE hC y24 y28 y32 y38
    go_simp
    exact ⟨hl6.out, (Below.refl _ _).alloc (Nat.le_refl _) _⟩
  simp only [Act.put, List.setIfInBounds_toArray, List.set_cons_zero, List.set_cons_succ, envAdd]
  intro x41
  refine wpAs_act rfl rfl ?_ ?_
  · intro W hC hE
    have y41 := hE.1 rfl
    have hlen2 : lens [[s.1.1], le 4 s.1.2.1, le 4 s.1.2.2, le 2 s.2.1, [UInt8.ofNat n], s.2.2] = 12 + n := by
      unfold lens
      rw [hhead.out, hlen.out]
    refine does_enter (f := 94) (args := #[x41]) ?_ ?_
    · clear hE hC hlen2
      obtain ⟨_, _, e, _⟩ := rows_open y41
      cases e
      clear y41
      go_simp
    · refine (concat_any x41 _ W (by rw [hlen2]; omega) y41).mono ?_
      rintro e W' ⟨u, rfl, ho, hb⟩
      rw [hlen2, hhead.out] at ho
      exact ⟨_, rfl, stab_by.mono (own_by ho) hC.size, hb⟩
  simp only [Act.put, List.setIfInBounds_toArray, List.set_cons_zero, List.set_cons_succ, envAdd]
  intro x42
  refine wpAs_pure (v := x42) rfl rfl ?_ ?_
  · intro W hC hE
    clear hE hC
    go_simp
  simp only [Act.put, List.setIfInBounds_toArray, List.set_cons_zero, List.set_cons_succ]
  repeat (first
    | (refine wpAs_skip rfl ?_; simp only [Act.put, List.setIfInBounds_toArray, List.set_cons_zero, List.set_cons_succ])
    | (refine wpAs_pure (v := ?_) rfl rfl ?_ ?_; rotate_left; (intro W hC hE; clear hE; skip; clear hC; go_simp; done); simp only [Act.put, List.setIfInBounds_toArray, List.set_cons_zero, List.set_cons_succ])
    | (refine wpAs_pure (v := ?_) rfl rfl ?_ ?_; rotate_left; (intro W hC hE; clear hE; skip; clear hC; go_simp; with_reducible rfl); simp only [Act.put, List.setIfInBounds_toArray, List.set_cons_zero, List.set_cons_succ]))
  refine wpAs_end fun W hC hE => ?_
  have o42 := Lib.hid hE.1
  clear hE
  have BW := Lib.hid (HB0.out.trans ((B2.out.trans (hC.mono B2.out.size)).mono HB0.out.size))
  clear hC
  go_wp2_with fail
  go_ret2
  exact ⟨_, rfl, stab_by.mono o42.out (Nat.le_of_lt lt2), BW.out⟩

theorem itWrite_any (v : Value) (s : It) (w : World) (h : Itm (Old w) w v s) :
    Calls Tryz.prog 69 #[v] w fun e w' => ∃ u, e = .returned (.tuple #[u, .int .i64 (chkI s)]) ∧ rBy (New w.heap.size w') w' [u] (wrI s) ∧ Below w.heap.size w w' := by
  cases hm : mayI s with
  | true =>
    rw [chkI_ok hm, show wrI s = itB s by simp [wrI, hm]]
    exact itWrite_ok v s w h hm
  | false =>
    rw [chkI_bad hm, show wrI s = [] by simp [wrI, hm]]
    have hchk := Lib.hid (chkI_bad hm)
    replace hm := Lib.hid hm
    obtain ⟨A, c, rfl, _⟩ := h.open
    obtain ⟨w0, hw0, f1, f2, f3, f4, f5, hs0, hB0, _⟩ := box_five w (.int .u8 (s.1.1.toNat : Int)) (.int .u32 s.1.2.1) (.int .u32 s.1.2.2) (.int .i64 s.2.1) (.slice A s.2.2.length c) 52
    have H0 := Lib.hid (h.below hB0)
    have HB0 := Lib.hid hB0
    clear hB0 hs0 h
    go_enter Tryz.func69, Tryz.ntmps69
    go_upto_region 1 with fail
    clear hw0
    go_wp2_with fail
    with_reducible refine (checkI_any _ s _ H0.out).mono ?_
    rintro e1 w1 ⟨rfl, hb1⟩
    rw [hchk.out]
    have BF := Lib.hid (HB0.out.trans (hb1.mono HB0.out.size))
    clear hb1
    go_wp2_with fail
    go_ret2
    exact ⟨_, rfl, rBy_nil_new _ _, BF.out⟩
end Go.Proofs.YtdaidhbmfocodaaGreat

/-
  Package item: cut, fields, Read. Conditions: those that each lemma states.
-/
namespace Go.Proofs.YtdaidhbmfocodaaGreat
open Go.RowKit

/-! ### What bytes tell -/
def cutN (b : List UInt8) : Nat := (b[11]?.getD 0).toNat
theorem cutN_lt (b : List UInt8) : cutN b < 256 := (b[11]?.getD 0).toNat_lt
def okC (b : List UInt8) : Bool := decide (12 + cutN b ≤ b.length)
def cutV (b : List UInt8) : List UInt8 := if okC b then (b.drop 12).take (cutN b) else []
def cutE (b : List UInt8) : Int := if okC b then 0 else 8
def fieldsI (b : List UInt8) : It := ((b[0]?.getD 0, gv 4 b 1, gv 4 b 5), gv 2 b 9, (b.drop 12).take (cutN b))
def fldI (b : List UInt8) : It := if okC b then fieldsI b else zeroI
theorem okC_yes {b : List UInt8} (h : okC b = true) : 12 + cutN b ≤ b.length := by simpa [okC] using h
theorem okC_no {b : List UInt8} (h : okC b = false) : ¬ 12 + cutN b ≤ b.length := by simpa [okC] using h
theorem inI_fields (b : List UInt8) : InI (fieldsI b) := ⟨⟨gv4_in _ _, gv4_in _ _⟩, gv2_in _ _⟩
theorem fieldsI_length {b : List UInt8} (h : okC b = true) : (fieldsI b).2.2.length = cutN b := by
  have := okC_yes h
  simp [fieldsI]
  omega
def okR (b : List UInt8) : Bool := okC b && mayI (fldI b)
def itR (b : List UInt8) : It := if okR b then fieldsI b else zeroI
def itN (b : List UInt8) : Int := if okR b then (12 + cutN b : Int) else 0
def itE (b : List UInt8) : Int := if okR b then 0 else 8

/-- A part of bytes. -/
theorem rBy_part {ok : Addr → Prop} {w : World} {ad : Addr} {n c : Nat} {b : List UInt8} (h : rBy ok w [.slice (some ad) n c] b) (k m cap : Nat) (hk : k + m ≤ b.length) (hm : m ≤ cap) (hc : cap ≤ 9223372036854775807) : rBy ok w [.slice (some (ad.add k)) m cap] ((b.drop k).take m) := by
  obtain ⟨A, c', e, _, _, h4⟩ := h
  cases e
  have hl : ((b.drop k).take m).length = m := by simp; omega
  refine ⟨some (ad.add k), cap, by rw [hl], by rw [hl]; exact hm, hc, fun i x hi => ?_⟩
  have him : i < m := by rw [← hl]; exact (List.getElem?_eq_some_iff.1 hi).1
  have hi' : b[k + i]? = some x := by
    rw [List.getElem?_take_of_lt him, List.getElem?_drop] at hi
    exact hi
  obtain ⟨ad', vs, e1, e2, e3, e4⟩ := h4 (k + i) x hi'
  cases e1
  refine ⟨ad.add k, vs, rfl, e2, fun j v hj => ?_, e4⟩
  have := e3 j v hj
  rw [add_add', show k + (i * 1 + j) = (k + i) * 1 + j by omega]
  exact this
theorem rBy_part0 (ok : Addr → Prop) (w : World) (A : Option Addr) : rBy ok w [.slice A 0 0] [] := ⟨A, 0, rfl, by simp, by omega, fun i x h => by simp at h⟩

set_option maxRecDepth 100000 in
set_option maxHeartbeats 2000000 in
theorem cut_any (ok : Addr → Prop) (v : Value) (b : List UInt8) (w : World) (h : rBy ok w [v] b) :
    Calls Tryz.prog 138 #[v] w fun e w' => ∃ u, e = .returned (.tuple #[u, .int .i64 (cutE b)]) ∧ rBy ok w' [u] (cutV b) ∧ w = w' := by
  obtain ⟨A, c, rfl, l1, m1, hy⟩ := rBy_open h
  obtain ⟨n, hn⟩ : ∃ n, b.length = n := ⟨_, rfl⟩
  have hcn := cutN_lt b
  cases hok : okC b with
  | false =>
    have hno := okC_no hok
    have hE := Lib.hid (show cutE b = 8 by simp [cutE, hok])
    have hV := Lib.hid (show cutV b = [] by simp [cutV, hok])
    rw [hE.out, hV.out]
    by_cases h12 : n < 12
    · have i1 : (n : Int) < 12 := by omega
      rw [hn] at l1 ⊢
      clear hok hno hn hy h
      go_enter Tryz.func138, Tryz.ntmps138
      go_wp2_with fail
      go_ret2
      exact ⟨_, rfl, rBy_part0 _ _ _, rfl⟩
    · obtain ⟨ad, rfl, _, hc⟩ := hy 11 (by omega)
      have h11 : w.cell? ⟨ad.block, ad.off + 11, none⟩ = some (.int .u8 (cutN b : Int)) := by simpa [Addr.add, cutN] using hc
      obtain ⟨k, hk⟩ : ∃ k, cutN b = k := ⟨_, rfl⟩
      rw [hk] at h11 hno hcn
      rw [hn] at l1 hno ⊢
      have i1 : ¬ (n : Int) < 12 := by omega
      have i2 : (n : Int) < 12 + k := by omega
      clear hok hno hn hy h hc hk
      go_enter Tryz.func138, Tryz.ntmps138
      go_wp2_with fail
      go_ret2
      exact ⟨_, rfl, rBy_part0 _ _ _, rfl⟩
  | true =>
    have hyes := okC_yes hok
    have hE := Lib.hid (show cutE b = 0 by simp [cutE, hok])
    have hV := Lib.hid (show cutV b = (b.drop 12).take (cutN b) by simp [cutV, hok])
    rw [hE.out, hV.out]
    obtain ⟨ad, rfl, _, hc⟩ := hy 11 (by omega)
    have h11 : w.cell? ⟨ad.block, ad.off + 11, none⟩ = some (.int .u8 (cutN b : Int)) := by simpa [Addr.add, cutN] using hc
    obtain ⟨k, hk⟩ : ∃ k, cutN b = k := ⟨_, rfl⟩
    rw [hk] at h11 hyes hcn ⊢
    rw [hn] at l1 hyes ⊢
    have i1 : ¬ (n : Int) < 12 := by omega
    have i2 : ¬ (n : Int) < 12 + k := by omega
    clear hok hE hV hc
    rcases Nat.eq_zero_or_pos k with h0 | h0
    · subst h0
      rw [List.take_zero]
      go_enter Tryz.func138, Tryz.ntmps138
      go_wp2_with fail
      go_ret2
      exact ⟨_, rfl, rBy_part0 _ _ _, rfl⟩
    · have hfin : Hid (rBy ok w [.slice (some ⟨ad.block, ad.off + 12, none⟩) k k] ((b.drop 12).take k)) := Lib.hid (by
        have h1 : ad.add 12 = ⟨ad.block, ad.off + 12, none⟩ := by simp [Addr.add]
        have h2 := rBy_part h 12 k k (by omega) (Nat.le_refl _) (by omega)
        rwa [h1] at h2)
      have h0' : ¬ k = 0 := by omega
      clear hy h hn hk
      go_enter Tryz.func138, Tryz.ntmps138
      go_wp2_with fail
      go_ret2
      exact ⟨_, rfl, hfin.out, rfl⟩

theorem orN_no {a b c : Int} (ha : a = 0 ∨ a = 8) (hb : b = 0 ∨ b = 8) (hc : c = 0 ∨ c = 8) : orN [a, b, c, 8] = 8 := by
  rcases ha with rfl | rfl <;> rcases hb with rfl | rfl <;> rcases hc with rfl | rfl <;> rfl
theorem ge_ways (m n : Nat) (k : Int) : ge m n k = 0 ∨ ge m n k = 8 := by
  unfold ge
  split
  · exact Or.inl rfl
  · exact Or.inr rfl
theorem errs_in {e : Int} (h : e = 0 ∨ e = 8) : In64 e := by
  rcases h with rfl | rfl <;> exact ⟨by decide, by decide⟩

set_option maxRecDepth 100000 in
set_option maxHeartbeats 8000000 in
theorem fieldsI_any (ok : Addr → Prop) (v : Value) (b : List UInt8) (w : World) (hok0 : ∀ p, ok p → p.block < w.heap.size) (h : rBy ok w [v] b) :
    Calls Tryz.prog 112 #[v] w fun e w' => ∃ u, e = .returned (.tuple #[u, .int .i64 (cutE b)]) ∧ Itm ok w' u (fldI b) ∧ Below w.heap.size w w' := by
  obtain ⟨A, c, rfl, l1, m1, hy⟩ := rBy_byt (B := w.heap.size) hok0 h
  obtain ⟨n, hn⟩ : ∃ n, b.length = n := ⟨_, rfl⟩
  have hin := Lib.hid (inI_fields b)
  have HO := Lib.hid hok0
  have hhead : okC b = true → ∃ ad, A = some ad ∧ Old w ad ∧ w.cell? ad = some (.int .u8 ((b[0]?.getD 0).toNat : Int)) := fun hk => by
    have := okC_yes hk
    obtain ⟨ad, rfl, hb, hc⟩ := hy (by omega)
    exact ⟨ad, rfl, hb, by have := hc 0 (by omega); simpa [Addr.add] using this⟩
  replace hhead := Lib.hid hhead
  have hF : Hid (fldI b = if okC b then fieldsI b else zeroI) := Lib.hid rfl
  have hE : Hid (cutE b = if okC b then 0 else 8) := Lib.hid rfl
  have hV : Hid (cutV b = if okC b then (b.drop 12).take (cutN b) else []) := Lib.hid rfl
  have hg1 := ge_ways 4 n 1
  have hg2 := ge_ways 4 n 5
  have hg3 := ge_ways 2 n 9
  have hgy : Hid (okC b = true → ge 4 n 1 = 0 ∧ ge 4 n 5 = 0 ∧ ge 2 n 9 = 0) := Lib.hid (fun hk => by
    have := okC_yes hk
    exact ⟨ge_yes (by omega), ge_yes (by omega), ge_yes (by omega)⟩)
  rw [hn] at l1 h ⊢
  have HL := Lib.hid hn
  have HY := Lib.hid hy
  have HV := Lib.hid h
  obtain ⟨w0, hw0, _, _, _, _, _, hs0, hB0, b0⟩ := box_five w (.int .u8 0) (.int .u32 0) (.int .u32 0) (.int .i64 0) (.slice none 0 0) 52
  have lt0 : w.heap.size < w0.heap.size := by omega
  have HB0 := Lib.hid hB0
  replace b0 := Lib.hid b0
  replace hw0 := Lib.hid hw0
  obtain ⟨x0, hx0⟩ : ∃ x, b[0]?.getD 0 = x := ⟨_, rfl⟩
  obtain ⟨x1, hx1⟩ : ∃ x, gv 4 b 1 = x := ⟨_, rfl⟩
  obtain ⟨x2, hx2⟩ : ∃ x, gv 4 b 5 = x := ⟨_, rfl⟩
  obtain ⟨x3, hx3⟩ : ∃ x, gv 2 b 9 = x := ⟨_, rfl⟩
  obtain ⟨e1, he1⟩ : ∃ x, ge 4 n 1 = x := ⟨_, rfl⟩
  obtain ⟨e2, he2⟩ : ∃ x, ge 4 n 5 = x := ⟨_, rfl⟩
  obtain ⟨e3, he3⟩ : ∃ x, ge 2 n 9 = x := ⟨_, rfl⟩
  rw [hx0] at hhead
  rw [he1] at hg1 hgy
  rw [he2] at hg2 hgy
  rw [he3] at hg3 hgy
  have hFE := Lib.hid (show fieldsI b = ((x0, x1, x2), x3, (b.drop 12).take (cutN b)) by rw [← hx0, ← hx1, ← hx2, ← hx3]; rfl)
  replace hx0 := Lib.hid hx0
  replace hx1 := Lib.hid hx1
  replace hx2 := Lib.hid hx2
  replace hx3 := Lib.hid hx3
  replace he1 := Lib.hid he1
  replace he2 := Lib.hid he2
  replace he3 := Lib.hid he3
  replace hg1 := Lib.hid hg1
  replace hg2 := Lib.hid hg2
  replace hg3 := Lib.hid hg3
  clear hB0 hs0 h hy hn hok0
  go_enter Tryz.func112, Tryz.ntmps112
  go_upto_region 1 with fail
  rw [hw0.out]
  clear hw0
  go_wp2_with fail
  with_reducible refine (getFour_any _ n c 1 b HL l1 m1 _ ((HY.out.below HB0.out).more HB0.out.size)).mono ?_
  rintro f1 w1 ⟨rfl, hb1⟩
  rw [he1.out, hx1.out]
  have B1 := Lib.hid (HB0.out.trans (hb1.mono HB0.out.size))
  have C1 := Lib.hid hb1
  clear hb1
  go_wp2_with fail
  with_reducible refine (getFour_any _ n c 5 b HL l1 m1 _ ((HY.out.below B1.out).more B1.out.size)).mono ?_
  rintro f2 w2 ⟨rfl, hb2⟩
  rw [he2.out, hx2.out]
  have B2 := Lib.hid (B1.out.trans (hb2.mono B1.out.size))
  have C2 := Lib.hid (C1.out.trans (hb2.mono C1.out.size))
  clear hb2
  go_wp2_with fail
  with_reducible refine (getTwo_any _ n c 9 b HL l1 m1 _ ((HY.out.below B2.out).more B2.out.size)).mono ?_
  rintro f3 w3 ⟨rfl, hb3⟩
  rw [he3.out, hx3.out]
  have B3 := Lib.hid (B2.out.trans (hb3.mono B2.out.size))
  have C3 := Lib.hid (C2.out.trans (hb3.mono C2.out.size))
  clear hb3
  go_wp2_with fail
  have hv3 : Hid (rBy ok w3 [.slice A n c] b) := Lib.hid (stab_by _ _ _ _ _ _ (fun p v hp hc => ⟨hp, (B3.out.cell (HO.out p hp)).trans hc⟩) HV.out)
  with_reducible refine (cut_any ok _ b _ hv3.out).mono ?_
  rintro f4 w4 ⟨u, rfl, hu, rfl⟩
  cases hok : okC b with
  | false =>
    have hq := Lib.hid (show cutE b = 8 by rw [hE.out, hok]; rfl)
    have hz := Lib.hid (show fldI b = zeroI by rw [hF.out, hok]; rfl)
    rw [hq.out]
    obtain ⟨w6, hw6, h6⟩ : ∃ w6, w3.alloc (.cells #[.int .i64 e1, .int .i64 e2, .int .i64 e3, .int .i64 8] 33) = w6 ∧ rInts (Old w6) w6 [.slice (some ⟨w3.heap.size, 0, none⟩) 4 4] [e1, e2, e3, 8] :=
      ⟨_, rfl, ints_lit w3 33 [e1, e2, e3, 8] _ rfl (by simp) (fun x hx => by
        simp at hx
        rcases hx with rfl | rfl | rfl | rfl
        · exact errs_in hg1.out
        · exact errs_in hg2.out
        · exact errs_in hg3.out
        · exact ⟨by decide, by decide⟩)⟩
    have b6 : Below w3.heap.size w3 w6 := by rw [← hw6]; exact (Below.refl _ _).alloc (Nat.le_refl _) _
    have B6 := Lib.hid (B3.out.trans (b6.mono B3.out.size))
    have C6 := Lib.hid (C3.out.trans (b6.mono C3.out.size))
    have hor := Lib.hid (orN_no hg1.out hg2.out hg3.out)
    replace h6 := Lib.hid h6
    replace hok := Lib.hid hok
    obtain ⟨_, _, rfl, _⟩ := id (rBy_open hu)
    clear b6 hu
    go_wp2_with fail
    with_reducible refine (or_any _ [e1, e2, e3, 8] _ h6.out).mono ?_
    rintro f7 w7 ⟨rfl, rfl⟩
    rw [hor.out]
    clear hw6
    have b9 := (C6.out.block w.heap.size lt0).trans b0.out
    obtain ⟨W9, hW9, g9, gr9, gs9⟩ := put_five (u0 := .int .u8 0) (u1 := .int .u32 0) (u2 := .int .u32 0) (u3 := .int .i64 0) (u4 := .slice none 0 0) b9
    obtain ⟨k0, k1, k2, k3, k4, _, _⟩ := five_cells g9
    obtain ⟨a0, a1, a2, a3, a4, af, _⟩ := five_cells b9
    have B9 := Lib.hid (B6.out.grown gr9 B6.out.size (fun q e => by cases e; omega))
    replace b9 := Lib.hid b9
    clear g9 gr9
    go_wp2_with fail
    exact bodyPost_ret (v := .tuple #[.agg #[.int .u8 0, .int .u32 0, .int .u32 0, .int .i64 0, .slice none 0 0], .int .i64 8]) (by simp [results, Tryz.results112, go_sem, k0, k1, k2, k3, k4]) rfl ⟨_, ret_two hq.out.symm, by rw [hz.out]; exact itm_zero _ _, B9.out⟩
  | true =>
    have hq := Lib.hid (show cutE b = 0 by rw [hE.out, hok]; rfl)
    have hz := Lib.hid (show fldI b = fieldsI b by rw [hF.out, hok]; rfl)
    have hv := Lib.hid (show cutV b = (b.drop 12).take (cutN b) by rw [hV.out, hok]; rfl)
    obtain ⟨rfl, rfl, rfl⟩ := hgy.out hok
    obtain ⟨ad, rfl, hold, hcell⟩ := hhead.out hok
    rw [hq.out]
    rw [hv.out] at hu
    obtain ⟨L, hL⟩ : ∃ L, (b.drop 12).take (cutN b) = L := ⟨_, rfl⟩
    rw [hL] at hu
    have hFL := hFE.out
    rw [hL] at hFL
    replace hFL := Lib.hid hFL
    replace hL := Lib.hid hL
    obtain ⟨w6, hw6, h6⟩ : ∃ w6, w3.alloc (.cells #[.int .i64 0, .int .i64 0, .int .i64 0, .int .i64 0] 33) = w6 ∧ rInts (Old w6) w6 [.slice (some ⟨w3.heap.size, 0, none⟩) 4 4] [0, 0, 0, 0] :=
      ⟨_, rfl, ints_lit w3 33 [0, 0, 0, 0] _ rfl (by simp) (fun x hx => by
        simp at hx
        subst hx
        exact ⟨by decide, by decide⟩)⟩
    have b6 : Below w3.heap.size w3 w6 := by rw [← hw6]; exact (Below.refl _ _).alloc (Nat.le_refl _) _
    have B6 := Lib.hid (B3.out.trans (b6.mono B3.out.size))
    have C6 := Lib.hid (C3.out.trans (b6.mono C3.out.size))
    have hor : Hid (orN [0, 0, 0, 0] = 0) := Lib.hid rfl
    have hu6 : Hid (rBy ok w6 _ L) := Lib.hid (stab_by _ _ _ _ _ _ (fun p v hp hc => ⟨hp, (b6.cell (Nat.lt_of_lt_of_le (HO.out p hp) B3.out.size)).trans hc⟩) hu)
    have hn0 := okC_yes hok
    have hnn : 0 < n := by have := HL.out; omega
    replace h6 := Lib.hid h6
    replace hok := Lib.hid hok
    obtain ⟨D, dc, rfl, _⟩ := id (rBy_open hu)
    clear b6 hu hn0
    go_wp2_with fail
    with_reducible refine (or_any _ [0, 0, 0, 0] _ h6.out).mono ?_
    rintro f7 w7 ⟨rfl, rfl⟩
    rw [hor.out]
    clear hw6
    have c0 := (B6.out.cell hold).trans hcell
    have b9 := (C6.out.block w.heap.size lt0).trans b0.out
    obtain ⟨W9, hW9, g9, gr9, gs9⟩ := put_five (u0 := .int .u8 (x0.toNat : Int)) (u1 := .int .u32 x1) (u2 := .int .u32 x2) (u3 := .int .i64 x3) (u4 := .slice D L.length dc) b9
    obtain ⟨k0, k1, k2, k3, k4, _, _⟩ := five_cells g9
    obtain ⟨a0, a1, a2, a3, a4, af, _⟩ := five_cells b9
    have B9 := Lib.hid (B6.out.grown gr9 B6.out.size (fun q e => by cases e; omega))
    have hfin : Hid (Itm ok W9 (.agg #[.int .u8 (x0.toNat : Int), .int .u32 x1, .int .u32 x2, .int .i64 x3, .slice D L.length dc]) (fldI b)) := Lib.hid (by
      have h2 := hin.out
      rw [hFL.out] at h2
      rw [hz.out, hFL.out]
      refine ⟨_, rfl, h2, stab_by _ _ _ _ _ _ (fun p v hp hc => ⟨hp, ?_⟩) hu6.out⟩
      have hb := gr9.block p.block (Nat.lt_of_lt_of_le (HO.out p hp) B6.out.size) (fun e => by have h1 := Option.some.inj e; have h2 : p.block < w.heap.size := HO.out p hp; omega)
      exact (World.cell?_of_block hb).trans hc)
    replace b9 := Lib.hid b9
    replace hold := Lib.hid hold
    clear g9 gr9 hcell
    go_wp2_with fail
    exact bodyPost_ret (v := .tuple #[.agg #[.int .u8 (x0.toNat : Int), .int .u32 x1, .int .u32 x2, .int .i64 x3, .slice D L.length dc], .int .i64 0]) (by simp [results, Tryz.results112, go_sem, k0, k1, k2, k3, k4]) rfl ⟨_, ret_two hq.out.symm, hfin.out, B9.out⟩

theorem bool_ways (b : Bool) : b = false ∨ b = true := by cases b <;> simp
theorem okR_fields {b : List UInt8} (h : okR b = true) : okC b = true ∧ mayI (fldI b) = true := by simpa [okR] using h

set_option maxRecDepth 100000 in
set_option maxHeartbeats 8000000 in
theorem itRead_any (v : Value) (b : List UInt8) (w : World) (h : rBy (Old w) w [v] b) :
    Calls Tryz.prog 88 #[v] w fun e w' => ∃ u, e = .returned (.tuple #[u, .int .i64 (itN b), .int .i64 (itE b)]) ∧ Itm (New w.heap.size w') w' u (itR b) ∧ Below w.heap.size w w' := by
  obtain ⟨A, c, rfl, _⟩ := id (rBy_open h)
  obtain ⟨n, hn⟩ : ∃ n, b.length = n := ⟨_, rfl⟩
  have hE : Hid (itE b = if okR b then 0 else 8) := Lib.hid rfl
  have hN : Hid (itN b = if okR b then (12 + cutN b : Int) else 0) := Lib.hid rfl
  have hR : Hid (itR b = if okR b then fieldsI b else zeroI) := Lib.hid rfl
  have hO : Hid (okR b = (okC b && mayI (fldI b))) := Lib.hid rfl
  obtain ⟨w0, hw0, _, _, _, _, _, hs0, hB0, b0⟩ := box_five w (.int .u8 0) (.int .u32 0) (.int .u32 0) (.int .i64 0) (.slice none 0 0) 52
  have lt0 : w.heap.size < w0.heap.size := by omega
  have HV : Hid (rBy (Old w) w0 [.slice A b.length c] b) := Lib.hid (stab_by _ _ _ _ _ _ (fun p v hp hc => ⟨hp, (hB0.cell hp).trans hc⟩) h)
  have HB0 := Lib.hid hB0
  replace b0 := Lib.hid b0
  replace hw0 := Lib.hid hw0
  rw [hn] at HV ⊢
  replace hn := Lib.hid hn
  clear hB0 hs0 h
  go_enter Tryz.func88, Tryz.ntmps88
  go_upto_region 1 with fail
  rw [hw0.out]
  clear hw0
  go_wp2_with fail
  with_reducible refine (fieldsI_any (Old w) _ b _ (fun p hp => Nat.lt_trans hp lt0) HV.out).mono ?_
  rintro f1 w1 ⟨u, rfl, hu, hb1⟩
  have B1 := Lib.hid (HB0.out.trans (hb1.mono HB0.out.size))
  have C1 := Lib.hid hb1
  have b1 := (hb1.block w.heap.size lt0).trans b0.out
  have lt1 : w.heap.size < w1.heap.size := Nat.lt_of_lt_of_le lt0 hb1.size
  have hF : Hid (fldI b = if okC b then fieldsI b else zeroI) := Lib.hid rfl
  obtain ⟨s, hs⟩ : ∃ s, fldI b = s := ⟨_, rfl⟩
  rw [hs] at hu hO hF
  replace hs := Lib.hid hs
  have hin := hu.open
  obtain ⟨D, dc, rfl, hin, d1, d2, hu2⟩ := hin
  obtain ⟨W2, hW2, g2, gr2, gs2⟩ := put_five (u0 := .int .u8 (s.1.1.toNat : Int)) (u1 := .int .u32 s.1.2.1) (u2 := .int .u32 s.1.2.2) (u3 := .int .i64 s.2.1) (u4 := .slice D s.2.2.length dc) b1
  obtain ⟨a0, a1, a2, a3, a4, af, _⟩ := five_cells b1
  obtain ⟨k0, k1, k2, k3, k4, kf, _⟩ := five_cells g2
  have B2 := Lib.hid (B1.out.grown gr2 B1.out.size (fun q e => by cases e; omega))
  have hu3 : Hid (Itm (Old w) W2 (itV s (.slice D s.2.2.length dc)) s) := Lib.hid (by
    refine ⟨_, rfl, hin, stab_by _ _ _ _ _ _ (fun p v hp hc => ⟨hp, ?_⟩) hu2⟩
    exact (World.cell?_of_block (gr2.block p.block (Nat.lt_trans hp lt1) (fun e => by have h1 := Option.some.inj e; have h2 : p.block < w.heap.size := hp; omega))).trans hc)
  have hfinB : ∀ (W : World), Below W2.heap.size W2 W → okR b = false → ∃ W9 : World, (((((W.setCell ⟨w.heap.size, 0, none⟩ (.int .u8 0)).setCell ⟨w.heap.size, 1, none⟩ (.int .u32 0)).setCell ⟨w.heap.size, 2, none⟩ (.int .u32 0)).setCell ⟨w.heap.size, 3, none⟩ (.int .i64 0)).setCell ⟨w.heap.size, 4, none⟩ (.slice none 0 0)) = W9 ∧
      W9.heap[w.heap.size]? = some (.cells #[.int .u8 0, .int .u32 0, .int .u32 0, .int .i64 0, .slice none 0 0] 52 (0, 0)) ∧ Hid (itE b = 8 ∧ itN b = 0 ∧ itR b = zeroI ∧ Below w.heap.size w W9) := fun W hW hno => by
    obtain ⟨W9, hW9, g9, gr9, gs9⟩ := put_five (u0 := .int .u8 0) (u1 := .int .u32 0) (u2 := .int .u32 0) (u3 := .int .i64 0) (u4 := .slice none 0 0) ((hW.block w.heap.size (by omega)).trans g2)
    have B := B2.out.trans (hW.mono B2.out.size)
    exact ⟨W9, hW9, g9, Lib.hid ⟨by rw [hE.out, hno]; rfl, by rw [hN.out, hno]; rfl, by rw [hR.out, hno]; rfl, B.grown gr9 B.size (fun q e => by cases e; omega)⟩⟩
  replace hfinB := Lib.hid hfinB
  replace b1 := Lib.hid b1
  replace g2 := Lib.hid g2
  replace gs2 := Lib.hid gs2
  replace gr2 := Lib.hid gr2
  clear hu hu2 hb1
  rcases bool_ways (okC b) with hok | hok
  · skip
    have hq := Lib.hid (show cutE b = 8 by simp [cutE, hok])
    have hno : okR b = false := by simp [okR, hok]
    obtain ⟨W9, hW9, g9, hz⟩ := hfinB.out W2 (Below.refl _ _) hno
    obtain ⟨m0, m1, m2, m3, m4, _, _⟩ := five_cells g9
    rw [hq.out]
    replace hok := Lib.hid hok
    replace hno := Lib.hid hno
    replace g9 := Lib.hid g9
    go_wp2_with fail
    exact bodyPost_ret (v := .tuple #[.agg #[.int .u8 0, .int .u32 0, .int .u32 0, .int .i64 0, .slice none 0 0], .int .i64 0, .int .i64 8]) (by simp [results, Tryz.results88, go_sem, m0, m1, m2, m3, m4]) rfl ⟨_, by rw [hz.out.1, hz.out.2.1], by rw [hz.out.2.2.1]; exact itm_zero _ _, hz.out.2.2.2⟩
  · skip
    have hq := Lib.hid (show cutE b = 0 by simp [cutE, hok])
    have hsf := Lib.hid (show s = fieldsI b by rw [hF.out, hok]; rfl)
    have hcl : s.2.2.length = cutN b := by rw [hsf.out]; exact fieldsI_length hok
    have hcn := cutN_lt b
    rw [hq.out]
    have hO2 := Lib.hid (show okR b = mayI s by rw [hO.out, hok]; rfl)
    replace hok := Lib.hid hok
    replace hcl := Lib.hid hcl
    go_wp2_with fail
    with_reducible refine (checkI_any _ s _ (hu3.out.map fun p v hp hc => ⟨Nat.lt_trans hp (by have := gs2.out; have := C1.out.size; omega), hc⟩)).mono ?_
    rintro f2 w3 ⟨rfl, hb3⟩
    have C3 := Lib.hid hb3
    have lt2 : w.heap.size < W2.heap.size := by have := gs2.out; omega
    have b3 := (hb3.block w.heap.size lt2).trans g2.out
    obtain ⟨q0, q1, q2, q3, q4, qf, _⟩ := five_cells b3
    clear k0 k1 k2 k3 k4 kf
    have B3 := Lib.hid (B2.out.trans (hb3.mono B2.out.size))
    rcases bool_ways (mayI s) with hm | hm
    · skip
      obtain ⟨W9, hW9, g9, hz⟩ := hfinB.out w3 C3.out (by rw [hO2.out, hm])
      obtain ⟨m0, m1, m2, m3, m4, _, _⟩ := five_cells g9
      have hck := Lib.hid (chkI_bad hm)
      rw [hck.out]
      replace hm := Lib.hid hm
      replace g9 := Lib.hid g9
      replace b3 := Lib.hid b3
      clear hb3
      go_wp2_with fail
      exact bodyPost_ret (v := .tuple #[.agg #[.int .u8 0, .int .u32 0, .int .u32 0, .int .i64 0, .slice none 0 0], .int .i64 0, .int .i64 8]) (by simp [results, Tryz.results88, go_sem, m0, m1, m2, m3, m4]) rfl ⟨_, by rw [hz.out.1, hz.out.2.1], by rw [hz.out.2.2.1]; exact itm_zero _ _, hz.out.2.2.2⟩
    · skip
      have hck := Lib.hid (chkI_ok hm)
      have hyes : okR b = true := by rw [hO2.out, hm]
      have hE9 := Lib.hid (show itE b = 0 by rw [hE.out, hyes]; rfl)
      have hN9 := Lib.hid (show itN b = 12 + s.2.2.length by rw [hN.out, hyes, hcl.out]; rfl)
      have hR9 := Lib.hid (show itR b = s by rw [hR.out, hyes, hsf.out]; rfl)
      have h12 : s.2.2.length ≤ 12 := (mayI_of hm).2
      have hu4 : Hid (Itm (Old w3) w3 (itV s (.slice D s.2.2.length dc)) s) := Lib.hid (hu3.out.map fun p v hp hc => by
        have h1 : p.block < W2.heap.size := Nat.lt_trans hp (by have := gs2.out; have := C1.out.size; omega)
        exact ⟨Nat.lt_of_lt_of_le h1 hb3.size, (hb3.cell h1).trans hc⟩)
      have lt3 : w.heap.size < w3.heap.size := Nat.lt_of_lt_of_le lt2 hb3.size
      rw [hck.out]
      replace hm := Lib.hid hm
      replace hyes := Lib.hid hyes
      replace b3 := Lib.hid b3
      clear hb3 a0 a1 a2 a3 a4 af
      go_wp2_with fail
      have HT : Hid (∀ W, Below w3.heap.size w3 W → Calls Tryz.prog 113 #[itV s (.slice D s.2.2.length dc)] W fun e w' => ∃ X xc, e = .returned (itV s (.slice X s.2.2.length xc)) ∧ Itm (New w3.heap.size w') w' (itV s (.slice X s.2.2.length xc)) s ∧ Below w3.heap.size w3 w') := Lib.hid fun W hC => by
        refine (twinI_any _ s W (by omega) (hu4.out.below hC)).mono ?_
        rintro e W' ⟨x, rfl, hx, hb⟩
        obtain ⟨X, xc, rfl, _⟩ := id hx.open
        exact ⟨X, xc, rfl, hx.map fun p v hp hc => ⟨⟨Nat.le_trans hC.size hp.1, hp.2⟩, hc⟩, hC.trans (hb.mono hC.size)⟩
      have hdr : Below w3.heap.size w3 w3.drew := (Below.refl _ _).drew
      have hwr : IntKind.i64.wrap (12 + (s.2.2.length : Int)) = 12 + s.2.2.length := by rw [IntKind.wrap_i64]; omega
      go_region_with (first
        | (go_at_call 113; refine (HT.out _ hdr).mono ?_; rintro e' wm ⟨X, xc, rfl, hx, hw⟩; have bW := (hw.block w.heap.size lt3).trans b3.out; obtain ⟨c0, c1, c2, c3, c4, cf, _⟩ := five_cells bW))
      all_goals
        (go_wp2_with fail
         obtain ⟨W9, hW9, g9, gr9, gs9⟩ := put_five (u0 := .int .u8 (s.1.1.toNat : Int)) (u1 := .int .u32 s.1.2.1) (u2 := .int .u32 s.1.2.2) (u3 := .int .i64 s.2.1) (u4 := .slice X s.2.2.length xc) bW
         obtain ⟨m0, m1, m2, m3, m4, _, _⟩ := five_cells g9
         rw [hW9]
         have BW := B3.out.trans (hw.mono B3.out.size)
         exact bodyPost_ret (v := .tuple #[.agg #[.int .u8 (s.1.1.toNat : Int), .int .u32 s.1.2.1, .int .u32 s.1.2.2, .int .i64 s.2.1, .slice X s.2.2.length xc], .int .i64 (12 + s.2.2.length), .int .i64 0]) (by simp [results, Tryz.results88, go_sem, m0, m1, m2, m3, m4]) rfl ⟨_, by rw [hE9.out, hN9.out], by
           rw [hR9.out]
           exact (hx.grown gr9 (fun q e => by cases e; omega)).map fun p v hp hc => ⟨⟨Nat.le_trans B3.out.size hp.1, hp.2⟩, hc⟩, BW.grown gr9 BW.size (fun q e => by cases e; omega)⟩)
end Go.Proofs.YtdaidhbmfocodaaGreat

/-
  Layer 5's law helpers: key, alive. What bytes and items tell of one another, plain. Conditions: those that each lemma states.
-/
namespace Go.Proofs.YtdaidhbmfocodaaGreat
open Go.RowKit

/-! ### Plain: items and their bytes -/
theorem gv_le (m : Nat) (n : Int) (xs ys : List UInt8) (k : Nat) (hk : xs.length = k) (h0 : 0 ≤ n) (h1 : n < 256 ^ m) : gv m (xs ++ (le m n ++ ys)) k = n := by
  have h := gv_yes (m := m) (xs := xs ++ (le m n ++ ys)) (k := (k : Int)) ⟨by omega, by simp [le_length, hk]; omega⟩
  rw [h]
  have e : (k : Int).toNat = xs.length := by omega
  rw [e, List.drop_left, List.take_left' (le_length m n)]
  exact num_le m n h0 h1
theorem itB_cut (s : It) (xs : List UInt8) (h : s.2.2.length ≤ 12) : cutN (itB s ++ xs) = s.2.2.length := by
  have e : (itB s ++ xs)[11]? = some (UInt8.ofNat s.2.2.length) := by
    have : itB s ++ xs = ([s.1.1] ++ (le 4 s.1.2.1 ++ (le 4 s.1.2.2 ++ le 2 s.2.1))) ++ (UInt8.ofNat s.2.2.length :: (s.2.2 ++ xs)) := by simp [itB]
    rw [this, List.getElem?_append_right (by simp [le_length])]
    simp [le_length]
  unfold cutN
  rw [e]
  simp only [Option.getD_some, UInt8.toNat_ofNat']
  omega
theorem itB_okC (s : It) (xs : List UInt8) (h : s.2.2.length ≤ 12) : okC (itB s ++ xs) = true := by
  unfold okC
  rw [itB_cut s xs h]
  simp [itB_length]
theorem itB_fields (s : It) (xs : List UInt8) (hi : InI s) (h : mayI s = true) : fieldsI (itB s ++ xs) = s := by
  obtain ⟨hr, hl⟩ := mayI_of h
  obtain ⟨⟨⟨i0, i1⟩, ⟨o0, o1⟩⟩, _⟩ := hi
  obtain ⟨⟨k, i, o⟩, r, v⟩ := s
  dsimp only at *
  have e0 : (itB ((k, i, o), r, v) ++ xs)[0]?.getD 0 = k := by simp [itB]
  have e1 : gv 4 (itB ((k, i, o), r, v) ++ xs) 1 = i := by
    have : itB ((k, i, o), r, v) ++ xs = [k] ++ (le 4 i ++ (le 4 o ++ (le 2 r ++ ([UInt8.ofNat v.length] ++ (v ++ xs))))) := by simp [itB]
    rw [this]
    exact gv_le 4 i [k] _ 1 rfl i0 (by simpa using i1)
  have e2 : gv 4 (itB ((k, i, o), r, v) ++ xs) 5 = o := by
    have : itB ((k, i, o), r, v) ++ xs = ([k] ++ le 4 i) ++ (le 4 o ++ (le 2 r ++ ([UInt8.ofNat v.length] ++ (v ++ xs)))) := by simp [itB]
    rw [this]
    exact gv_le 4 o ([k] ++ le 4 i) _ 5 (by simp [le_length]) o0 (by simpa using o1)
  have e3 : gv 2 (itB ((k, i, o), r, v) ++ xs) 9 = r := by
    have : itB ((k, i, o), r, v) ++ xs = ([k] ++ (le 4 i ++ le 4 o)) ++ (le 2 r ++ ([UInt8.ofNat v.length] ++ (v ++ xs))) := by simp [itB]
    rw [this]
    exact gv_le 2 r ([k] ++ (le 4 i ++ le 4 o)) _ 9 (by simp [le_length]) (by omega) (by simp; omega)
  have e4 : ((itB ((k, i, o), r, v) ++ xs).drop 12).take (cutN (itB ((k, i, o), r, v) ++ xs)) = v := by
    rw [itB_cut ((k, i, o), r, v) xs hl]
    have : itB ((k, i, o), r, v) ++ xs = ([k] ++ (le 4 i ++ (le 4 o ++ (le 2 r ++ [UInt8.ofNat v.length])))) ++ (v ++ xs) := by simp [itB]
    rw [this, show (12 : Nat) = ([k] ++ (le 4 i ++ (le 4 o ++ (le 2 r ++ [UInt8.ofNat v.length])))).length by simp [le_length], List.drop_left]
    exact List.take_left' rfl
  unfold fieldsI
  rw [e0, e1, e2, e3, e4]
theorem itB_read (s : It) (xs : List UInt8) (hi : InI s) (h : mayI s = true) : okR (itB s ++ xs) = true ∧ itR (itB s ++ xs) = s ∧ itN (itB s ++ xs) = (itB s).length ∧ itE (itB s ++ xs) = 0 := by
  obtain ⟨hr, hl⟩ := mayI_of h
  have h1 := itB_okC s xs hl
  have h2 := itB_fields s xs hi h
  have h3 : okR (itB s ++ xs) = true := by unfold okR fldI; rw [h1, if_pos rfl, h2, h]; rfl
  refine ⟨h3, by rw [itR, h3, if_pos rfl, h2], ?_, by rw [itE, h3]; rfl⟩
  rw [itN, h3, if_pos rfl, itB_cut s xs hl, itB_length]
  omega
theorem le_gv (m : Nat) (b : List UInt8) (k : Nat) (h : k + m ≤ b.length) : le m (gv m b k) = (b.drop k).take m := by
  rw [gv_yes (k := (k : Int)) ⟨by omega, by omega⟩, show (k : Int).toNat = k by omega]
  have hl : ((b.drop k).take m).length = m := by simp; omega
  have := le_num ((b.drop k).take m)
  rwa [hl] at this
theorem one_at (b : List UInt8) (k : Nat) (h : k < b.length) : (b.drop k).take 1 = [b[k]?.getD 0] := by
  rw [List.drop_eq_getElem_cons h, List.getElem?_eq_getElem h]
  rfl
theorem read_itB {b : List UInt8} (h : okR b = true) : ∃ n : Nat, itN b = n ∧ n ≤ b.length ∧ mayI (itR b) = true ∧ itB (itR b) = b.take n := by
  obtain ⟨h1, h2⟩ := okR_fields h
  have h3 := okC_yes h1
  have hR : itR b = fieldsI b := by rw [itR, h, if_pos rfl]
  have hf : fldI b = fieldsI b := by rw [fldI, h1, if_pos rfl]
  rw [hf] at h2
  refine ⟨12 + cutN b, by rw [itN, h, if_pos rfl]; simp, h3, by rw [hR]; exact h2, ?_⟩
  rw [hR]
  have l0 := one_at b 0 (by omega)
  rw [List.drop_zero] at l0
  have l1 := one_at b 11 (by omega)
  have hlen : ((b.drop 12).take (cutN b)).length = cutN b := by simp; omega
  have hc : UInt8.ofNat (cutN b) = b[11]?.getD 0 := by unfold cutN; simp
  have g1 := le_gv 4 b 1 (by omega)
  have g2 := le_gv 4 b 5 (by omega)
  have g3 := le_gv 2 b 9 (by omega)
  have ht : b.take (12 + cutN b) = b.take 1 ++ ((b.drop 1).take 4 ++ ((b.drop 5).take 4 ++ ((b.drop 9).take 2 ++ ((b.drop 11).take 1 ++ (b.drop 12).take (cutN b))))) := by
    have q : ∀ (j m n : Nat), (b.drop j).take m ++ (b.drop (j + m)).take n = (b.drop j).take (m + n) := fun j m n => by
      rw [← List.drop_drop, List.take_add]
    rw [q 11 1, q 9 2, q 5 4, q 1 4]
    have := q 0 1 (4 + (4 + (2 + (1 + cutN b))))
    rw [List.drop_zero, Nat.zero_add] at this
    rw [this]
    congr 1
    omega
  rw [ht, l0, l1]
  unfold itB fieldsI
  dsimp only
  rw [hlen, hc]
  have c1 : ((1 : Nat) : Int) = 1 := rfl
  have c5 : ((5 : Nat) : Int) = 5 := rfl
  have c9 : ((9 : Nat) : Int) = 9 := rfl
  rw [c1] at g1
  rw [c5] at g2
  rw [c9] at g3
  rw [g1, g2, g3]
/-! ### key, alive -/
end Go.Proofs.YtdaidhbmfocodaaGreat

/-
  A bag's facts on items and keys. Conditions: those that each lemma states.
-/
namespace Go.Proofs.YtdaidhbmfocodaaGreat
open Go.RowKit

/-- Three cells that are a box. -/
def Box3 (g : Nat) (a b c : Value) : World → Prop := fun w => w.cell? ⟨g, 0, none⟩ = some a ∧ w.cell? ⟨g, 1, none⟩ = some b ∧ w.cell? ⟨g, 2, none⟩ = some c ∧ g < w.heap.size
theorem lasts_box3 (g : Nat) (a b c : Value) : Lasts (Box3 g a b c) := fun _ _ h hb => ⟨(hb.cell (p := ⟨g, 0, none⟩) h.2.2.2).trans h.1, (hb.cell (p := ⟨g, 1, none⟩) h.2.2.2).trans h.2.1, (hb.cell (p := ⟨g, 2, none⟩) h.2.2.2).trans h.2.2.1, Nat.lt_of_lt_of_le h.2.2.2 hb.size⟩
theorem bag_key {w w1 : World} {Fs : List (World → Prop)} (h : Bag w Fs) (hb : Below w.heap.size w w1) (a b c : Value) : ∃ w', w1.alloc (.cells #[a, b, c] 38) = w' ∧ Bag w' (Box3 w1.heap.size a b c :: Fs) ∧ Below w.heap.size w w' ∧ Below w1.heap.size w1 w' ∧ w1.heap.size < w'.heap.size := by
  obtain ⟨w2, e2, k1, k2, k3, k4, k5, _⟩ := box_three w1 a b c 38
  exact ⟨w2, e2, ((h.below hb).below k5).add ⟨k1, k2, k3, by omega⟩ (lasts_box3 _ _ _ _), hb.trans (k5.mono hb.size), k5, by omega⟩
theorem bag_item {w w1 : World} {Fs : List (World → Prop)} (h : Bag w Fs) (hb : Below w.heap.size w w1) (a b c d e : Value) : ∃ w', w1.alloc (.cells #[a, b, c, d, e] 52) = w' ∧ Bag w' (Box5 w1.heap.size a b c d e :: Fs) ∧ Below w.heap.size w w' ∧ Below w1.heap.size w1 w' ∧ w1.heap.size < w'.heap.size := by
  obtain ⟨w2, e2, k1, k2, k3, k4, k5, k6, k7, _⟩ := box_five w1 a b c d e 52
  exact ⟨w2, e2, ((h.below hb).below k7).add ⟨k1, k2, k3, k4, k5, by omega⟩ (lasts_box5 _ _ _ _ _ _), hb.trans (k7.mono hb.size), k7, by omega⟩
/-! ### How keys stand -/
theorem less_self (a : Ky) : lessK a a = false := by simp [lessK]
theorem less_anti {a b : Ky} (h : lessK a b = true) : lessK b a = false := by
  unfold lessK at *
  by_cases h1 : a.1.toNat = b.1.toNat
  · rw [if_neg (by simpa using h1)] at h
    rw [if_neg (by simpa using h1.symm)]
    by_cases h2 : a.2.1 = b.2.1
    · rw [if_neg (by simpa using h2)] at h
      rw [if_neg (by simpa using h2.symm)]
      simp at h ⊢
      omega
    · rw [if_pos h2] at h
      rw [if_pos (fun e => h2 e.symm)]
      simp at h ⊢
      omega
  · rw [if_pos h1] at h
    rw [if_pos (fun e => h1 e.symm)]
    simp at h ⊢
    omega
theorem less_total {a b : Ky} (h : a ≠ b) (h' : lessK a b = false) : lessK b a = true := by
  unfold lessK at *
  by_cases h1 : a.1.toNat = b.1.toNat
  · rw [if_neg (by simpa using h1)] at h'
    rw [if_neg (by simpa using h1.symm)]
    by_cases h2 : a.2.1 = b.2.1
    · rw [if_neg (by simpa using h2)] at h'
      rw [if_neg (by simpa using h2.symm)]
      have h3 : a.2.2 ≠ b.2.2 := fun e => h (Prod.ext (UInt8.toNat.inj h1) (Prod.ext h2 e))
      simp at h' ⊢
      omega
    · rw [if_pos h2] at h'
      rw [if_pos (fun e => h2 e.symm)]
      simp at h' ⊢
      omega
  · rw [if_pos h1] at h'
    rw [if_pos (fun e => h1 e.symm)]
    simp at h' ⊢
    omega
theorem less_cases {a b : Ky} (h : lessK a b = true) : a.1.toNat < b.1.toNat ∨ (a.1.toNat = b.1.toNat ∧ (a.2.1 < b.2.1 ∨ (a.2.1 = b.2.1 ∧ a.2.2 < b.2.2))) := by
  unfold lessK at h
  by_cases h1 : a.1.toNat = b.1.toNat
  · rw [if_neg (by simpa using h1)] at h
    by_cases h2 : a.2.1 = b.2.1
    · rw [if_neg (by simpa using h2)] at h
      exact Or.inr ⟨h1, Or.inr ⟨h2, by simpa using h⟩⟩
    · rw [if_pos h2] at h
      exact Or.inr ⟨h1, Or.inl (by simpa using h)⟩
  · rw [if_pos h1] at h
    exact Or.inl (by simpa using h)
theorem less_of {a b : Ky} (h : a.1.toNat < b.1.toNat ∨ (a.1.toNat = b.1.toNat ∧ (a.2.1 < b.2.1 ∨ (a.2.1 = b.2.1 ∧ a.2.2 < b.2.2)))) : lessK a b = true := by
  cases e : lessK a b with
  | true => rfl
  | false =>
    by_cases hab : a = b
    · subst hab; omega
    · have := less_cases (less_total hab e)
      omega
theorem less_trans {a b c : Ky} (h : lessK a b = true) (h' : lessK b c = true) : lessK a c = true := by
  have h1 := less_cases h
  have h2 := less_cases h'
  exact less_of (by omega)
end Go.Proofs.YtdaidhbmfocodaaGreat

/-
  Nodes (api.Node): how they read; which may be; their bytes; nodes as arguments. Conditions: those that each lemma states.
-/
namespace Go.Proofs.YtdaidhbmfocodaaGreat
open Go.ChangeShapes Go.WideShapes Go.RowKit

/-! ### Nodes: level, items -/
abbrev Nd := Int × List It
def rIts : Rel (List It) := rSl 5 rIt
theorem stab_its : Stab rIts := stab_sl stab_it
/-- A value that reads as a node. -/
def Nod (ok : Addr → Prop) (w : World) (v : Value) (n : Nd) : Prop := ∃ d, v = .agg #[.int .i64 n.1, d] ∧ In64 n.1 ∧ rIts ok w [d] n.2
section
variable {ok ok' : Addr → Prop} {w w' : World} {v : Value} {n : Nd} {lo lo' : Nat}
theorem Nod.map (hk : ∀ p v, ok p → w.cell? p = some v → ok' p ∧ w'.cell? p = some v) (h : Nod ok w v n) : Nod ok' w' v n := by
  obtain ⟨d, e, h1, h2⟩ := h
  exact ⟨d, e, h1, stab_its _ _ _ _ _ _ hk h2⟩
theorem Nod.below (h : Nod (Old w) w v n) (hb : Below w.heap.size w w') : Nod (Old w') w' v n :=
  h.map fun _ _ hp hc => ⟨Nat.lt_of_lt_of_le hp hb.size, (hb.cell hp).trans hc⟩
theorem Nod.drop (h : Nod (New lo w) w v n) : Nod (Old w) w v n := h.map fun _ _ hp hc => ⟨hp.2.1, hc⟩
theorem Nod.new (h : Nod (New lo w) w v n) (hl : lo' ≤ lo) (hb : Below w.heap.size w w') : Nod (New lo' w') w' v n :=
  h.map fun _ _ hp hc => ⟨⟨Nat.le_trans hl hp.1, Nat.lt_of_lt_of_le hp.2.1 hb.size, (hb.frozen hp.2.1).trans hp.2.2⟩, (hb.cell hp.2.1).trans hc⟩
theorem Nod.grown {row : Option Nat} (h : Nod (New lo w) w v n) (hg : w.grownBy w' row) (hr : ∀ q, row = some q → q < lo) : Nod (New lo w') w' v n := by
  obtain ⟨d, e, h1, h2⟩ := h
  exact ⟨d, e, h1, stab_its.grown h2 hg hr⟩
theorem its_open {d : Value} {xs : List It} (h : rIts ok w [d] xs) : ∃ A c, d = .slice A xs.length c ∧ xs.length ≤ c ∧ c ≤ 9223372036854775807 := by
  obtain ⟨A, c, e, h1, h2, _⟩ := h
  exact ⟨A, c, by simpa using e, h1, h2⟩
theorem Nod.open (h : Nod ok w v n) : ∃ A c, v = .agg #[.int .i64 n.1, .slice A n.2.length c] ∧ In64 n.1 ∧ n.2.length ≤ c ∧ c ≤ 9223372036854775807 ∧ rIts ok w [.slice A n.2.length c] n.2 := by
  obtain ⟨d, rfl, h1, h2⟩ := h
  obtain ⟨A, c, rfl, h3, h4⟩ := its_open h2
  exact ⟨A, c, rfl, h1, h3, h4, h2⟩
end
theorem its_nil (ok : Addr → Prop) (w : World) : rIts ok w [.slice none 0 0] [] := ⟨none, 0, rfl, by simp, by omega, fun i x h => by simp at h⟩
def zeroN : Nd := (0, [])
theorem nod_zero (ok : Addr → Prop) (w : World) : Nod ok w (.agg #[.int .i64 0, .slice none 0 0]) zeroN := ⟨_, rfl, ⟨by decide, by decide⟩, its_nil _ _⟩

/-! ### An item of a row -/
theorem add_at5 (ad : Addr) (n j : Nat) : ad.add (n + (j + 1)) = ⟨(ad.add n).block, (ad.add n).off + (j + 1), none⟩ := by
  unfold Addr.add
  rw [if_neg (by omega)]
  by_cases h : n = 0
  · subst h
    simp
  · rw [if_neg h]
    simp [Nat.add_assoc]
/-- Five cells that are an item. -/
structure At5 (w : World) (p : Addr) (s : It) (d : Value) : Prop where
  c0 : w.cell? p = some (.int .u8 (s.1.1.toNat : Int))
  c1 : w.cell? ⟨p.block, p.off + 1, none⟩ = some (.int .u32 s.1.2.1)
  c2 : w.cell? ⟨p.block, p.off + 2, none⟩ = some (.int .u32 s.1.2.2)
  c3 : w.cell? ⟨p.block, p.off + 3, none⟩ = some (.int .i64 s.2.1)
  c4 : w.cell? ⟨p.block, p.off + 4, none⟩ = some d
theorem At5.lt {w : World} {p : Addr} {s : It} {d : Value} (h : At5 w p s d) : p.block < w.heap.size := World.block_lt_of_cell? w p h.c0
theorem At5.below {w w' : World} {p : Addr} {s : It} {d : Value} (h : At5 w p s d) (hb : Below w.heap.size w w') : At5 w' p s d :=
  ⟨(hb.cell h.lt).trans h.c0, (hb.cell (p := ⟨p.block, p.off + 1, none⟩) h.lt).trans h.c1, (hb.cell (p := ⟨p.block, p.off + 2, none⟩) h.lt).trans h.c2, (hb.cell (p := ⟨p.block, p.off + 3, none⟩) h.lt).trans h.c3, (hb.cell (p := ⟨p.block, p.off + 4, none⟩) h.lt).trans h.c4⟩
theorem its_at {ok : Addr → Prop} {w : World} {A : Option Addr} {n c k : Nat} {xs : List It} {s : It} (h : rIts ok w [.slice A n c] xs) (hk : xs[k]? = some s) :
    ∃ ad E ce, A = some ad ∧ (∀ j, j < 5 → ok (ad.add (k * 5 + j))) ∧ At5 w (ad.add (k * 5)) s (.slice E s.2.2.length ce) ∧ Itm ok w (itV s (.slice E s.2.2.length ce)) s ∧ s.2.2.length ≤ ce ∧ ce ≤ 9223372036854775807 ∧ InI s := by
  obtain ⟨_, _, e, _, _, h4⟩ := h
  cases e
  obtain ⟨ad, vs, rfl, e5, q, r⟩ := h4 k s hk
  obtain ⟨d, rfl, hin, hd⟩ := rIt_open r
  obtain ⟨E, ce, rfl, l1, l2, _⟩ := id (rBy_open hd)
  have q0 := q 0 _ rfl
  have t1 := q 1 _ rfl
  have t2 := q 2 _ rfl
  have t3 := q 3 _ rfl
  have t4 := q 4 _ rfl
  refine ⟨ad, E, ce, rfl, fun j hj => ?_, ?_, ⟨_, rfl, hin, hd⟩, l1, l2, hin⟩
  · rcases (by omega : j = 0 ∨ j = 1 ∨ j = 2 ∨ j = 3 ∨ j = 4) with rfl | rfl | rfl | rfl | rfl
    · exact q0.1
    · exact t1.1
    · exact t2.1
    · exact t3.1
    · exact t4.1
  · have u1 := t1.2
    have u2 := t2.2
    have u3 := t3.2
    have u4 := t4.2
    rw [add_at5] at u1 u2 u3 u4
    exact ⟨q0.2, u1, u2, u3, u4⟩
/-- An item of a row that lies there, in every later world. -/
theorem its_old {w : World} {A : Option Addr} {n c k : Nat} {xs : List It} {s : It} (h : rIts (Old w) w [.slice A n c] xs) (hk : xs[k]? = some s) :
    ∃ ad E ce, A = some ad ∧ s.2.2.length ≤ ce ∧ ce ≤ 9223372036854775807 ∧ InI s ∧ ∀ W, Below w.heap.size w W → At5 W (ad.add (k * 5)) s (.slice E s.2.2.length ce) ∧ Itm (Old W) W (itV s (.slice E s.2.2.length ce)) s := by
  obtain ⟨ad, E, ce, rfl, _, h5, hi, l1, l2, hin⟩ := its_at h hk
  exact ⟨ad, E, ce, rfl, l1, l2, hin, fun W hW => ⟨h5.below hW, hi.below hW⟩⟩

/-! ### Arguments -/
/-! ### Which nodes may be -/
def refersI (s : It) : Bool := decide (s.2.1 ≠ 0) && decide (s.2.2.length = 0)
def okP (l : Int) (x : It) : Bool := mayI x && (decide (l ≤ 0) || refersI x)
def okAt (n : Nd) (i : Nat) : Bool := match n.2[i]? with
  | none => true
  | some x => okP n.1 x && (match i with
    | 0 => true
    | j + 1 => match n.2[j]? with
      | none => true
      | some p => lessK p.1 x.1)
def shapeN (n : Nd) : Bool := (decide (0 ≤ n.1) && decide (n.1 < 6)) && decide (n.2.length ≤ 5) && (decide (n.1 ≤ 0) || decide (0 < n.2.length))
def mayN (n : Nd) : Bool := shapeN n && (List.range n.2.length).all (okAt n)
def chkN (n : Nd) : Int := if mayN n then 0 else 8
theorem shapeN_of {n : Nd} (h : shapeN n = true) : 0 ≤ n.1 ∧ n.1 < 6 ∧ n.2.length ≤ 5 ∧ (0 < n.1 → 0 < n.2.length) := by
  simp only [shapeN, Bool.and_eq_true, Bool.or_eq_true, decide_eq_true_eq] at h
  omega
theorem shapeN_mk {n : Nd} (h : 0 ≤ n.1 ∧ n.1 < 6 ∧ n.2.length ≤ 5 ∧ (0 < n.1 → 0 < n.2.length)) : shapeN n = true := by
  simp only [shapeN, Bool.and_eq_true, Bool.or_eq_true, decide_eq_true_eq]
  omega
theorem mayN_shape {n : Nd} (h : ¬ (0 ≤ n.1 ∧ n.1 < 6 ∧ n.2.length ≤ 5 ∧ (0 < n.1 → 0 < n.2.length))) : mayN n = false := by
  cases e : mayN n with
  | false => rfl
  | true =>
    simp only [mayN, Bool.and_eq_true] at e
    exact absurd (shapeN_of e.1) h
theorem mayN_at {n : Nd} {k : Nat} (hk : k < n.2.length) (h : okAt n k = false) : mayN n = false := by
  cases e : mayN n with
  | false => rfl
  | true =>
    simp only [mayN, Bool.and_eq_true, List.all_eq_true] at e
    have := e.2 k (by simpa using hk)
    rw [h] at this
    cases this
theorem mayN_mk {n : Nd} (h : 0 ≤ n.1 ∧ n.1 < 6 ∧ n.2.length ≤ 5 ∧ (0 < n.1 → 0 < n.2.length)) (h2 : ∀ i, i < n.2.length → okAt n i = true) : mayN n = true := by
  simp only [mayN, Bool.and_eq_true, List.all_eq_true]
  exact ⟨shapeN_mk h, fun x hx => h2 x (by simpa using hx)⟩
theorem mayN_of {n : Nd} (h : mayN n = true) : (0 ≤ n.1 ∧ n.1 < 6 ∧ n.2.length ≤ 5 ∧ (0 < n.1 → 0 < n.2.length)) ∧ ∀ i, i < n.2.length → okAt n i = true := by
  simp only [mayN, Bool.and_eq_true, List.all_eq_true] at h
  exact ⟨shapeN_of h.1, fun i hi => h.2 i (by simpa using hi)⟩
theorem okAt_zero {n : Nd} {x : It} (hx : n.2[0]? = some x) : okAt n 0 = okP n.1 x := by unfold okAt; rw [hx]; simp
theorem okAt_succ {n : Nd} {k : Nat} {x p : It} (hx : n.2[k + 1]? = some x) (hp : n.2[k]? = some p) : okAt n (k + 1) = (okP n.1 x && lessK p.1 x.1) := by
  unfold okAt
  simp only [hx, hp]
theorem okAt_P {n : Nd} {k : Nat} {x : It} (hx : n.2[k]? = some x) (h : okAt n k = true) : okP n.1 x = true := by
  unfold okAt at h
  rw [hx] at h
  simp only [Bool.and_eq_true] at h
  exact h.1
theorem okAt_noP {n : Nd} {k : Nat} {x : It} (hx : n.2[k]? = some x) (h : okP n.1 x = false) : okAt n k = false := by
  unfold okAt
  simp only [hx, h, Bool.false_and]
theorem mayN_item {n : Nd} (h : mayN n = true) {k : Nat} {x : It} (hx : n.2[k]? = some x) : okP n.1 x = true :=
  okAt_P hx ((mayN_of h).2 k (List.getElem?_eq_some_iff.1 hx).1)
theorem okP_may {l : Int} {x : It} (h : okP l x = true) : mayI x = true := by
  simp only [okP, Bool.and_eq_true] at h
  exact h.1
theorem mayN_rise {n : Nd} (h : mayN n = true) {k : Nat} {x y : It} (hx : n.2[k]? = some x) (hy : n.2[k + 1]? = some y) : lessK x.1 y.1 = true := by
  have := (mayN_of h).2 (k + 1) (List.getElem?_eq_some_iff.1 hy).1
  rw [okAt_succ hy hx, Bool.and_eq_true] at this
  exact this.2
theorem mayN_rises {n : Nd} (h : mayN n = true) : ∀ {k j : Nat} {x y : It}, k < j → n.2[k]? = some x → n.2[j]? = some y → lessK x.1 y.1 = true := by
  intro k j x y hkj
  induction j generalizing y with
  | zero => omega
  | succ j ih =>
    intro hx hy
    rcases Nat.lt_or_ge k j with h1 | h1
    · have hjl : j < n.2.length := by have := (List.getElem?_eq_some_iff.1 hy).1; omega
      exact less_trans (ih h1 hx (List.getElem?_eq_getElem hjl)) (mayN_rise h (List.getElem?_eq_getElem hjl) hy)
    · have : k = j := by omega
      subst this
      exact mayN_rise h hx hy
theorem chkN_ok {n : Nd} (h : mayN n = true) : chkN n = 0 := by simp [chkN, h]
theorem chkN_bad {n : Nd} (h : mayN n = false) : chkN n = 8 := by simp [chkN, h]
/-! ### Their bytes -/
def itsB (l : List It) : List UInt8 := (l.map itB).flatten
theorem itsB_snoc (l : List It) (x : It) : itsB (l ++ [x]) = itsB l ++ itB x := by simp [itsB]
theorem itsB_take {l : List It} {k : Nat} {x : It} (h : l[k]? = some x) : itsB (l.take (k + 1)) = itsB (l.take k) ++ itB x := by
  rw [List.take_add_one, h]
  exact itsB_snoc _ _
def headN (n : Nd) : List UInt8 := [78, UInt8.ofNat n.1.toNat, UInt8.ofNat n.2.length]
def toldN (n : Nd) : List UInt8 := headN n ++ itsB n.2
def blkN (n : Nd) : List UInt8 := sealN (toldN n)
def wrN (n : Nd) : List UInt8 := if mayN n then blkN n else []
theorem itsB_len : ∀ {l : List It}, (∀ x ∈ l, mayI x = true) → (itsB l).length ≤ 24 * l.length
  | [], _ => by simp [itsB]
  | x :: r, h => by
    have h1 := itsB_len (l := r) (fun y hy => h y (List.mem_cons.2 (Or.inr hy)))
    have h2 := (mayI_of (h x (List.mem_cons.2 (Or.inl rfl)))).2
    have h3 := itB_length x
    have : itsB (x :: r) = itB x ++ itsB r := by simp [itsB]
    rw [this, List.length_append, List.length_cons]
    omega
theorem mayN_all {n : Nd} (h : mayN n = true) : ∀ x ∈ n.2, mayI x = true := fun x hx => by
  obtain ⟨k, hk⟩ := List.mem_iff_getElem?.1 hx
  exact okP_may (mayN_item h hk)
theorem toldN_len {n : Nd} (h : mayN n = true) : (toldN n).length ≤ 124 := by
  have h1 := itsB_len (mayN_all h)
  have h2 := (mayN_of h).1.2.2.1
  have h3 : (toldN n).length = 3 + (itsB n.2).length := by simp [toldN, headN]; omega
  omega
theorem blkN_length {n : Nd} (h : mayN n = true) : (blkN n).length = 128 := sealN_length (toldN_len h)
end Go.Proofs.YtdaidhbmfocodaaGreat

/-
  Package node: noughts, cut. Conditions: those that each lemma states.
-/
namespace Go.Proofs.YtdaidhbmfocodaaGreat
open Go.RowKit

/-! ### noughts -/
theorem nought_any (a : Int) (w : World) : Calls Tryz.prog 92 #[.int .u8 a] w fun e w' => e = .returned (.bool (a != 0)) ∧ w = w' := by
  go_enter Tryz.func92, Tryz.ntmps92
  go_wp2_with fail
  go_ret
  exact ⟨rfl, rfl⟩
def idxN (b : List UInt8) : Int := match b.findIdx? (· ≠ 0) with
  | none => -1
  | some k => k
theorem idxN_at {b : List UInt8} {k : Nat} (hk : k < b.length) (ha : ∀ j, j < k → b[j]?.getD 0 = 0) (h : b[k]?.getD 0 ≠ 0) : idxN b = k := by
  have e : b.findIdx? (· ≠ 0) = some k := by
    rw [List.findIdx?_eq_some_iff_getElem]
    refine ⟨hk, by simpa [List.getElem?_eq_getElem hk] using h, fun j hj => ?_⟩
    have := ha j hj
    simpa [List.getElem?_eq_getElem (show j < b.length by omega)] using this
  unfold idxN
  rw [e]
theorem idxN_none {b : List UInt8} (ha : ∀ j, j < b.length → b[j]?.getD 0 = 0) : idxN b = -1 := by
  have e : b.findIdx? (· ≠ 0) = none := by
    rw [List.findIdx?_eq_none_iff]
    intro x hx
    obtain ⟨j, hj, rfl⟩ := List.mem_iff_getElem.1 hx
    have := ha j hj
    simpa [List.getElem?_eq_getElem hj] using this
  unfold idxN
  rw [e]
def noughtsB (b : List UInt8) : Bool := b.all (· == 0)
theorem noughts_idx (b : List UInt8) : (!decide (0 ≤ idxN b)) = noughtsB b := by
  unfold idxN noughtsB
  cases e : b.findIdx? (· ≠ 0) with
  | none =>
    rw [List.findIdx?_eq_none_iff] at e
    have : (b.all fun x => x == 0) = true := by
      rw [List.all_eq_true]
      intro x hx
      simpa using e x hx
    rw [this]
    simp
  | some k =>
    rw [List.findIdx?_eq_some_iff_getElem] at e
    obtain ⟨hk, h1, _⟩ := e
    have : (b.all fun x => x == 0) = false := by
      rw [List.all_eq_false]
      exact ⟨b[k], List.getElem_mem hk, by simpa using h1⟩
    rw [this]
    simp
set_option maxRecDepth 100000 in
theorem index_any (A : Option Addr) (n c : Nat) (b : List UInt8) (hn : Hid (b.length = n)) (l1 : n ≤ c) (m1 : c ≤ 9223372036854775807) (w : World) (h : Byt w w.heap.size A b) :
    Calls Tryz.prog 114 #[.slice A n c, .func (.func 92) #[] #[]] w fun e w' => e = .returned (.int .i64 (idxN b)) ∧ w = w' := by
  have HY := Lib.hid h
  clear h
  go_enter Tryz.func114, Tryz.ntmps114
  go_wp2_with fail
  go_loop [8] (fun i => ∃ k : Nat, k ≤ n ∧ i = .int .i64 k ∧ ∀ j, j < k → b[j]?.getD 0 = 0) (fun i => n - (intOf i).toNat)
  case atStart => exact ⟨0, by omega, rfl, fun j hj => by omega⟩
  case round =>
    obtain ⟨k, hk, rfl, ha⟩ := hrel
    replace ha := Lib.hid ha
    by_cases hlt : k < n
    · obtain ⟨ad, rfl, _, hc⟩ := HY.out (by rw [hn.out]; omega)
      replace hc := hc k (by rw [hn.out]; exact hlt)
      have hyes := Lib.hid (fun h => idxN_at (b := b) (k := k) (by rw [hn.out]; exact hlt) ha.out h)
      have hno : Hid (b[k]?.getD 0 = 0 → ∀ j, j < k + 1 → b[j]?.getD 0 = 0) := Lib.hid fun h j hj => by
        rcases Nat.lt_or_ge j k with h1 | h1
        · exact ha.out j h1
        · obtain rfl : j = k := by omega
          exact h
      obtain ⟨x, hx⟩ : ∃ x, b[k]?.getD 0 = x := ⟨_, rfl⟩
      rw [hx] at hc hyes hno
      replace hx := Lib.hid hx
      by_cases h0 : (x.toNat : Int) = 0
      · have t0 : ((x.toNat : Int) != 0) = false := by simpa using h0
        have hall := Lib.hid (hno.out (UInt8.toNat.inj (by simpa using h0)))
        replace h0 := Lib.hid h0
        go_wp2_with fail
        with_reducible refine (nought_any _ _).mono ?_
        rintro e3 w3 ⟨rfl, rfl⟩
        rw [t0]
        go_wp2_with fail
        go_round
        case rel => exact ⟨k + 1, by omega, by go_num, hall.out⟩
        case measure => simp [intOf]; omega
      · have t0 : ((x.toNat : Int) != 0) = true := by simpa using h0
        have hr := Lib.hid (hyes.out (fun e => h0 (by rw [e]; rfl)))
        replace h0 := Lib.hid h0
        go_wp2_with fail
        with_reducible refine (nought_any _ _).mono ?_
        rintro e3 w3 ⟨rfl, rfl⟩
        rw [t0]
        go_wp2_with fail
        go_ret
        exact ⟨ret_int hr.out.symm, rfl⟩
    · have hr := Lib.hid (idxN_none (b := b) fun j hj => ha.out j (by have := hn.out; omega))
      go_wp2_with fail
      go_ret
      exact ⟨ret_int hr.out.symm, rfl⟩
set_option maxRecDepth 100000 in
theorem noughts_any (A : Option Addr) (n c : Nat) (b : List UInt8) (hn : Hid (b.length = n)) (l1 : n ≤ c) (m1 : c ≤ 9223372036854775807) (w : World) (h : Byt w w.heap.size A b) :
    Calls Tryz.prog 64 #[.slice A n c] w fun e w' => e = .returned (.bool (noughtsB b)) ∧ w = w' := by
  have HY := Lib.hid h
  have hi := Lib.hid (noughts_idx b)
  have hx : Hid (∀ W, Byt W W.heap.size A b → Calls Tryz.prog 91 #[.slice A n c, .func (.func 92) #[] #[]] W fun e w' => e = .returned (.bool (decide (0 ≤ idxN b))) ∧ W = w') := Lib.hid fun W hW => by
    have HW := Lib.hid hW
    clear hW
    go_enter Tryz.func91, Tryz.ntmps91
    go_wp2_with fail
    with_reducible refine (index_any A n c b hn l1 m1 _ HW.out).mono ?_
    rintro e3 w3 ⟨rfl, rfl⟩
    go_wp2_with fail
    go_ret
    exact ⟨rfl, rfl⟩
  clear h
  go_enter Tryz.func64, Tryz.ntmps64
  go_wp2_with fail
  with_reducible refine (hx.out _ HY.out).mono ?_
  rintro e3 w3 ⟨rfl, rfl⟩
  go_wp2_with fail
  go_ret
  exact ⟨ret_bool hi.out, rfl⟩
end Go.Proofs.YtdaidhbmfocodaaGreat

/-
  Package node: cut. Conditions: those that each lemma states.
-/
namespace Go.Proofs.YtdaidhbmfocodaaGreat
open Go.RowKit

/-! ### Rows of items of the call's own -/
theorem item_info0 : (Tryz.prog.info? 52).map (fun i => (i.zero, i.size, i.bytes)) = some (some (.agg #[.int .u8 0, .int .u32 0, .int .u32 0, .int .i64 0, .slice none 0 0]), 5, 48) := by kernel_rfl
theorem its_push {w : World} {lo : Nat} {A : Option Addr} {c : Nat} {xs : List It} (h : RowOf rIt 5 52 lo w A c xs) (g : Nat) (s : It) (d : Value) (m n : Nat) (hn : xs.length = n) (hg : w.heap[g]? = some (.cells #[.int .u8 (s.1.1.toNat : Int), .int .u32 s.1.2.1, .int .u32 s.1.2.2, .int .i64 s.2.1, d] 52 (0, 0))) (hs : n < 100000) (hbase : lo ≤ w.heap.size) (hin : InI s) (hx : rBy (NewBut lo A w) w [d] s.2.2) :
    ∃ A' c' w', (Builtin.append_ #[32, 32] 32 #[.slice A n c, .slice (some ⟨g, 0, none⟩) 1 m]).run Tryz.prog w = .ok (.slice A' (n + 1) c') w' ∧ RowOf rIt 5 52 lo w' A' c' (xs ++ [s]) ∧ w.grownBy w' (A.map (·.block)) ∧ Below lo w w' := by
  subst hn
  obtain ⟨i0, hi, hz0, hz1, hz2⟩ := info_parts item_info0
  obtain ⟨E, ce, rfl, _⟩ := id (rBy_open hx)
  exact RowOf.push stab_it h 32 32 i0 (.agg #[.int .u8 0, .int .u32 0, .int .u32 0, .int .i64 0, .slice none 0 0]) 48 Tryz.underlying32 hi hz0 hz1 hz2 rfl (by decide) ⟨g, 0, none⟩ m _ s rfl (World.news_of_block (cs := #[.int .u8 (s.1.1.toNat : Int), .int .u32 s.1.2.1, .int .u32 s.1.2.2, .int .i64 s.2.1, .slice E s.2.2.length ce]) hg) (fun u hu => by
    simp at hu
    rcases hu with rfl | rfl | rfl | rfl | rfl <;> rfl) (by unfold maxLen; omega) (by omega) hbase (rIt_mk hin hx)

/-! ### What is cut off -/
def cutTo (b : List UInt8) : Nat → Option (List It × List UInt8)
  | 0 => some ([], b)
  | k + 1 => match cutTo b k with
    | none => none
    | some (l, r) => if okR r then some (l ++ [itR r], r.drop (itN r).toNat) else none
theorem cutTo_yes {b : List UInt8} {k : Nat} {l : List It} {r : List UInt8} (h : cutTo b k = some (l, r)) (h' : okR r = true) : cutTo b (k + 1) = some (l ++ [itR r], r.drop (itN r).toNat) := by
  simp only [cutTo, h, h', if_true]
theorem cutTo_no {b : List UInt8} {k : Nat} {l : List It} {r : List UInt8} (h : cutTo b k = some (l, r)) (h' : okR r = false) : cutTo b (k + 1) = none := by
  simp only [cutTo, h, h']
  rfl
theorem cutTo_none {b : List UInt8} {k j : Nat} (h : cutTo b k = none) (hj : k ≤ j) : cutTo b j = none := by
  induction j with
  | zero =>
    have : k = 0 := by omega
    rw [this] at h
    exact h
  | succ j ih =>
    rcases Nat.lt_or_ge k (j + 1) with h1 | h1
    · simp only [cutTo, ih (by omega)]
    · have : k = j + 1 := by omega
      rw [this] at h
      exact h
theorem cutTo_bytes {b : List UInt8} : ∀ {k : Nat} {l : List It} {r : List UInt8}, cutTo b k = some (l, r) → b = itsB l ++ r ∧ l.length = k ∧ (∀ x ∈ l, mayI x = true ∧ InI x)
  | 0, l, r, h => by
    simp only [cutTo, Option.some.injEq, Prod.mk.injEq] at h
    obtain ⟨rfl, rfl⟩ := h
    exact ⟨by simp [itsB], rfl, fun x hx => by simp at hx⟩
  | k + 1, l, r, h => by
    cases e : cutTo b k with
    | none => simp [cutTo, e] at h
    | some p =>
      obtain ⟨l', r'⟩ := p
      obtain ⟨h1, h2, h3⟩ := cutTo_bytes e
      rcases bool_ways (okR r') with ho | ho
      · rw [cutTo_no e ho] at h
        cases h
      · rw [cutTo_yes e ho] at h
        simp only [Option.some.injEq, Prod.mk.injEq] at h
        obtain ⟨rfl, rfl⟩ := h
        obtain ⟨n, e1, e2, e3, e4⟩ := read_itB ho
        have hn : (itN r').toNat = n := by rw [e1]; omega
        refine ⟨?_, by simp [h2], fun x hx => ?_⟩
        · rw [itsB_snoc, e4, hn, List.append_assoc, List.take_append_drop]
          exact h1
        · rcases List.mem_append.1 hx with hx | hx
          · exact h3 x hx
          · simp at hx
            subst hx
            exact ⟨e3, by rw [itR, ho, if_pos rfl]; exact inI_fields _⟩
def cutL (b : List UInt8) (k : Nat) : List It := ((cutTo b k).map (·.1)).getD []
def cutR (b : List UInt8) (k : Nat) : List UInt8 := ((cutTo b k).map (·.2)).getD []
def cutF (b : List UInt8) (k : Nat) : Int := if (cutTo b k).isSome then 0 else 8

/-- What is left of bytes. -/
theorem rBy_rest {ok : Addr → Prop} {w : World} {ad : Addr} {n c : Nat} {b : List UInt8} (h : rBy ok w [.slice (some ad) n c] b) (k : Nat) (hk : k ≤ b.length) : rBy ok w [.slice (some (ad.add k)) (n - k) (c - k)] (b.drop k) := by
  obtain ⟨A, c', e, l1, l2, _⟩ := id h
  cases e
  have := rBy_part h k (b.length - k) (c - k) (by omega) (by omega) (by omega)
  rwa [List.take_of_length_le (by simp)] at this

set_option maxRecDepth 100000 in
set_option maxHeartbeats 4000000 in
theorem nodeCut_any (v : Value) (b : List UInt8) (many : Nat) (hm : many < 256) (w : World) (h : rBy (Old w) w [v] b) :
    Calls Tryz.prog 62 #[v, .int .i64 many] w fun e w' => ∃ A c u, e = .returned (.tuple #[.slice A (cutL b many).length c, u, .int .i64 (cutF b many)]) ∧ rIts (New w.heap.size w') w' [.slice A (cutL b many).length c] (cutL b many) ∧ rBy (Old w') w' [u] (cutR b many) ∧ Below w.heap.size w w' := by
  have HV := Lib.hid h
  clear h
  go_enter Tryz.func62, Tryz.ntmps62
  go_wp2_with fail
  go_loopw [0, 7, 12] (fun q it i wr => ∃ (k : Nat) (l : List It) (r : List UInt8) (A : Option Addr) (c : Nat), k ≤ many ∧ i = .int .i64 k ∧ it = .slice A k c ∧ l.length = k ∧ cutTo b k = some (l, r) ∧ rBy (Old w) w [q] r ∧ RowOf rIt 5 52 w.heap.size wr A c l ∧ Below w.heap.size w wr) (fun _ _ i _ => many - (intOf i).toNat)
  case atStart => exact ⟨0, [], b, none, 0, by omega, rfl, rfl, rfl, rfl, HV.out, RowOf.nil _ _ _ _ _, Below.refl _ _⟩
  case round =>
    obtain ⟨k, l, r, A, c, hk, rfl, rfl, hl, hcut, hq, hrow, hb⟩ := hrel
    replace hrow := Lib.hid hrow
    replace hcut := Lib.hid hcut
    replace hl := Lib.hid hl
    replace hb := Lib.hid hb
    obtain ⟨Q, cq, rfl, n1, n2, _⟩ := id (rBy_open hq)
    obtain ⟨nq, hnq⟩ : ∃ n, r.length = n := ⟨_, rfl⟩
    rw [hnq] at n1 hq ⊢
    replace hnq := Lib.hid hnq
    replace hq := Lib.hid hq
    have hqr := Lib.hid (stab_by.old hq.out hb.out)
    by_cases hlt : k < many
    case neg =>
      have hkm : k = many := by omega
      have hL := Lib.hid (show cutL b many = l by rw [← hkm]; simp [cutL, hcut.out])
      have hR := Lib.hid (show cutR b many = r by rw [← hkm]; simp [cutR, hcut.out])
      have hF := Lib.hid (show cutF b many = 0 by rw [← hkm]; simp [cutF, hcut.out])
      have hfin := Lib.hid (hrow.out.rel stab_it)
      rw [hl.out] at hfin
      replace hkm := Lib.hid hkm
      go_wp2_with fail
      exact bodyPost_ret (v := .tuple #[.slice A k c, .slice Q nq cq, .int .i64 0]) (by simp [results, Tryz.results62, go_sem]) rfl ⟨A, c, _, by rw [hL.out, hF.out, hl.out], by rw [hL.out, hl.out]; exact hfin.out, by rw [hR.out]; exact hqr.out, hb.out⟩
    go_wp2_with fail
    with_reducible refine (itRead_any _ r _ hqr.out).mono ?_
    rintro e3 w3 ⟨u3, rfl, hu3, hb3⟩
    obtain ⟨D, dc, rfl, hin, _, _, hby⟩ := id hu3.open
    obtain ⟨w4, hw4, s0, s1, s2, s3, s4, hs4, hb4, b4⟩ := box_five w3 (.int .u8 ((itR r).1.1.toNat : Int)) (.int .u32 (itR r).1.2.1) (.int .u32 (itR r).1.2.2) (.int .i64 (itR r).2.1) (.slice D (itR r).2.2.length dc) 52
    have C4 := Lib.hid (hb3.trans (hb4.mono hb3.size))
    have B4 := Lib.hid (hb.out.trans (C4.out.mono hb.out.size))
    have hI4 := Lib.hid (hu3.new (Nat.le_refl _) hb4)
    obtain ⟨x, hx⟩ : ∃ x, itR r = x := ⟨_, rfl⟩
    rw [hx] at hin s0 s1 s2 s3 s4 b4 hI4 hw4 ⊢
    replace hs4 := Lib.hid hs4
    replace hx := Lib.hid hx
    clear hb3 hb4 hu3 hby
    unfold itV at *
    go_upto_region 5 with fail
    clear hw4
    rcases bool_ways (okR r) with hok | hok
    · have hE := Lib.hid (show itE r = 8 by simp [itE, hok])
      have hno := Lib.hid (cutTo_none (cutTo_no hcut.out hok) (show k + 1 ≤ many by omega))
      have hL := Lib.hid (show cutL b many = [] by simp [cutL, hno.out])
      have hR := Lib.hid (show cutR b many = [] by simp [cutR, hno.out])
      have hF := Lib.hid (show cutF b many = 8 by simp [cutF, hno.out])
      rw [hE.out]
      replace hok := Lib.hid hok
      go_wp2_with fail
      exact bodyPost_ret (v := .tuple #[.slice none 0 0, .slice none 0 0, .int .i64 8]) (by simp [results, Tryz.results62, go_sem]) rfl ⟨none, 0, _, by rw [hL.out, hF.out]; rfl, by rw [hL.out]; exact its_nil _ _, by rw [hR.out]; exact rBy_part0 _ _ none, B4.out⟩
    have hE := Lib.hid (show itE r = 0 by simp [itE, hok])
    obtain ⟨m, hm1, hm2, hm3, hm4⟩ := read_itB hok
    have hyes := cutTo_yes hcut.out hok
    rw [hm1, show ((m : Int)).toNat = m by omega, hx.out] at hyes
    have hrl : 12 ≤ nq := by have := okC_yes (okR_fields hok).1; have := hnq.out; omega
    rw [hnq.out] at hm2
    rw [hE.out, hm1]
    replace hyes := Lib.hid hyes
    replace hok := Lib.hid hok
    clear hm1 hm3 hm4
    obtain ⟨w5, hw5, _, _, _, _, _, hs5, hb5, b5⟩ := box_five w4 (.int .u8 (x.1.1.toNat : Int)) (.int .u32 x.1.2.1) (.int .u32 x.1.2.2) (.int .i64 x.2.1) (.slice D x.2.2.length dc) 52
    have C5 := C4.out.trans (hb5.mono C4.out.size)
    have hI5 := hI4.out.new (Nat.le_refl _) hb5
    have hx5 : rBy (NewBut w.heap.size A w5) w5 [.slice D x.2.2.length dc] x.2.2 := by
      obtain ⟨d, e, _, hd⟩ := hI5
      have ed : d = .slice D x.2.2.length dc := by injection e with e; simpa using e.symm
      subst ed
      exact stab_by _ _ _ _ _ _ (fun p v hp hc => ⟨hrow.out.but (Nat.le_refl _) hb.out.size hp, hc⟩) hd
    have row5 := RowOf.below stab_it hrow.out C5
    have hb5' := hb.out.trans (C5.mono hb.out.size)
    have hk5 : l.length < 100000 := by have := hl.out; omega
    obtain ⟨A6, c6, w6, hr6, row6, _, hb6⟩ := its_push row5 w4.heap.size x _ 1 k hl.out b5 (by omega) hb5'.size hin hx5
    have B6 := Lib.hid (hb5'.trans hb6)
    have H6 := Lib.hid hr6
    replace row6 := Lib.hid row6
    have hll := Lib.hid (show (l ++ [x]).length = k + 1 by simp [hl.out])
    obtain ⟨qa, rfl⟩ : ∃ qa, Q = some qa := by
      obtain ⟨_, _, e, _, _, h4⟩ := rBy_open hq.out
      cases e
      obtain ⟨qa, e, _⟩ := h4 0 (by have := hnq.out; omega)
      exact ⟨qa, e⟩
    have hrest := Lib.hid (rBy_rest hq.out m (by rw [hnq.out]; exact hm2))
    have hnil : Hid (m = nq → ∀ W, rBy (Old W) W [.slice (some qa) 0 0] (r.drop m)) := Lib.hid fun e W => by
      rw [List.drop_of_length_le (by rw [hnq.out]; omega)]
      exact rBy_part0 _ _ _
    replace hs5 := Lib.hid hs5
    replace b5 := Lib.hid b5
    replace hI5 := Lib.hid hI5
    clear hr6 hb6 hx5 row5 C5 hb5 hb5' hin
    by_cases hmc : m = cq
    · have c1 : (0 : Int) ≤ (m : Int) := by omega
      have c2 : (m : Int) ≤ cq := by omega
      have c3 : (m : Int) ≤ nq := by omega
      go_wp2_with (at_builtin; refine wpList_append_run rfl _ _ _ rfl rfl rfl H6.out ?_; clear H6)
      go_roundw
      case rel => exact ⟨k + 1, l ++ [x], r.drop m, A6, c6, by omega, by go_num, rfl, hll.out, hyes.out, hnil.out (by omega) w, row6.out, B6.out⟩
      case measure => simp [intOf]; omega
    · have c1 : (0 : Int) ≤ (m : Int) := by omega
      have c2 : (m : Int) ≤ cq := by omega
      have c3 : (m : Int) ≤ nq := by omega
      go_wp2_with (at_builtin; refine wpList_append_run rfl _ _ _ rfl rfl rfl H6.out ?_; clear H6)
      go_roundw
      case rel => exact ⟨k + 1, l ++ [x], r.drop m, A6, c6, by omega, by go_num, rfl, hll.out, hyes.out, hrest.out, row6.out, B6.out⟩
      case measure => simp [intOf]; omega
end Go.Proofs.YtdaidhbmfocodaaGreat

/-
  Package node: refers, Check. Conditions: those that each lemma states.
-/
namespace Go.Proofs.YtdaidhbmfocodaaGreat
open Go.RowKit

set_option maxRecDepth 100000 in
set_option maxHeartbeats 2000000 in
theorem refers_any (v : Value) (s : It) (w : World) (h : Itm (Old w) w v s) : Calls Tryz.prog 90 #[v] w fun e w' => e = .returned (.bool (refersI s)) ∧ Below w.heap.size w w' := by
  obtain ⟨A, c, rfl, _, l1, m1, _⟩ := h.open
  have hw : refersI s = (decide (s.2.1 ≠ 0) && decide (s.2.2.length = 0)) := rfl
  obtain ⟨n, hn⟩ : ∃ n, s.2.2.length = n := ⟨_, rfl⟩
  unfold itV
  rw [hn] at l1 hw ⊢
  obtain ⟨w0, hw0, f1, f2, f3, f4, f5, hs0, hB0, _⟩ := box_five w (.int .u8 (s.1.1.toNat : Int)) (.int .u32 s.1.2.1) (.int .u32 s.1.2.2) (.int .i64 s.2.1) (.slice A n c) 52
  clear f1 f2 f3 hs0 hn h
  replace hB0 := Lib.hid hB0
  obtain ⟨r, hr⟩ : ∃ r, s.2.1 = r := ⟨_, rfl⟩
  rw [hr] at hw f4 hw0 ⊢
  clear hr
  generalize refersI s = res at hw ⊢
  replace hw := Lib.hid hw
  by_cases h0 : r = 0
  · have t0 : (r != 0) = false := by simpa using h0
    have hr := Lib.hid (show res = false by rw [hw.out]; simp [h0])
    replace h0 := Lib.hid h0
    go_enter Tryz.func90, Tryz.ntmps90
    go_upto_region 1 with fail
    clear hw0
    go_wp2_with fail
    go_ret
    exact ⟨ret_bool hr.out.symm, hB0.out⟩
  · have t0 : (r != 0) = true := by simpa using h0
    by_cases h1 : n = 0
    · have t1 : ((n : Int) == 0) = true := by simp; omega
      have hr := Lib.hid (show res = true by rw [hw.out]; simp [h0, h1])
      replace h0 := Lib.hid h0
      replace h1 := Lib.hid h1
      go_enter Tryz.func90, Tryz.ntmps90
      go_upto_region 1 with fail
      clear hw0
      go_wp2_with fail
      go_ret
      exact ⟨ret_bool hr.out.symm, hB0.out⟩
    · have t1 : ((n : Int) == 0) = false := by simp; omega
      have hr := Lib.hid (show res = false by rw [hw.out]; simp [h1])
      replace h0 := Lib.hid h0
      replace h1 := Lib.hid h1
      go_enter Tryz.func90, Tryz.ntmps90
      go_upto_region 1 with fail
      clear hw0
      go_wp2_with fail
      go_ret
      exact ⟨ret_bool hr.out.symm, hB0.out⟩

theorem bool_two (b : Bool) : b = false ∨ b = true := by cases b <;> simp
set_option maxRecDepth 100000 in
set_option maxHeartbeats 8000000 in
theorem checkN_any (v : Value) (n : Nd) (w : World) (h : Nod (Old w) w v n) : Calls Tryz.prog 63 #[v] w fun e w' => e = .returned (.int .i64 (chkN n)) ∧ Below w.heap.size w w' := by
  obtain ⟨A, c, rfl, hin, l1, m1, hA⟩ := h.open
  have hbad0 := Lib.hid (fun hh => chkN_bad (mayN_shape (n := n) hh))
  have hbad1 : Hid (∀ k, k < n.2.length → okAt n k = false → chkN n = 8) := Lib.hid fun k hk hh => chkN_bad (mayN_at hk hh)
  have hgood := Lib.hid (fun hh h2 => chkN_ok (mayN_mk (n := n) hh h2))
  have HA := Lib.hid hA
  clear h hA
  obtain ⟨m, hm⟩ : ∃ m, n.2.length = m := ⟨_, rfl⟩
  obtain ⟨l, hl⟩ : ∃ l, n.1 = l := ⟨_, rfl⟩
  rw [hm] at l1 hbad0 hbad1 hgood HA ⊢
  rw [hl] at hbad0 hgood hin ⊢
  obtain ⟨i1, i2⟩ := hin
  replace hm := Lib.hid hm
  replace hl := Lib.hid hl
  obtain ⟨w0, hw0, b0, hs0, hB0⟩ := box_pair' w (.int .i64 l) (.slice A m c) 57
  obtain ⟨f1, f2, _, lt0⟩ := two_cells b0
  replace hB0 := Lib.hid hB0
  replace b0 := Lib.hid b0
  replace hs0 := Lib.hid hs0
  by_cases h1 : l < 0
  · have hr := Lib.hid (hbad0.out (by omega))
    rw [hr.out]
    go_enter Tryz.func63, Tryz.ntmps63
    go_upto_region 1 with fail
    clear hw0
    go_wp2_with fail
    go_ret
    exact ⟨rfl, hB0.out⟩
  by_cases h2 : 6 ≤ l
  · have hr := Lib.hid (hbad0.out (by omega))
    rw [hr.out]
    go_enter Tryz.func63, Tryz.ntmps63
    go_upto_region 1 with fail
    clear hw0
    go_wp2_with fail
    go_ret
    exact ⟨rfl, hB0.out⟩
  by_cases h3 : 5 < m
  · have hr := Lib.hid (hbad0.out (by omega))
    have h3' : (5 : Int) < m := by omega
    rw [hr.out]
    go_enter Tryz.func63, Tryz.ntmps63
    go_upto_region 1 with fail
    clear hw0
    go_wp2_with fail
    go_ret
    exact ⟨rfl, hB0.out⟩
  have h3' : ¬ (5 : Int) < m := by omega
  by_cases h4 : 0 < l ∧ m = 0
  · have hr := Lib.hid (hbad0.out (by omega))
    obtain ⟨h4a, h4b⟩ := h4
    have h4c : ((m : Int) == 0) = true := by simp; omega
    replace h4b := Lib.hid h4b
    rw [hr.out]
    go_enter Tryz.func63, Tryz.ntmps63
    go_upto_region 1 with fail
    clear hw0
    go_wp2_with fail
    go_ret
    exact ⟨rfl, hB0.out⟩
  have hgood2 := Lib.hid (hgood.out (by omega))
  have hB := Lib.hid (fun wr (hb : Below w0.heap.size w0 wr) => hB0.out.trans (hb.mono hB0.out.size))
  clear hgood hbad0
  rcases (by omega : l ≤ 0 ∨ (0 < l ∧ m ≠ 0)) with h5 | ⟨h5, h6⟩
  rotate_left
  · have h6' : ((m : Int) == 0) = false := by simp; omega
    replace h6 := Lib.hid h6
    replace h4 := Lib.hid h4
    go_enter Tryz.func63, Tryz.ntmps63
    go_upto_region 1 with fail
    clear hw0
    go_wp2_with fail
    go_loopw [31] (fun i wr => ∃ k : Nat, k ≤ m ∧ i = .int .i64 k ∧ (∀ j, j < k → okAt n j = true) ∧ Below w0.heap.size w0 wr) (fun i _ => m - (intOf i).toNat)
    case atStart => exact ⟨0, by omega, rfl, fun j hj => by omega, Below.refl _ _⟩
    case round =>
      obtain ⟨k, hk, rfl, ha, hb⟩ := hrel
      replace ha := Lib.hid ha
      replace hb := Lib.hid hb
      have p1 := (hb.out.cell (p := ⟨w.heap.size, 0, none⟩) lt0).trans f1
      have p2 := (hb.out.cell (p := ⟨w.heap.size, 1, none⟩) lt0).trans f2
      by_cases hlt : k < m
      case neg =>
        have hfin := Lib.hid (hgood2.out fun i hi => ha.out i (by omega))
        have BF := Lib.hid (hB.out _ hb.out)
        go_wp2_with fail
        go_ret
        exact ⟨ret_int hfin.out.symm, BF.out⟩
      obtain ⟨x, hx⟩ : ∃ x, n.2[k]? = some x := ⟨_, List.getElem?_eq_getElem (by rw [hm.out]; exact hlt)⟩
      obtain ⟨ad, E, ce, rfl, q1, q2, hinx, FX⟩ := its_old HA.out hx
      have FX' := Lib.hid (fun W (hW : Below wr.heap.size wr W) => FX W ((hB.out _ hb.out).trans (hW.mono (hB.out _ hb.out).size)))
      obtain ⟨⟨z0, z1, z2, z3, z4⟩, hIx⟩ := FX'.out wr (Below.refl _ _)
      obtain ⟨w2, hw2, g0, g1, g2, g3, g4, hs2, hB2, _⟩ := box_five wr (.int .u8 (x.1.1.toNat : Int)) (.int .u32 x.1.2.1) (.int .u32 x.1.2.2) (.int .i64 x.2.1) (.slice E x.2.2.length ce) 52
      have HI := Lib.hid (hIx.below hB2)
      have lt2 : wr.heap.size < w2.heap.size := by omega
      have B2 := Lib.hid (hb.out.trans (hB2.mono hb.out.size))
      have C2 := Lib.hid hB2
      replace hx := Lib.hid hx
      replace hs2 := Lib.hid hs2
      have hbk := Lib.hid (hbad1.out k hlt)
      clear FX hIx hB2 hinx
      unfold itV at *
      go_upto_region 8 with fail
      clear hw2
      go_wp2_with fail
      with_reducible refine (checkI_any _ x _ HI.out).mono ?_
      rintro e3 w3 ⟨rfl, hb3⟩
      have B3 := Lib.hid (B2.out.trans (hb3.mono B2.out.size))
      have C3 := Lib.hid (C2.out.trans (hb3.mono C2.out.size))
      have r0 := (hb3.cell (p := ⟨wr.heap.size, 0, none⟩) lt2).trans g0
      have r1 := (hb3.cell (p := ⟨wr.heap.size, 1, none⟩) lt2).trans g1
      have r2 := (hb3.cell (p := ⟨wr.heap.size, 2, none⟩) lt2).trans g2
      have r3 := (hb3.cell (p := ⟨wr.heap.size, 3, none⟩) lt2).trans g3
      have r4 := (hb3.cell (p := ⟨wr.heap.size, 4, none⟩) lt2).trans g4
      have p3 := (hb3.cell (p := ⟨w.heap.size, 0, none⟩) (Nat.lt_of_lt_of_le lt0 B2.out.size)).trans ((C2.out.cell (p := ⟨w.heap.size, 0, none⟩) (Nat.lt_of_lt_of_le lt0 hb.out.size)).trans p1)
      have p4 := (hb3.cell (p := ⟨w.heap.size, 1, none⟩) (Nat.lt_of_lt_of_le lt0 B2.out.size)).trans ((C2.out.cell (p := ⟨w.heap.size, 1, none⟩) (Nat.lt_of_lt_of_le lt0 hb.out.size)).trans p2)
      replace HI := Lib.hid (HI.out.below hb3)
      have lt3 : wr.heap.size < w3.heap.size := Nat.lt_of_lt_of_le lt2 hb3.size
      clear hb3 g0 g1 g2 g3 g4 z0 z1 z2 z3 z4 p1 p2
      rcases bool_two (mayI x) with hmx | hmx
      · have hr := Lib.hid (hbk.out (okAt_noP hx.out (by rw [okP, hmx]; rfl)))
        have hc := Lib.hid (chkI_bad hmx)
        have BF := Lib.hid (hB.out _ B3.out)
        replace hmx := Lib.hid hmx
        rw [hc.out]
        go_wp2_with fail
        go_ret
        exact ⟨ret_int hr.out.symm, BF.out⟩
      have hc := Lib.hid (chkI_ok hmx)
      replace hmx := Lib.hid hmx
      rw [hc.out]
      go_wp2_with fail
      with_reducible refine (refers_any _ x _ HI.out).mono ?_
      rintro e4 w4 ⟨rfl, hb4⟩
      have B4 := Lib.hid (B3.out.trans (hb4.mono B3.out.size))
      have C4 := Lib.hid (C3.out.trans (hb4.mono C3.out.size))
      have t0 := (hb4.cell (p := ⟨wr.heap.size, 0, none⟩) lt3).trans r0
      have t1 := (hb4.cell (p := ⟨wr.heap.size, 1, none⟩) lt3).trans r1
      have t2 := (hb4.cell (p := ⟨wr.heap.size, 2, none⟩) lt3).trans r2
      have p5 := (hb4.cell (p := ⟨w.heap.size, 1, none⟩) (Nat.lt_of_lt_of_le lt0 B3.out.size)).trans p4
      have lt4 : wr.heap.size < w4.heap.size := Nat.lt_of_lt_of_le lt3 hb4.size
      have lt0' : w.heap.size < w4.heap.size := Nat.lt_of_lt_of_le lt0 B4.out.size
      clear hb4 r0 r1 r2 r3 r4 p3 p4
      rcases bool_two (refersI x) with hrx | hrx
      · have hr := Lib.hid (hbk.out (okAt_noP hx.out (by rw [okP, hmx.out, hrx, hl.out]; simp; omega)))
        have BF := Lib.hid (hB.out _ B4.out)
        rw [hrx]
        replace hrx := Lib.hid hrx
        go_wp2_with fail
        go_ret
        exact ⟨ret_int hr.out.symm, BF.out⟩
      have hP := Lib.hid (show okP n.1 x = true by rw [okP, hmx.out, hrx]; simp)
      rw [hrx]
      replace hrx := Lib.hid hrx
      rcases (by rcases k with _ | j; exact Or.inl rfl; exact Or.inr ⟨j, rfl⟩ : k = 0 ∨ ∃ j, k = j + 1) with hk0 | ⟨j, hkj⟩
      · have hall := Lib.hid (show ∀ j, j < k + 1 → okAt n j = true from fun j hj => by
          obtain rfl : j = 0 := by omega
          subst hk0
          rw [okAt_zero hx.out, hP.out])
        subst hk0
        go_wp2_with fail
        go_quiet (fail)
        go_wp2_with fail
        go_roundw
        case rel => exact ⟨0 + 1, by omega, by go_num, hall.out, below_drewN B4.out _⟩
        case measure => simp [intOf]; omega
      · obtain ⟨y, hy⟩ : ∃ y, n.2[j]? = some y := ⟨_, List.getElem?_eq_getElem (by rw [hm.out]; omega)⟩
        obtain ⟨ad', E', ce', e', _, _, _, FY⟩ := its_old HA.out hy
        have e'' := Option.some.inj e'
        subst e''
        clear e'
        have BW4 := Lib.hid (hB.out _ B4.out)
        have FYY := Lib.hid fun W (hW : Below _ _ W) => (FY W (BW4.out.trans (hW.mono BW4.out.size))).1
        have hsucc := Lib.hid (show okAt n k = lessK y.1 x.1 by subst hkj; rw [okAt_succ hx.out hy, hP.out]; simp)
        have hj1 : (k : Int) - 1 = (j : Int) := by omega
        replace hy := Lib.hid hy
        obtain ⟨s, hs⟩ : ∃ s, lessK y.1 x.1 = s := ⟨_, rfl⟩
        rw [hs] at hsucc
        replace hs := Lib.hid hs
        have hwj : IntKind.i64.wrap (j : Int) = (j : Int) := IntWalk.i64_in _ (by omega)
        have hj0 : (0 : Int) ≤ (j : Int) := by omega
        have kpos : (0 : Int) < (k : Int) := by omega
        have hjm : (j : Int) < (m : Int) := by omega
        clear FY
        go_wp2_with fail
        refine wp_region_fx (by kernel_rfl) (fun W => Below _ _ W) (fun _ => none) (fun i => match i with
          | 12 => some (.bool s)
          | _ => none) (by kernel_rfl) (Below.refl _ _).drew (fun w w' h hb => h.trans (hb.mono h.size)) (fun j φ x W W' hp => by cases hp) ?_
        repeat (first
          | (refine wpAs_skip rfl ?_; simp only [Act.put, List.setIfInBounds_toArray, List.set_cons_zero, List.set_cons_succ])
          | (refine wpAs_pure (v := ?_) rfl rfl ?_ ?_; rotate_left; (intro W hC hE; clear hE; (obtain ⟨y0, y1, y2, y3, y4⟩ := FYY.out W hC; have x0 := (hC.cell (p := ⟨wr.heap.size, 0, none⟩) lt4).trans t0; have x1 := (hC.cell (p := ⟨wr.heap.size, 1, none⟩) lt4).trans t1; have x2 := (hC.cell (p := ⟨wr.heap.size, 2, none⟩) lt4).trans t2; have p6 := (hC.cell (p := ⟨w.heap.size, 1, none⟩) lt0').trans p5); clear hC; go_simp; done); simp only [Act.put, List.setIfInBounds_toArray, List.set_cons_zero, List.set_cons_succ])
          | (refine wpAs_pure (v := ?_) rfl rfl ?_ ?_; rotate_left; (intro W hC hE; clear hE; (obtain ⟨y0, y1, y2, y3, y4⟩ := FYY.out W hC; have x0 := (hC.cell (p := ⟨wr.heap.size, 0, none⟩) lt4).trans t0; have x1 := (hC.cell (p := ⟨wr.heap.size, 1, none⟩) lt4).trans t1; have x2 := (hC.cell (p := ⟨wr.heap.size, 2, none⟩) lt4).trans t2; have p6 := (hC.cell (p := ⟨w.heap.size, 1, none⟩) lt0').trans p5); clear hC; go_simp; with_reducible rfl); simp only [Act.put, List.setIfInBounds_toArray, List.set_cons_zero, List.set_cons_succ]))
        refine wpAs_fixed rfl rfl rfl ?_ ?_
        · intro W hC hE
          refine does_enter (f := 20) (args := #[kyV y.1, kyV x.1]) ?_ ?_
          · go_simp
          · refine (less_any y.1 x.1 W).mono ?_
            rintro e W' ⟨rfl, hg⟩
            rw [hs.out]
            exact ⟨_, rfl, rfl, hg⟩
        simp only [Act.put, List.setIfInBounds_toArray, List.set_cons_zero, List.set_cons_succ]
        repeat (first
          | (refine wpAs_skip rfl ?_; simp only [Act.put, List.setIfInBounds_toArray, List.set_cons_zero, List.set_cons_succ])
          | (refine wpAs_pure (v := ?_) rfl rfl ?_ ?_; rotate_left; (intro W hC hE; clear hE; skip; clear hC; go_simp; done); simp only [Act.put, List.setIfInBounds_toArray, List.set_cons_zero, List.set_cons_succ])
          | (refine wpAs_pure (v := ?_) rfl rfl ?_ ?_; rotate_left; (intro W hC hE; clear hE; skip; clear hC; go_simp; with_reducible rfl); simp only [Act.put, List.setIfInBounds_toArray, List.set_cons_zero, List.set_cons_succ]))
        refine wpAs_end fun W hC hE => ?_
        have BW := Lib.hid (B4.out.trans (hC.mono B4.out.size))
        clear hE hC
        cases s with
        | true =>
          have hall := Lib.hid (show ∀ j, j < k + 1 → okAt n j = true from fun j hj => by
            rcases Nat.lt_or_ge j k with h | h
            · exact ha.out j h
            · obtain rfl : j = k := by omega
              exact hsucc.out)
          go_wp2_with fail
          go_roundw
          case rel => exact ⟨k + 1, by omega, by go_num, hall.out, BW.out⟩
          case measure => simp [intOf]; omega
        | false =>
          have hr := Lib.hid (hbk.out hsucc.out)
          have BF := Lib.hid (hB.out _ BW.out)
          go_wp2_with fail
          go_ret
          exact ⟨ret_int hr.out.symm, BF.out⟩
  · replace h4 := Lib.hid h4
    go_enter Tryz.func63, Tryz.ntmps63
    go_upto_region 1 with fail
    clear hw0
    go_wp2_with fail
    go_loopw [31] (fun i wr => ∃ k : Nat, k ≤ m ∧ i = .int .i64 k ∧ (∀ j, j < k → okAt n j = true) ∧ Below w0.heap.size w0 wr) (fun i _ => m - (intOf i).toNat)
    case atStart => exact ⟨0, by omega, rfl, fun j hj => by omega, Below.refl _ _⟩
    case round =>
      obtain ⟨k, hk, rfl, ha, hb⟩ := hrel
      replace ha := Lib.hid ha
      replace hb := Lib.hid hb
      have p1 := (hb.out.cell (p := ⟨w.heap.size, 0, none⟩) lt0).trans f1
      have p2 := (hb.out.cell (p := ⟨w.heap.size, 1, none⟩) lt0).trans f2
      by_cases hlt : k < m
      case neg =>
        have hfin := Lib.hid (hgood2.out fun i hi => ha.out i (by omega))
        have BF := Lib.hid (hB.out _ hb.out)
        go_wp2_with fail
        go_ret
        exact ⟨ret_int hfin.out.symm, BF.out⟩
      obtain ⟨x, hx⟩ : ∃ x, n.2[k]? = some x := ⟨_, List.getElem?_eq_getElem (by rw [hm.out]; exact hlt)⟩
      obtain ⟨ad, E, ce, rfl, q1, q2, hinx, FX⟩ := its_old HA.out hx
      have FX' := Lib.hid (fun W (hW : Below wr.heap.size wr W) => FX W ((hB.out _ hb.out).trans (hW.mono (hB.out _ hb.out).size)))
      obtain ⟨⟨z0, z1, z2, z3, z4⟩, hIx⟩ := FX'.out wr (Below.refl _ _)
      obtain ⟨w2, hw2, g0, g1, g2, g3, g4, hs2, hB2, _⟩ := box_five wr (.int .u8 (x.1.1.toNat : Int)) (.int .u32 x.1.2.1) (.int .u32 x.1.2.2) (.int .i64 x.2.1) (.slice E x.2.2.length ce) 52
      have HI := Lib.hid (hIx.below hB2)
      have lt2 : wr.heap.size < w2.heap.size := by omega
      have B2 := Lib.hid (hb.out.trans (hB2.mono hb.out.size))
      have C2 := Lib.hid hB2
      replace hx := Lib.hid hx
      replace hs2 := Lib.hid hs2
      have hbk := Lib.hid (hbad1.out k hlt)
      clear FX hIx hB2 hinx
      unfold itV at *
      go_upto_region 8 with fail
      clear hw2
      go_wp2_with fail
      with_reducible refine (checkI_any _ x _ HI.out).mono ?_
      rintro e3 w3 ⟨rfl, hb3⟩
      have B3 := Lib.hid (B2.out.trans (hb3.mono B2.out.size))
      have C3 := Lib.hid (C2.out.trans (hb3.mono C2.out.size))
      have r0 := (hb3.cell (p := ⟨wr.heap.size, 0, none⟩) lt2).trans g0
      have r1 := (hb3.cell (p := ⟨wr.heap.size, 1, none⟩) lt2).trans g1
      have r2 := (hb3.cell (p := ⟨wr.heap.size, 2, none⟩) lt2).trans g2
      have r3 := (hb3.cell (p := ⟨wr.heap.size, 3, none⟩) lt2).trans g3
      have r4 := (hb3.cell (p := ⟨wr.heap.size, 4, none⟩) lt2).trans g4
      have p3 := (hb3.cell (p := ⟨w.heap.size, 0, none⟩) (Nat.lt_of_lt_of_le lt0 B2.out.size)).trans ((C2.out.cell (p := ⟨w.heap.size, 0, none⟩) (Nat.lt_of_lt_of_le lt0 hb.out.size)).trans p1)
      have p4 := (hb3.cell (p := ⟨w.heap.size, 1, none⟩) (Nat.lt_of_lt_of_le lt0 B2.out.size)).trans ((C2.out.cell (p := ⟨w.heap.size, 1, none⟩) (Nat.lt_of_lt_of_le lt0 hb.out.size)).trans p2)
      replace HI := Lib.hid (HI.out.below hb3)
      have lt3 : wr.heap.size < w3.heap.size := Nat.lt_of_lt_of_le lt2 hb3.size
      clear hb3 g0 g1 g2 g3 g4 z0 z1 z2 z3 z4 p1 p2
      rcases bool_two (mayI x) with hmx | hmx
      · have hr := Lib.hid (hbk.out (okAt_noP hx.out (by rw [okP, hmx]; rfl)))
        have hc := Lib.hid (chkI_bad hmx)
        have BF := Lib.hid (hB.out _ B3.out)
        replace hmx := Lib.hid hmx
        rw [hc.out]
        go_wp2_with fail
        go_ret
        exact ⟨ret_int hr.out.symm, BF.out⟩
      have hc := Lib.hid (chkI_ok hmx)
      replace hmx := Lib.hid hmx
      rw [hc.out]
      have h5q : ¬ (0 : Int) < l := by omega
      have hP := Lib.hid (show okP n.1 x = true by rw [okP, hmx.out, hl.out]; simp; omega)
      obtain ⟨w4, hw4⟩ : ∃ w4, w3 = w4 := ⟨_, rfl⟩
      subst hw4
      have B4 := B3
      have C4 := C3
      have t0 := r0
      have t1 := r1
      have t2 := r2
      have p5 := p4
      have lt4 := lt3
      have lt0' : w.heap.size < w3.heap.size := Nat.lt_of_lt_of_le lt0 B4.out.size
      clear r0 r1 r2 r3 r4 lt3
      rcases (by rcases k with _ | j; exact Or.inl rfl; exact Or.inr ⟨j, rfl⟩ : k = 0 ∨ ∃ j, k = j + 1) with hk0 | ⟨j, hkj⟩
      · have hall := Lib.hid (show ∀ j, j < k + 1 → okAt n j = true from fun j hj => by
          obtain rfl : j = 0 := by omega
          subst hk0
          rw [okAt_zero hx.out, hP.out])
        subst hk0
        go_wp2_with fail
        go_quiet (fail)
        go_wp2_with fail
        go_roundw
        case rel => exact ⟨0 + 1, by omega, by go_num, hall.out, below_drewN B4.out _⟩
        case measure => simp [intOf]; omega
      · obtain ⟨y, hy⟩ : ∃ y, n.2[j]? = some y := ⟨_, List.getElem?_eq_getElem (by rw [hm.out]; omega)⟩
        obtain ⟨ad', E', ce', e', _, _, _, FY⟩ := its_old HA.out hy
        have e'' := Option.some.inj e'
        subst e''
        clear e'
        have BW4 := Lib.hid (hB.out _ B4.out)
        have FYY := Lib.hid fun W (hW : Below _ _ W) => (FY W (BW4.out.trans (hW.mono BW4.out.size))).1
        have hsucc := Lib.hid (show okAt n k = lessK y.1 x.1 by subst hkj; rw [okAt_succ hx.out hy, hP.out]; simp)
        have hj1 : (k : Int) - 1 = (j : Int) := by omega
        replace hy := Lib.hid hy
        obtain ⟨s, hs⟩ : ∃ s, lessK y.1 x.1 = s := ⟨_, rfl⟩
        rw [hs] at hsucc
        replace hs := Lib.hid hs
        have hwj : IntKind.i64.wrap (j : Int) = (j : Int) := IntWalk.i64_in _ (by omega)
        have hj0 : (0 : Int) ≤ (j : Int) := by omega
        have kpos : (0 : Int) < (k : Int) := by omega
        have hjm : (j : Int) < (m : Int) := by omega
        clear FY
        go_wp2_with fail
        refine wp_region_fx (by kernel_rfl) (fun W => Below _ _ W) (fun _ => none) (fun i => match i with
          | 12 => some (.bool s)
          | _ => none) (by kernel_rfl) (Below.refl _ _).drew (fun w w' h hb => h.trans (hb.mono h.size)) (fun j φ x W W' hp => by cases hp) ?_
        repeat (first
          | (refine wpAs_skip rfl ?_; simp only [Act.put, List.setIfInBounds_toArray, List.set_cons_zero, List.set_cons_succ])
          | (refine wpAs_pure (v := ?_) rfl rfl ?_ ?_; rotate_left; (intro W hC hE; clear hE; (obtain ⟨y0, y1, y2, y3, y4⟩ := FYY.out W hC; have x0 := (hC.cell (p := ⟨wr.heap.size, 0, none⟩) lt4).trans t0; have x1 := (hC.cell (p := ⟨wr.heap.size, 1, none⟩) lt4).trans t1; have x2 := (hC.cell (p := ⟨wr.heap.size, 2, none⟩) lt4).trans t2; have p6 := (hC.cell (p := ⟨w.heap.size, 1, none⟩) lt0').trans p5); clear hC; go_simp; done); simp only [Act.put, List.setIfInBounds_toArray, List.set_cons_zero, List.set_cons_succ])
          | (refine wpAs_pure (v := ?_) rfl rfl ?_ ?_; rotate_left; (intro W hC hE; clear hE; (obtain ⟨y0, y1, y2, y3, y4⟩ := FYY.out W hC; have x0 := (hC.cell (p := ⟨wr.heap.size, 0, none⟩) lt4).trans t0; have x1 := (hC.cell (p := ⟨wr.heap.size, 1, none⟩) lt4).trans t1; have x2 := (hC.cell (p := ⟨wr.heap.size, 2, none⟩) lt4).trans t2; have p6 := (hC.cell (p := ⟨w.heap.size, 1, none⟩) lt0').trans p5); clear hC; go_simp; with_reducible rfl); simp only [Act.put, List.setIfInBounds_toArray, List.set_cons_zero, List.set_cons_succ]))
        refine wpAs_fixed rfl rfl rfl ?_ ?_
        · intro W hC hE
          refine does_enter (f := 20) (args := #[kyV y.1, kyV x.1]) ?_ ?_
          · go_simp
          · refine (less_any y.1 x.1 W).mono ?_
            rintro e W' ⟨rfl, hg⟩
            rw [hs.out]
            exact ⟨_, rfl, rfl, hg⟩
        simp only [Act.put, List.setIfInBounds_toArray, List.set_cons_zero, List.set_cons_succ]
        repeat (first
          | (refine wpAs_skip rfl ?_; simp only [Act.put, List.setIfInBounds_toArray, List.set_cons_zero, List.set_cons_succ])
          | (refine wpAs_pure (v := ?_) rfl rfl ?_ ?_; rotate_left; (intro W hC hE; clear hE; skip; clear hC; go_simp; done); simp only [Act.put, List.setIfInBounds_toArray, List.set_cons_zero, List.set_cons_succ])
          | (refine wpAs_pure (v := ?_) rfl rfl ?_ ?_; rotate_left; (intro W hC hE; clear hE; skip; clear hC; go_simp; with_reducible rfl); simp only [Act.put, List.setIfInBounds_toArray, List.set_cons_zero, List.set_cons_succ]))
        refine wpAs_end fun W hC hE => ?_
        have BW := Lib.hid (B4.out.trans (hC.mono B4.out.size))
        clear hE hC
        cases s with
        | true =>
          have hall := Lib.hid (show ∀ j, j < k + 1 → okAt n j = true from fun j hj => by
            rcases Nat.lt_or_ge j k with h | h
            · exact ha.out j h
            · obtain rfl : j = k := by omega
              exact hsucc.out)
          go_wp2_with fail
          go_roundw
          case rel => exact ⟨k + 1, by omega, by go_num, hall.out, BW.out⟩
          case measure => simp [intOf]; omega
        | false =>
          have hr := Lib.hid (hbk.out hsucc.out)
          have BF := Lib.hid (hB.out _ BW.out)
          go_wp2_with fail
          go_ret
          exact ⟨ret_int hr.out.symm, BF.out⟩
end Go.Proofs.YtdaidhbmfocodaaGreat

/-
  Package node: Write. Conditions: those that each lemma states.
-/
namespace Go.Proofs.YtdaidhbmfocodaaGreat
open Go.RowKit

/-- Three literal bytes, as a row of the call's own. -/
theorem lit_own3 (w : World) (x y z : UInt8) (a b c : Int) (h1 : (x.toNat : Int) = a) (h2 : (y.toNat : Int) = b) (h3 : (z.toNat : Int) = c) : ∃ w1, w.alloc (.cells #[.int .u8 a, .int .u8 b, .int .u8 c] 5) = w1 ∧ w1.ownsRow w.heap.size 5 1 (.slice (some ⟨w.heap.size, 0, none⟩) 3 3) 3 (u8s [x, y, z]) ∧ Below w.heap.size w w1 ∧ w1.heap.size = w.heap.size + 1 := by
  subst h1 h2 h3
  refine ⟨_, rfl, ?_, (Below.refl _ _).alloc (Nat.le_refl _) _, by simp⟩
  have h1 : Row (w.alloc (.cells #[.int .u8 (x.toNat : Int), .int .u8 (y.toNat : Int), .int .u8 (z.toNat : Int)] 5)) w.heap.size [x, y, z] := Row.new w [x, y, z]
  exact h1.own (Nat.le_refl _) (by simp)
theorem u8_small {l : Int} (h0 : 0 ≤ l) (h1 : l < 256) : ((UInt8.ofNat l.toNat).toNat : Int) = l ∧ IntKind.u8.wrap l = l := by
  refine ⟨?_, ?_⟩
  · rw [UInt8.toNat_ofNat']
    omega
  · simp [IntKind.wrap, IntKind.signed, IntKind.bits]
    omega
theorem itsB_take_len {n : Nd} (h : mayN n = true) (k : Nat) : (itsB (n.2.take k)).length ≤ 120 := by
  have h1 := itsB_len (l := n.2.take k) (fun x hx => mayN_all h x (List.mem_of_mem_take hx))
  have h2 := (mayN_of h).1.2.2.1
  have h3 : (n.2.take k).length ≤ n.2.length := by rw [List.length_take]; omega
  omega

set_option maxRecDepth 100000 in
set_option maxHeartbeats 4000000 in
theorem nodeWrite_any (v : Value) (n : Nd) (w : World) (h : Nod (Old w) w v n) :
    Calls Tryz.prog 43 #[v] w fun e w' => ∃ u, e = .returned (.tuple #[u, .int .i64 (chkN n)]) ∧ rBy (New w.heap.size w') w' [u] (wrN n) ∧ Below w.heap.size w w' := by
  obtain ⟨A, c, rfl, hin, l1, m1, hA⟩ := h.open
  obtain ⟨w0, hw0, b0, hs0, hB0⟩ := box_pair' w (.int .i64 n.1) (.slice A n.2.length c) 57
  obtain ⟨f1, f2, _, lt0⟩ := two_cells b0
  have HN := Lib.hid (h.below hB0)
  have HA := Lib.hid hA
  have HB0 := Lib.hid hB0
  replace hs0 := Lib.hid hs0
  clear h hA hB0 b0 hin
  rcases bool_two (mayN n) with hm | hm
  · have hc := Lib.hid (chkN_bad hm)
    have hw := Lib.hid (show wrN n = [] by simp [wrN, hm])
    rw [hw.out]
    go_enter Tryz.func43, Tryz.ntmps43
    go_upto_region 1 with fail
    clear hw0
    go_wp2_with fail
    with_reducible refine (checkN_any _ n _ HN.out).mono ?_
    rintro e1 w1 ⟨rfl, hb1⟩
    rw [hc.out]
    have BF := Lib.hid (HB0.out.trans (hb1.mono HB0.out.size))
    clear hb1
    go_wp2_with fail
    go_ret2
    exact ⟨_, ret_two hc.out.symm, rBy_nil_new _ _, BF.out⟩
  have hmay := Lib.hid hm
  have hc := Lib.hid (chkN_ok hm)
  have hwr := Lib.hid (show wrN n = blkN n by simp [wrN, hm])
  rw [hwr.out]
  obtain ⟨⟨s1, s2, s3, _⟩, _⟩ := mayN_of hm
  obtain ⟨m, hmm⟩ : ∃ m, n.2.length = m := ⟨_, rfl⟩
  have hu1 := u8_small s1 (by omega)
  have hu2 := u8_small (l := (n.2.length : Int)) (by omega) (by omega)
  have hhead := Lib.hid (show headN n = [78, UInt8.ofNat n.1.toNat, UInt8.ofNat n.2.length] from rfl)
  rw [Int.toNat_natCast] at hu2
  rw [hmm] at l1 f2 hw0 HN HA s3 hu2 hhead ⊢
  obtain ⟨l, hl⟩ : ∃ l, n.1 = l := ⟨_, rfl⟩
  rw [hl] at f1 hw0 HN s1 s2 hu1 hhead ⊢
  replace hl := Lib.hid hl
  replace hmm := Lib.hid hmm
  clear hm
  go_enter Tryz.func43, Tryz.ntmps43
  go_upto_region 1 with fail
  clear hw0
  go_wp2_with fail
  with_reducible refine (checkN_any _ n _ HN.out).mono ?_
  rintro e1 w1 ⟨rfl, hb1⟩
  rw [hc.out]
  have B1 := Lib.hid (HB0.out.trans (hb1.mono HB0.out.size))
  have p1 := (hb1.cell (p := ⟨w.heap.size, 0, none⟩) lt0).trans f1
  have p2 := (hb1.cell (p := ⟨w.heap.size, 1, none⟩) lt0).trans f2
  have lt1 : w.heap.size < w1.heap.size := Nat.lt_of_lt_of_le lt0 hb1.size
  clear hb1 f1 f2
  obtain ⟨w2, hw2, own2, hb2, hs2⟩ := lit_own3 w1 78 (UInt8.ofNat l.toNat) (UInt8.ofNat m) 78 l m rfl hu1.1 hu2.1
  rw [← hhead.out] at own2
  have q1 := hu1.2
  have q2 := hu2.2
  have B2 := Lib.hid (B1.out.trans (hb2.mono B1.out.size))
  have p3 := (hb2.cell (p := ⟨w.heap.size, 1, none⟩) lt1).trans p2
  have lt2 : w.heap.size < w2.heap.size := Nat.lt_of_lt_of_le lt1 hb2.size
  have h12 := Lib.hid hb2.size
  replace own2 := Lib.hid own2
  replace hu1 := Lib.hid hu1
  replace hu2 := Lib.hid hu2
  replace hs2 := Lib.hid hs2
  have hb2' := Lib.hid hb2
  have p2' := Lib.hid p2
  clear hb2
  go_upto_region 5 with fail
  clear hw2 p1 p2
  go_wp2_with fail
  go_loopw [5, 26] (fun b i wr => ∃ k : Nat, k ≤ m ∧ i = .int .i64 k ∧ wr.ownsRow w1.heap.size 5 1 b (3 + (itsB (n.2.take k)).length) (u8s (headN n ++ itsB (n.2.take k))) ∧ Below w1.heap.size w1 wr) (fun _ i _ => m - (intOf i).toNat)
  case atStart => exact ⟨0, by omega, rfl, by simpa [itsB] using own2.out, hb2'.out⟩
  case round =>
    obtain ⟨k, hk, rfl, hown, hb⟩ := hrel
    replace hb := Lib.hid hb
    have h63 := itsB_take_len hmay.out k
    obtain ⟨B, cb, rfl, c1, c2, hby⟩ := own_byt hown
    have BF := Lib.hid (B1.out.trans (hb.out.mono B1.out.size))
    by_cases hlt : k < m
    case neg =>
      have hkm : Hid (n.2.take k = n.2) := Lib.hid (List.take_of_length_le (by rw [hmm.out]; omega))
      rw [hkm.out] at hby c1 h63 ⊢
      obtain ⟨q, hq⟩ : ∃ q, 3 + (itsB n.2).length = q := ⟨_, rfl⟩
      have hlen := Lib.hid (show (toldN n).length = q by rw [← hq]; simp [toldN, headN]; omega)
      have hse := Lib.hid (show se q = 0 from if_pos (by omega))
      have hsb := Lib.hid (show sb (toldN n) = blkN n from if_pos (by rw [hlen.out]; omega))
      have HY : Hid (Byt wr wr.heap.size B (toldN n)) := Lib.hid hby
      rw [hq] at c1 ⊢
      clear hown hq
      go_wp2_with fail
      with_reducible refine (seal_any B q cb (toldN n) hlen c1 c2 _ HY.out).mono ?_
      rintro e9 w9 ⟨u, rfl, ho, hb9⟩
      rw [hse.out]
      rw [hsb.out] at ho
      have hfin := Lib.hid (stab_by.mono (own_by ho) BF.out.size)
      have B9 := Lib.hid (BF.out.trans (hb9.mono BF.out.size))
      clear hb9 ho
      go_wp2_with fail
      go_ret2
      exact ⟨_, ret_two hc.out.symm, hfin.out, B9.out⟩
    have p4 := (hb.out.cell (p := ⟨w.heap.size, 1, none⟩) lt1).trans p2'.out
    obtain ⟨x, hx⟩ : ∃ x, n.2[k]? = some x := ⟨_, List.getElem?_eq_getElem (by rw [hmm.out]; exact hlt)⟩
    obtain ⟨ad, E, ce, rfl, q1, q2, hinx, FX⟩ := its_old HA.out hx
    obtain ⟨⟨z0, z1, z2, z3, z4⟩, hIx⟩ := FX wr BF.out
    obtain ⟨w3, hw3, r0, r1, r2, r3, r4, hs3, hB3, _⟩ := box_five wr (.int .u8 (x.1.1.toNat : Int)) (.int .u32 x.1.2.1) (.int .u32 x.1.2.2) (.int .i64 x.2.1) (.slice E x.2.2.length ce) 52
    have HI := Lib.hid (hIx.below hB3)
    have B3 := Lib.hid (hb.out.trans (hB3.mono hb.out.size))
    have O3 := Lib.hid (own_below hown hB3)
    have hmx := okP_may (mayN_item hmay.out hx)
    have hcx := Lib.hid (chkI_ok hmx)
    have hwx := Lib.hid (show wrI x = itB x by simp [wrI, hmx])
    have htk := Lib.hid (itsB_take hx)
    have hlx := Lib.hid (show (itB x).length ≤ 24 by have := (mayI_of hmx).2; rw [itB_length]; omega)
    replace hx := Lib.hid hx
    replace hs3 := Lib.hid hs3
    clear FX hB3 hinx hIx hown hby hmx
    unfold itV at *
    go_upto_region 8 with fail
    clear hw3 z0 z1 z2 z3 z4
    go_wp2_with fail
    with_reducible refine (itWrite_any _ x _ HI.out).mono ?_
    rintro e4 w4 ⟨u, rfl, hu, hb4⟩
    rw [hcx.out]
    rw [hwx.out] at hu
    obtain ⟨U, cu, rfl, _, _, hyu⟩ := rBy_byt (B := w4.heap.size) (fun p hp => hp.2.1) hu
    have B4 := B3.out.trans (hb4.mono B3.out.size)
    obtain ⟨v5, w5, hr5, o5, ba5⟩ := app_own_byt _ (3 + (itsB (n.2.take k)).length) (itB x).length cu _ (itB x) U w1.heap.size w4 (own_below O3.out hb4) hyu rfl (by have := hlx.out; omega) B4.size
    have B5 := Lib.hid (B4.trans ba5)
    have H5 := Lib.hid hr5
    have o5' := Lib.hid (show w5.ownsRow w1.heap.size 5 1 v5 (3 + (itsB (n.2.take (k + 1))).length) (u8s (headN n ++ itsB (n.2.take (k + 1)))) by
      rw [htk.out, List.length_append, ← List.append_assoc, ← Nat.add_assoc]
      exact o5)
    clear hu hb4 hyu hr5 o5 ba5 B4
    go_wp2_with (at_builtin; refine wpList_append_run rfl _ _ _ rfl rfl rfl H5.out ?_; clear H5)
    go_roundw
    case rel => exact ⟨k + 1, by omega, by go_num, o5'.out, B5.out⟩
    case measure => simp [intOf]; omega
end Go.Proofs.YtdaidhbmfocodaaGreat

/-
  Package node: Read. Conditions: those that each lemma states.
-/
namespace Go.Proofs.YtdaidhbmfocodaaGreat
open Go.RowKit

def lvlN (body : List UInt8) : Int := ((body[1]?.getD 0).toNat : Int)
def manyN (body : List UInt8) : Nat := (body[2]?.getD 0).toNat
theorem manyN_lt (body : List UInt8) : manyN body < 256 := (body[2]?.getD 0).toNat_lt
theorem lvlN_in (body : List UInt8) : In64 (lvlN body) := by
  have := (body[1]?.getD 0).toNat_lt
  unfold lvlN
  exact ⟨by omega, by omega⟩
def ndN (body : List UInt8) : Nd := (lvlN body, cutL (body.drop 3) (manyN body))
def rdN (body : List UInt8) : Bool := decide (body[0]?.getD 0 = 78) && ((cutTo (body.drop 3) (manyN body)).isSome && (mayN (ndN body) && noughtsB (cutR (body.drop 3) (manyN body))))
noncomputable def reN (b : List UInt8) : Int := if oe b = 0 then (if rdN (ob b) then 0 else 8) else oe b
noncomputable def reV (b : List UInt8) : Nd := if oe b = 0 then (if rdN (ob b) then ndN (ob b) else zeroN) else zeroN
theorem oe_zeroN {b : List UInt8} (h : oe b = 0) : b.length = 128 ∧ fits b ∧ ob b = b.drop 4 ∧ (ob b).length = 124 := by
  unfold oe at h
  by_cases h1 : b.length = 128
  · rw [if_pos h1] at h
    by_cases h2 : fits b
    · have : ob b = b.drop 4 := by unfold ob; rw [if_pos ⟨h1, h2⟩]
      exact ⟨h1, h2, this, by rw [this]; simp [h1]⟩
    · rw [if_neg h2] at h; cases h
  · rw [if_neg h1] at h; cases h
theorem reN_open {b : List UInt8} (h : oe b ≠ 0) : reN b = oe b ∧ reV b = zeroN := by
  unfold reN reV
  rw [if_neg h, if_neg h]
  exact ⟨rfl, rfl⟩
theorem reN_bad {b : List UInt8} (h : oe b = 0) (h' : rdN (ob b) = false) : reN b = 8 ∧ reV b = zeroN := by
  unfold reN reV
  rw [if_pos h, if_pos h, h']
  exact ⟨rfl, rfl⟩
theorem reN_good {b : List UInt8} (h : oe b = 0) (h' : rdN (ob b) = true) : reN b = 0 ∧ reV b = ndN (ob b) := by
  unfold reN reV
  rw [if_pos h, if_pos h, h']
  exact ⟨rfl, rfl⟩
set_option maxRecDepth 100000 in
set_option maxHeartbeats 4000000 in
theorem nodeRead_any (v : Value) (b : List UInt8) (w : World) (h : rBy (Old w) w [v] b) :
    Calls Tryz.prog 37 #[v] w fun e w' => ∃ u, e = .returned (.tuple #[u, .int .i64 (reN b)]) ∧ Nod (New w.heap.size w') w' u (reV b) ∧ Below w.heap.size w w' := by
  obtain ⟨A, c, rfl, l1, m1, hy⟩ := rBy_byt (B := w.heap.size) (fun p hp => hp) h
  obtain ⟨n, hn⟩ : ∃ n, b.length = n := ⟨_, rfl⟩
  rw [hn] at l1 ⊢
  replace hn := Lib.hid hn
  obtain ⟨w0, hw0, b0, hs0, hB0⟩ := box_pair' w (.int .i64 0) (.slice none 0 0) 57
  have lt0 : w.heap.size < w0.heap.size := by omega
  have HB0 := Lib.hid hB0
  have HY := Lib.hid ((hy.below hB0).more hB0.size)
  -- a refusal, from whatever later world
  have hzero : Hid (∀ (er : Int) (W : World), reN b = er ∧ reV b = zeroN → Below w0.heap.size w0 W → ∃ W9, (W.setCell ⟨w.heap.size, 0, none⟩ (.int .i64 0)).setCell ⟨w.heap.size, 1, none⟩ (.slice none 0 0) = W9 ∧ W9.cell? ⟨w.heap.size, 0, none⟩ = some (.int .i64 0) ∧ W9.cell? ⟨w.heap.size, 1, none⟩ = some (.slice none 0 0) ∧ (∀ o, W.frozen? ⟨w.heap.size, o, none⟩ = false) ∧ W.cell? ⟨w.heap.size, 0, none⟩ = some (.int .i64 0) ∧ W.cell? ⟨w.heap.size, 1, none⟩ = some (.slice none 0 0) ∧
      (∃ u, Ending.returned (.tuple #[.agg #[.int .i64 0, .slice none 0 0], .int .i64 er]) = .returned (.tuple #[u, .int .i64 (reN b)]) ∧ Nod (New w.heap.size W9) W9 u (reV b) ∧ Below w.heap.size w W9)) := Lib.hid fun er W hre hW => by
    have bW := (hW.block w.heap.size lt0).trans b0
    obtain ⟨W9, e9, g9, gr9, gs9⟩ := put_two (u := .int .i64 0) (v := .slice none 0 0) bW
    obtain ⟨k0, k1, kf, _⟩ := two_cells g9
    obtain ⟨y0, y1, yf, _⟩ := two_cells bW
    have hBW := HB0.out.trans (hW.mono HB0.out.size)
    exact ⟨W9, e9, k0, k1, yf, y0, y1, _, by rw [hre.1], by rw [hre.2]; exact nod_zero _ _, hBW.grown gr9 hBW.size (fun q e => by cases e; omega)⟩
  replace b0 := Lib.hid b0
  replace hw0 := Lib.hid hw0
  clear hB0 hs0 h hy
  go_enter Tryz.func37, Tryz.ntmps37
  go_upto_region 1 with fail
  rw [hw0.out]
  clear hw0
  go_wp2_with fail
  with_reducible refine (open_any A n c b hn l1 m1 _ HY.out).mono ?_
  rintro e1 w1 ⟨v1, rfl, ho1, hb1⟩
  have B1 := Lib.hid hb1
  have hBW1 := Lib.hid (show w.heap.size ≤ w1.heap.size from Nat.le_trans (Nat.le_of_lt lt0) hb1.size)
  obtain ⟨er, hoe⟩ : ∃ er, oe b = er := ⟨_, rfl⟩
  rw [hoe]
  by_cases h0 : er = 0
  case neg =>
    have t0 : (er != 0) = true := by simpa using h0
    obtain ⟨W9, e9, k0, k1, yf, y0, y1, hfin⟩ := hzero.out er w1 (by rw [← hoe]; exact reN_open (by rw [hoe]; exact h0)) B1.out
    replace hfin := Lib.hid hfin
    replace h0 := Lib.hid h0
    replace hoe := Lib.hid hoe
    clear ho1 hb1
    go_wp2_with fail
    exact bodyPost_ret (v := .tuple #[.agg #[.int .i64 0, .slice none 0 0], .int .i64 er]) (by simp [results, Tryz.results37, go_sem, k0, k1]) rfl hfin.out
  subst h0
  obtain ⟨hlen, hfits, hob, hl124⟩ := oe_zeroN hoe
  have HZ := Lib.hid (fun W h hW => hzero.out 8 W (reN_bad hoe h) hW)
  have HG := Lib.hid (fun h => reN_good hoe h)
  have hr1 := own_by ho1
  obtain ⟨bd, hbd⟩ : ∃ bd, ob b = bd := ⟨_, rfl⟩
  rw [hbd] at hr1 HZ HG hl124
  replace hbd := Lib.hid hbd
  obtain ⟨Q, cq, rfl, n1, n2, hcell⟩ := rBy_open hr1
  rw [hl124] at n1 hcell hr1 ⊢
  obtain ⟨ad, rfl, hn0, hc0⟩ := hcell 0 (by omega)
  obtain ⟨_, e, hn1', hc1⟩ := hcell 1 (by omega)
  cases e
  obtain ⟨_, e, hn2', hc2⟩ := hcell 2 (by omega)
  cases e
  have z0 : w1.cell? ad = some (.int .u8 ((bd[0]?.getD 0).toNat : Int)) := by simpa [Addr.add] using hc0
  have z1 : w1.cell? ⟨ad.block, ad.off + 1, none⟩ = some (.int .u8 ((bd[1]?.getD 0).toNat : Int)) := by simpa [Addr.add] using hc1
  have z2 : w1.cell? ⟨ad.block, ad.off + 2, none⟩ = some (.int .u8 ((bd[2]?.getD 0).toNat : Int)) := by simpa [Addr.add] using hc2
  have ltb : ad.block < w1.heap.size := World.block_lt_of_cell? _ _ z0
  have hrest := Lib.hid (rBy_rest (stab_by.drop hr1) 3 (by omega))
  have hl := Lib.hid hl124
  replace hoe := Lib.hid hoe
  clear hfits hob hlen hc0 hc1 hc2 hn0 hn1' hn2' ho1 hb1 hcell hl124 hzero
  have hrd : Hid (rdN bd = (decide (bd[0]?.getD 0 = 78) && ((cutTo (bd.drop 3) (manyN bd)).isSome && (mayN (ndN bd) && noughtsB (cutR (bd.drop 3) (manyN bd)))))) := Lib.hid rfl
  obtain ⟨x0, hx0⟩ : ∃ x, bd[0]?.getD 0 = x := ⟨_, rfl⟩
  rw [hx0] at z0 hrd
  replace hx0 := Lib.hid hx0
  by_cases h78 : (x0.toNat : Int) = 78
  case neg =>
    have t0 : ((x0.toNat : Int) != 78) = true := by simpa using h78
    obtain ⟨W9, e9, k0, k1, yf, y0, y1, hfin⟩ := HZ.out w1 (by rw [hrd.out]; simp; intro e; exact absurd (by rw [e]; rfl) h78) B1.out
    replace hfin := Lib.hid hfin
    replace h78 := Lib.hid h78
    clear hr1
    go_wp2_with fail
    exact bodyPost_ret (v := .tuple #[.agg #[.int .i64 0, .slice none 0 0], .int .i64 8]) (by simp [results, Tryz.results37, go_sem, k0, k1]) rfl hfin.out
  have t0 : ((x0.toNat : Int) != 78) = false := by simpa using h78
  have h78' := Lib.hid (show x0 = 78 from UInt8.toNat.inj (by show x0.toNat = 78; omega))
  replace h78 := Lib.hid h78
  obtain ⟨mn, hmn⟩ : ∃ m, manyN bd = m := ⟨_, rfl⟩
  have hmlt := manyN_lt bd
  rw [hmn] at hmlt hrd
  have z2' : w1.cell? ⟨ad.block, ad.off + 2, none⟩ = some (.int .u8 (mn : Int)) := by rw [← hmn]; exact z2
  have hmn' := Lib.hid hmn
  clear z2 hr1 hmn
  have had3 : ad.add 3 = ⟨ad.block, ad.off + 3, none⟩ := by simp [Addr.add]
  rw [had3] at hrest
  have hres := Lib.hid (fun W (hW : Below w1.heap.size w1 W) => nodeCut_any _ (bd.drop 3) mn hmlt W (stab_by.old hrest.out hW))
  go_upto_region 6 with fail
  obtain ⟨L, hL⟩ : ∃ L, cutL (bd.drop 3) mn = L := ⟨_, rfl⟩
  obtain ⟨R, hR⟩ : ∃ R, cutR (bd.drop 3) mn = R := ⟨_, rfl⟩
  obtain ⟨F, hF⟩ : ∃ F, cutF (bd.drop 3) mn = F := ⟨_, rfl⟩
  rw [hL, hR, hF] at hres
  have c3 : ¬ cq = 3 := by omega
  have c4 : (3 : Int) ≤ cq := by omega
  have hwm : IntKind.i64.wrap (mn : Int) = (mn : Int) := IntWalk.i64_in _ (by omega)
  refine wp_region_fx (by kernel_rfl) (fun W => Below w1.heap.size w1 W) (fun i => match i with
      | 6 => some (fun v W => ∃ A c u, v = .tuple #[.slice A L.length c, u, .int .i64 F] ∧ rIts (New w1.heap.size W) W [.slice A L.length c] L ∧ rBy (Old W) W [u] R)
      | 7 => some (fun v W => ∃ A c u, v = .tuple #[.slice A L.length c, u, .int .i64 F] ∧ rIts (New w1.heap.size W) W [.slice A L.length c] L ∧ rBy (Old W) W [u] R)
      | 8 => some (fun v W => rIts (New w1.heap.size W) W [v] L)
      | 9 => some (fun v W => rBy (Old W) W [v] R)
      | _ => none) (fun i => match i with
      | 10 => some (.int .i64 F)
      | _ => none) (by kernel_rfl) (Below.refl _ _).drew (fun w w' h hb => h.trans (hb.mono h.size)) ?tst ?_
  case tst =>
    intro j φ x W W' hp hx hb
    match j, hp with
    | 6, hp =>
      cases hp
      obtain ⟨A, c, u, e, h1, h2⟩ := hx
      exact ⟨A, c, u, e, stab_its.new h1 (Nat.le_refl _) hb, stab_by.old h2 hb⟩
    | 7, hp =>
      cases hp
      obtain ⟨A, c, u, e, h1, h2⟩ := hx
      exact ⟨A, c, u, e, stab_its.new h1 (Nat.le_refl _) hb, stab_by.old h2 hb⟩
    | 8, hp => cases hp; exact stab_its.new hx (Nat.le_refl _) hb
    | 9, hp => cases hp; exact stab_by.old hx hb
  repeat (first
    | (refine wpAs_skip rfl ?_; simp only [Act.put, List.setIfInBounds_toArray, List.set_cons_zero, List.set_cons_succ])
    | (refine wpAs_pure (v := ?_) rfl rfl ?_ ?_; rotate_left; (intro W hC hE; clear hE; (have y2 := (hC.cell (p := ⟨ad.block, ad.off + 2, none⟩) ltb).trans z2'); clear hC; go_simp; done); simp only [Act.put, List.setIfInBounds_toArray, List.set_cons_zero, List.set_cons_succ])
    | (refine wpAs_pure (v := ?_) rfl rfl ?_ ?_; rotate_left; (intro W hC hE; clear hE; (have y2 := (hC.cell (p := ⟨ad.block, ad.off + 2, none⟩) ltb).trans z2'); clear hC; go_simp; with_reducible rfl); simp only [Act.put, List.setIfInBounds_toArray, List.set_cons_zero, List.set_cons_succ]))
  refine wpAs_act rfl rfl ?_ ?_
  · intro W hC hE
    refine does_enter (f := 62) (args := #[.slice (some ⟨ad.block, ad.off + 3, none⟩) 121 (cq - 3), .int .i64 mn]) ?_ ?_
    · go_simp
    · refine (hres.out W hC).mono ?_
      rintro e W' ⟨A, c, u, rfl, h1, h2, hw⟩
      exact ⟨_, rfl, ⟨A, c, u, rfl, stab_its.mono h1 hC.size, h2⟩, hw⟩
  simp only [Act.put, List.setIfInBounds_toArray, List.set_cons_zero, List.set_cons_succ, envAdd]
  intro x30
  refine wpAs_act rfl rfl ?_ ?_
  · intro W hC hE
    have hx := hE.1 rfl
    clear hE
    go_simp
    exact ⟨hx, Below.refl _ _⟩
  simp only [Act.put, List.setIfInBounds_toArray, List.set_cons_zero, List.set_cons_succ, envAdd]
  intro x23
  refine wpAs_act rfl rfl ?_ ?_
  · intro W hC hE
    obtain ⟨A, c, u, rfl, h1, h2⟩ := hE.1 rfl
    clear hE
    have H1 := Lib.hid h1
    clear h1 h2
    go_simp
    exact ⟨H1.out, Below.refl _ _⟩
  simp only [Act.put, List.setIfInBounds_toArray, List.set_cons_zero, List.set_cons_succ, envAdd]
  intro x31
  refine wpAs_act rfl rfl ?_ ?_
  · intro W hC hE
    obtain ⟨A, c, u, rfl, h1, h2⟩ := hE.2.1 rfl
    clear hE
    have H2 := Lib.hid h2
    clear h1 h2
    go_simp
    exact ⟨H2.out, Below.refl _ _⟩
  simp only [Act.put, List.setIfInBounds_toArray, List.set_cons_zero, List.set_cons_succ, envAdd]
  intro x32
  refine wpAs_fixed rfl rfl rfl ?_ ?_
  · intro W hC hE
    obtain ⟨A, c, u, rfl, h1, h2⟩ := hE.2.2.1 rfl
    clear hE h1 h2
    go_simp
    exact ⟨rfl, Below.refl _ _⟩
  simp only [Act.put, List.setIfInBounds_toArray, List.set_cons_zero, List.set_cons_succ]
  repeat (first
    | (refine wpAs_skip rfl ?_; simp only [Act.put, List.setIfInBounds_toArray, List.set_cons_zero, List.set_cons_succ])
    | (refine wpAs_pure (v := ?_) rfl rfl ?_ ?_; rotate_left; (intro W hC hE; clear hE; skip; clear hC; go_simp; done); simp only [Act.put, List.setIfInBounds_toArray, List.set_cons_zero, List.set_cons_succ])
    | (refine wpAs_pure (v := ?_) rfl rfl ?_ ?_; rotate_left; (intro W hC hE; clear hE; skip; clear hC; go_simp; with_reducible rfl); simp only [Act.put, List.setIfInBounds_toArray, List.set_cons_zero, List.set_cons_succ]))
  refine wpAs_end fun wc hC hE => ?_
  have H31 := hE.2.1
  have H32 := hE.1
  clear hE
  have BC := Lib.hid (B1.out.trans (hC.mono B1.out.size))
  have y1 := (hC.cell (p := ⟨ad.block, ad.off + 1, none⟩) ltb).trans z1
  clear hC
  obtain ⟨X, cx, rfl, n3, n4⟩ := its_open H31
  obtain ⟨Y, cy, rfl, n5, n6, hy32⟩ := rBy_byt (B := wc.heap.size) (fun p hp => hp) H32
  cases hct : cutTo (bd.drop 3) mn with
  | none =>
    have hF8 : F = 8 := by rw [← hF]; simp [cutF, hct]
    subst hF8
    obtain ⟨W9, e9, k0, k1, yf, u0, u1, hfin⟩ := HZ.out wc (by rw [hrd.out, hct]; simp) BC.out
    replace hfin := Lib.hid hfin
    replace hct := Lib.hid hct
    replace hF := Lib.hid hF
    clear H31 H32 hy32
    go_wp2_with fail
    exact bodyPost_ret (v := .tuple #[.agg #[.int .i64 0, .slice none 0 0], .int .i64 8]) (by simp [results, Tryz.results37, go_sem, k0, k1]) rfl hfin.out
  | some p =>
    obtain ⟨l', r'⟩ := p
    have hF0 : F = 0 := by rw [← hF]; simp [cutF, hct]
    subst hF0
    have hsome := Lib.hid (show (cutTo (bd.drop 3) mn).isSome = true by rw [hct]; rfl)
    replace hct := Lib.hid hct
    replace hF := Lib.hid hF
    replace hL := Lib.hid hL
    replace hR := Lib.hid hR
    obtain ⟨lv, hlv⟩ : ∃ lv, lvlN bd = lv := ⟨_, rfl⟩
    have hlin := Lib.hid (lvlN_in bd)
    have hnd := Lib.hid (show ndN bd = (lv, L) by rw [ndN, hlv, hmn'.out, hL.out])
    rw [hlv] at hlin
    have y1' : wc.cell? ⟨ad.block, ad.off + 1, none⟩ = some (.int .u8 lv) := by rw [← hlv]; exact y1
    have hlw : IntKind.i64.wrap lv = lv := IntWalk.i64_in _ (by have := hlin.out; exact ⟨this.1, this.2⟩)
    replace hlv := Lib.hid hlv
    clear y1
    obtain ⟨w2, hw2, b2, hs2, hB2⟩ := box_pair' wc (.int .i64 lv) (.slice X L.length cx) 57
    obtain ⟨f1, f2, _, lt2⟩ := two_cells b2
    have N2 : Nod (New w1.heap.size w2) w2 (.agg #[.int .i64 lv, .slice X L.length cx]) (lv, L) := ⟨_, rfl, hlin.out, stab_its.new H31 (Nat.le_refl _) hB2⟩
    have HN2 := Lib.hid N2
    have B2 := Lib.hid (BC.out.trans (hB2.mono BC.out.size))
    have HY2 := Lib.hid ((hy32.below hB2).more hB2.size)
    replace hs2 := Lib.hid hs2
    replace b2 := Lib.hid b2
    clear H31 H32 hy32 N2 hB2
    go_upto_region 10 with fail
    clear hw2 y1'
    go_wp2_with fail
    with_reducible refine (checkN_any _ (lv, L) _ HN2.out.drop).mono ?_
    rintro e3 w3 ⟨rfl, hb3⟩
    have B3 := Lib.hid (B2.out.trans (hb3.mono B2.out.size))
    have HN3 := Lib.hid (HN2.out.new (Nat.le_refl _) hb3)
    have g1 := (hb3.cell (p := ⟨wc.heap.size, 0, none⟩) lt2).trans f1
    have g2 := (hb3.cell (p := ⟨wc.heap.size, 1, none⟩) lt2).trans f2
    have HY3 := Lib.hid ((HY2.out.below hb3).more hb3.size)
    have lt3 : wc.heap.size < w3.heap.size := Nat.lt_of_lt_of_le lt2 hb3.size
    clear hb3 f1 f2
    rcases bool_two (mayN (lv, L)) with hm | hm
    · have hc := Lib.hid (chkN_bad hm)
      obtain ⟨W9, e9, k0, k1, yf, u0, u1, hfin⟩ := HZ.out w3 (by rw [hrd.out, hnd.out, hm]; simp) B3.out
      replace hfin := Lib.hid hfin
      replace hm := Lib.hid hm
      rw [hc.out]
      go_wp2_with fail
      exact bodyPost_ret (v := .tuple #[.agg #[.int .i64 0, .slice none 0 0], .int .i64 8]) (by simp [results, Tryz.results37, go_sem, k0, k1]) rfl hfin.out
    have hc := Lib.hid (chkN_ok hm)
    rw [hc.out]
    obtain ⟨rl, hrl⟩ : ∃ n, R.length = n := ⟨_, rfl⟩
    rw [hrl] at n5 ⊢
    replace hrl := Lib.hid hrl
    go_wp2_with fail
    with_reducible refine (noughts_any Y rl cy R hrl n5 n6 _ HY3.out).mono ?_
    rintro e4 w4 ⟨rfl, rfl⟩
    rcases bool_two (noughtsB R) with hz | hz
    · obtain ⟨W9, e9, k0, k1, yf, u0, u1, hfin⟩ := HZ.out w3 (by rw [hrd.out, hnd.out, hR.out, hz]; simp) B3.out
      replace hfin := Lib.hid hfin
      rw [hz]
      replace hz := Lib.hid hz
      replace hm := Lib.hid hm
      go_wp2_with fail
      exact bodyPost_ret (v := .tuple #[.agg #[.int .i64 0, .slice none 0 0], .int .i64 8]) (by simp [results, Tryz.results37, go_sem, k0, k1]) rfl hfin.out
    · have hgood := Lib.hid (HG.out (by rw [hrd.out, hnd.out, hR.out, hz, hm, hsome.out, h78'.out]; rfl))
      have bW := (B3.out.block w.heap.size lt0).trans b0.out
      obtain ⟨W9, e9, g9, gr9, gs9⟩ := put_two (u := .int .i64 lv) (v := .slice X L.length cx) bW
      obtain ⟨k0, k1, kf, _⟩ := two_cells g9
      obtain ⟨u0, u1, yf, _⟩ := two_cells bW
      have hBW := HB0.out.trans (B3.out.mono HB0.out.size)
      have hfin : Hid (Nod (New w.heap.size W9) W9 (.agg #[.int .i64 lv, .slice X L.length cx]) (reV b) ∧ Below w.heap.size w W9) := Lib.hid ⟨by
        rw [hgood.out.2, hnd.out]
        exact (HN3.out.grown gr9 (fun q e => by cases e; exact Nat.lt_of_lt_of_le lt0 B1.out.size)).map fun p v hp hc => ⟨⟨Nat.le_trans hBW1.out hp.1, hp.2⟩, hc⟩, hBW.grown gr9 hBW.size (fun q e => by cases e; omega)⟩
      rw [hz]
      replace hz := Lib.hid hz
      replace hm := Lib.hid hm
      replace bW := Lib.hid bW
      replace g9 := Lib.hid g9
      clear gr9
      go_wp2_with fail
      exact bodyPost_ret (v := .tuple #[.agg #[.int .i64 lv, .slice X L.length cx], .int .i64 0]) (by simp [results, Tryz.results37, go_sem, k0, k1]) rfl ⟨_, by rw [hgood.out.1], hfin.out.1, hfin.out.2⟩
end Go.Proofs.YtdaidhbmfocodaaGreat

/-
  Package room: Node. Conditions: those that each lemma states.
-/
namespace Go.Proofs.YtdaidhbmfocodaaGreat
open Go.RowKit

noncomputable def rmE (s : Rm) (n : Int) : Int := if asE s n = 0 then reN (seenD s.1 n.toNat) else asE s n
noncomputable def rmV (s : Rm) (n : Int) : Nd := if asE s n = 0 then reV (seenD s.1 n.toNat) else zeroN
theorem rm_bad {s : Rm} {n : Int} (h : asE s n ≠ 0) : rmE s n = asE s n ∧ rmV s n = zeroN := ⟨by rw [rmE, if_neg h], by rw [rmV, if_neg h]⟩
theorem as_read {s : Rm} {n : Int} (h : asE s n = 0) : ∃ k : Nat, n = k ∧ mayR s = true ∧ 8 ≤ k ∧ k < 256 ∧ chkAt s.1 n = 0 ∧ rdX s.1 n = seenD s.1 k ∧ rmE s n = reN (seenD s.1 k) ∧ rmV s n = reV (seenD s.1 k) ∧ s.2.1[k]?.getD 0 ≠ 0 := by
  rcases as_ways s n with ⟨_, e⟩ | ⟨_, _, e⟩ | ⟨k, _, _, _, _, _, e⟩ | ⟨k, hm, rfl, h8, h256, hx, e⟩
  · rw [e] at h; cases h
  · rw [e] at h; cases h
  · rw [e] at h; cases h
  · have hmd := (mayR_of hm).1
    have ht := thereB_of h256
    exact ⟨k, rfl, hm, h8, h256, by simp [chkAt, hmd, ht], by simp [rdX, chkAt, hmd, ht], by rw [rmE, if_pos h]; rfl, by rw [rmV, if_pos h]; rfl, hx⟩

set_option maxRecDepth 100000 in
set_option maxHeartbeats 4000000 in
theorem nodeR_any (v : Value) (s : Rm) (n : Int) (w : World) (h : Sto (Old w) w v s) :
    Calls Tryz.prog 19 #[v, .int .i64 n] w fun e w' => ∃ u, e = .returned (.tuple #[u, .int .i64 (rmE s n)]) ∧ Nod (New w.heap.size w') w' u (rmV s n) ∧ Below w.heap.size w w' := by
  obtain ⟨A, ca, B, cb, N, cn, L, cl, rfl, _, _, _⟩ := h.open
  obtain ⟨w1, hw1, f1, f2, hsz, hB⟩ : ∃ w1, (w.alloc (.cells #[.slice A s.1.1.length ca, .slice B s.1.2.length cb, .slice N s.2.1.length cn, .slice L s.2.2.length cl] 29)).alloc (.cells #[.int .i64 0, .slice none 0 0] 57) = w1 ∧
      w1.heap[w.heap.size]? = some (.cells #[.slice A s.1.1.length ca, .slice B s.1.2.length cb, .slice N s.2.1.length cn, .slice L s.2.2.length cl] 29 (0, 0)) ∧ w1.heap[w.heap.size + 1]? = some (.cells #[.int .i64 0, .slice none 0 0] 57 (0, 0)) ∧ w1.heap.size = w.heap.size + 2 ∧ Below w.heap.size w w1 := by
    refine ⟨_, rfl, alloc_block (heap_alloc_new _ _), ?_, by simp, ((Below.refl _ w).alloc (Nat.le_refl _) _).alloc (by simp) _⟩
    have := heap_alloc_new (w.alloc (.cells #[.slice A s.1.1.length ca, .slice B s.1.2.length cb, .slice N s.2.1.length cn, .slice L s.2.2.length cl] 29)) (.cells #[.int .i64 0, .slice none 0 0] 57)
    rwa [World.size_alloc] at this
  have H := Lib.hid (h.below hB)
  clear h
  obtain ⟨k0, k1, k2, k3, _, kg⟩ := four_cells f1
  replace hsz := Lib.hid hsz
  replace f2 := Lib.hid f2
  obtain ⟨q, hq⟩ : ∃ q, rmE s n = q := ⟨_, rfl⟩
  by_cases ha : asE s n = 0
  · obtain ⟨k, rfl, hm, h8, h256, hck, hrd, hE, hV, -⟩ := as_read ha
    obtain ⟨b, hb⟩ : ∃ b, seenD s.1 k = b := ⟨_, rfl⟩
    rw [hb] at hrd hE hV
    rw [hE] at hq
    replace hE : Hid (rmE s (k : Int) = q) := Lib.hid (by rw [hE, hq])
    replace hq := Lib.hid hq
    replace ha := Lib.hid ha
    replace hck := Lib.hid hck
    replace hrd := Lib.hid hrd
    replace hV := Lib.hid hV
    replace hb := Lib.hid hb
    go_enter Tryz.func19, Tryz.ntmps19
    go_upto_region 1 with fail
    clear hw1
    go_wp2_with fail
    with_reducible refine (checkTakenR_any _ s (k : Int) _ H.out).mono ?_
    rintro e w2 ⟨rfl, hb2⟩
    rw [ha.out]
    have G2 := (hb2.block w.heap.size kg).trans f1
    obtain ⟨m0, m1, m2, m3, _, mg⟩ := four_cells G2
    have F2 := Lib.hid ((hb2.block (w.heap.size + 1) (by rw [hsz.out]; omega)).trans f2.out)
    have H2 := Lib.hid (H.out.below hb2)
    have s2 : Hid (w.heap.size + 2 ≤ w2.heap.size) := Lib.hid (by have := hb2.size; have := hsz.out; omega)
    replace hb2 := Lib.hid (hB.trans (hb2.mono hB.size))
    clear k0 k1 k2 k3 kg f1 hB G2
    go_wp2_with fail
    with_reducible refine (read_all _ s.1 (k : Int) _ H2.out.parts.1).mono ?_
    rintro e w3 ⟨u3, rfl, h3, hb3⟩
    rw [hck.out]
    rw [hrd.out] at h3
    obtain ⟨R, rc, rfl, _⟩ := id (rBy_open h3)
    have F3 := Lib.hid ((hb3.block (w.heap.size + 1) (by have := s2.out; omega)).trans F2.out)
    have B3 := Lib.hid (hb2.out.trans (hb3.mono hb2.out.size))
    have s3 : Hid (w.heap.size + 2 ≤ w3.heap.size) := Lib.hid (by have := hb3.size; have := s2.out; omega)
    have H3 := Lib.hid (stab_by.drop h3)
    clear hb3 h3 m0 m1 m2 m3 mg F2
    go_wp2_with fail
    with_reducible refine (nodeRead_any _ b _ H3.out).mono ?_
    rintro e w4 ⟨u4, rfl, h4, hb4⟩
    rw [hq.out]
    obtain ⟨P, pc, rfl, _⟩ := id h4.open
    have F4 := (hb4.block (w.heap.size + 1) (by have := s3.out; omega)).trans F3.out
    obtain ⟨m0, m1, m2, m3⟩ := two_cells F4
    obtain ⟨W9, hW9, g9, gr9, gs9⟩ := put_two (u := .int .i64 (reV b).1) (v := .slice P (reV b).2.length pc) F4
    obtain ⟨n0, n1, _, _⟩ := two_cells g9
    have r3 := s3.out
    have l3 := B3.out.size
    have hfin := Lib.hid (show Nod (New w.heap.size W9) W9 (.agg #[.int .i64 (reV b).1, .slice P (reV b).2.length pc]) (rmV s (k : Int)) from by
      rw [hV.out]
      exact (h4.grown gr9 (fun q e => by cases e; omega)).new l3 (Below.refl _ _))
    have hB9 := Lib.hid ((B3.out.trans (hb4.mono B3.out.size)).grown gr9 (Nat.le_trans l3 hb4.size) (fun q e => by cases e; omega))
    replace F4 := Lib.hid F4
    replace g9 := Lib.hid g9
    clear gr9 gs9 h4 hb4 r3 l3
    go_wp2_with fail
    refine bodyPost_ret (v := .tuple #[.agg #[.int .i64 (reV b).1, .slice P (reV b).2.length pc], .int .i64 q]) (by simp [results, Tryz.results19, go_sem, n0, n1]) rfl ?_
    rw [hE.out]
    exact ⟨_, rfl, hfin.out, hB9.out⟩
  · obtain ⟨hE, hV⟩ := rm_bad ha
    rw [hE] at hq
    have hq1 : (q != 0) = true := by rw [← hq]; simpa using ha
    have hq2 : Hid (asE s n = q) := Lib.hid hq
    replace hq : Hid (rmE s n = q) := Lib.hid (by rw [hE]; exact hq)
    replace hV := Lib.hid hV
    clear ha hE
    go_enter Tryz.func19, Tryz.ntmps19
    go_upto_region 1 with fail
    clear hw1
    go_wp2_with fail
    with_reducible refine (checkTakenR_any _ s n _ H.out).mono ?_
    rintro e w2 ⟨rfl, hb2⟩
    rw [hq2.out]
    have F2 := (hb2.block (w.heap.size + 1) (by rw [hsz.out]; omega)).trans f2.out
    replace hb2 := Lib.hid (hB.trans (hb2.mono hB.size))
    obtain ⟨m0, m1, m2, m3⟩ := two_cells F2
    obtain ⟨W9, hW9, g9, gr9, gs9⟩ := put_two (u := .int .i64 0) (v := .slice none 0 0) F2
    obtain ⟨n0, n1, _, _⟩ := two_cells g9
    have hB9 := Lib.hid ((hb2).out.grown gr9 (hb2).out.size (fun q e => by cases e; omega))
    replace g9 := Lib.hid g9
    replace F2 := Lib.hid F2
    clear gr9 gs9
    go_wp2_with fail
    refine bodyPost_ret (v := .tuple #[.agg #[.int .i64 0, .slice none 0 0], .int .i64 q]) (by simp [results, Tryz.results19, go_sem, n0, n1]) rfl ?_
    rw [hV.out, hq.out]
    exact ⟨_, rfl, nod_zero _ _, hB9.out⟩
end Go.Proofs.YtdaidhbmfocodaaGreat

/-
  Package node: Place. Conditions: those that each lemma states.
-/
namespace Go.Proofs.YtdaidhbmfocodaaGreat
open Go.RowKit

set_option maxRecDepth 100000 in
theorem key_guard : Tryz.prog.eqGuardType Tryz.prog.depth 38 = false := by kernel_rfl
set_option maxRecDepth 100000 in
/-- Two keys held against each other, as the walk spells it. -/
theorem key_eq (a b : Ky) (w : World) : (Op.equalIn 10000 38 (kyV a) (kyV b)).run Tryz.prog w = .ok (decide (a = b)) w := by
  have hS : Tryz.prog.underlying 38 = some (.struct (Tryz.prog.fieldsOf 38)) := by kernel_rfl
  have hp : Tryz.prog.stoodInHeld 38 = false := by kernel_rfl
  have u3 := Tryz.underlying5
  have u4 := Tryz.underlying36
  have a3 := Tryz.isAgg5
  have z3 := Tryz.sizeOf5
  have a4 := Tryz.isAgg36
  have z4 := Tryz.sizeOf36
  obtain ⟨a1, a2, a3⟩ := a
  obtain ⟨b1, b2, b3⟩ := b
  have h : a1 = b1 ↔ (a1.toNat : Int) = b1.toNat := ⟨fun h => by rw [h], fun h => UInt8.toNat.inj (by omega)⟩
  simp only [Prod.mk.injEq, h]
  unfold kyV
  rw [show (10000 : Nat) = 9999 + 1 from rfl, run_equalIn_agg w 9999 38 _ _ hS hp]
  simp only [Program.fieldsOf, Tryz.underlying38]
  go_simp
  by_cases h1 : (a1.toNat : Int) = b1.toNat <;> by_cases h2 : a2 = b2 <;> by_cases h3 : a3 = b3 <;> simp [h1, h2, h3]

end Go.Proofs.YtdaidhbmfocodaaGreat

/-
  What nodes and their blocks tell of one another, plain. Layer 6's law helper alive. Conditions: those that each lemma states.
-/
namespace Go.Proofs.YtdaidhbmfocodaaGreat
open Go.RowKit

structure InN (n : Nd) : Prop where
  lv : In64 n.1
  it : ∀ x ∈ n.2, InI x
theorem cutTo_its (l : List It) (xs : List UInt8) (h : ∀ x ∈ l, mayI x = true ∧ InI x) : ∀ k, k ≤ l.length → cutTo (itsB l ++ xs) k = some (l.take k, itsB (l.drop k) ++ xs)
  | 0, _ => by simp [cutTo]
  | k + 1, hk => by
    have hx : l[k]? = some l[k] := List.getElem?_eq_getElem hk
    obtain ⟨h1, h2⟩ := h l[k] (List.getElem_mem hk)
    have hd : itsB (l.drop k) ++ xs = itB l[k] ++ (itsB (l.drop (k + 1)) ++ xs) := by
      rw [List.drop_eq_getElem_cons hk, show itsB (l[k] :: l.drop (k + 1)) = itB l[k] ++ itsB (l.drop (k + 1)) from rfl, List.append_assoc]
    have ih := cutTo_its l xs h k (by omega)
    rw [hd] at ih
    obtain ⟨q0, q1, q2, _⟩ := itB_read l[k] (itsB (l.drop (k + 1)) ++ xs) h2 h1
    rw [cutTo_yes ih q0, q1, q2, List.take_add_one, hx]
    simp
theorem zeros_noughts (k : Nat) : noughtsB (zeros k) = true := by simp [noughtsB, zeros]
theorem noughts_zeros {b : List UInt8} (h : noughtsB b = true) : b = zeros b.length := by
  simp only [noughtsB, List.all_eq_true, beq_iff_eq] at h
  exact List.eq_replicate_iff.2 ⟨rfl, h⟩
theorem told_parts (n : Nd) : toldN n = [78, UInt8.ofNat n.1.toNat, UInt8.ofNat n.2.length] ++ itsB n.2 := rfl
/-- What is written is read. -/
theorem read_blkN {n : Nd} (h : mayN n = true) (hi : InN n) : reN (blkN n) = 0 ∧ reV (blkN n) = n := by
  have hl := toldN_len h
  obtain ⟨⟨s1, s2, s3, _⟩, _⟩ := mayN_of h
  have hob : ob (blkN n) = padN (toldN n) := by
    unfold ob
    rw [if_pos ⟨blkN_length h, fits_seal _⟩]
    exact seal_drop _
  have hoe : oe (blkN n) = 0 := by
    unfold oe
    rw [if_pos (blkN_length h), if_pos (show fits (blkN n) from fits_seal _)]
  obtain ⟨z, hz⟩ : ∃ z, 124 - (toldN n).length = z := ⟨_, rfl⟩
  have hp : padN (toldN n) = 78 :: UInt8.ofNat n.1.toNat :: UInt8.ofNat n.2.length :: (itsB n.2 ++ zeros z) := by
    rw [padN, hz, told_parts]
    simp
  have h0 : (ob (blkN n))[0]?.getD 0 = 78 := by rw [hob, hp]; rfl
  have h1 : lvlN (ob (blkN n)) = n.1 := by
    rw [hob, hp]
    show ((UInt8.ofNat n.1.toNat).toNat : Int) = n.1
    rw [UInt8.toNat_ofNat']
    omega
  have h2 : manyN (ob (blkN n)) = n.2.length := by
    rw [hob, hp]
    show (UInt8.ofNat n.2.length).toNat = n.2.length
    rw [UInt8.toNat_ofNat']
    omega
  have h3 : (ob (blkN n)).drop 3 = itsB n.2 ++ zeros z := by rw [hob, hp]; rfl
  have hc : cutTo ((ob (blkN n)).drop 3) (manyN (ob (blkN n))) = some (n.2, zeros z) := by
    rw [h2, h3, cutTo_its n.2 (zeros z) (fun x hx => ⟨mayN_all h x hx, hi.it x hx⟩) n.2.length (Nat.le_refl _)]
    simp [itsB]
  have hnd : ndN (ob (blkN n)) = n := by
    unfold ndN cutL
    rw [hc, h1]
    rfl
  have hr : rdN (ob (blkN n)) = true := by
    unfold rdN cutR
    rw [h0, hc, hnd, h]
    simp [zeros_noughts]
  obtain ⟨e1, e2⟩ := reN_good hoe hr
  exact ⟨e1, by rw [e2, hnd]⟩
/-- What is read is written so. -/
theorem blkN_read {b : List UInt8} (h : reN b = 0) : mayN (reV b) = true ∧ blkN (reV b) = b ∧ InN (reV b) := by
  have hoe : oe b = 0 := by
    unfold reN at h
    by_cases e : oe b = 0
    · exact e
    · rw [if_neg e] at h; exact absurd h e
  have hrd : rdN (ob b) = true := by
    unfold reN at h
    rw [if_pos hoe] at h
    cases e : rdN (ob b) with
    | true => rfl
    | false => rw [e] at h; cases h
  obtain ⟨e1, e2⟩ := reN_good hoe hrd
  obtain ⟨hlen, hfits, hob, h124⟩ := oe_zeroN hoe
  rw [e2]
  obtain ⟨bd, hbd⟩ : ∃ bd, ob b = bd := ⟨_, rfl⟩
  rw [hbd] at hrd h124 ⊢
  unfold rdN at hrd
  simp only [Bool.and_eq_true, decide_eq_true_eq] at hrd
  obtain ⟨h78, hs, hm, hn⟩ := hrd
  cases hc : cutTo (bd.drop 3) (manyN bd) with
  | none => rw [hc] at hs; cases hs
  | some p =>
    obtain ⟨l, r⟩ := p
    have hL : cutL (bd.drop 3) (manyN bd) = l := by simp [cutL, hc]
    have hR : cutR (bd.drop 3) (manyN bd) = r := by simp [cutR, hc]
    obtain ⟨c1, c2, c3⟩ := cutTo_bytes hc
    rw [hR] at hn
    have hnd : ndN bd = (lvlN bd, l) := by rw [ndN, hL]
    have hin : InN (ndN bd) := by
      rw [hnd]
      exact ⟨lvlN_in bd, fun x hx => (c3 x hx).2⟩
    refine ⟨hm, ?_, hin⟩
    have hsplit : bd = [78, bd[1]?.getD 0, bd[2]?.getD 0] ++ bd.drop 3 := by
      match bd, h124, h78 with
      | x :: y :: z :: q, _, h78 =>
        simp at h78
        simp [h78]
    have hT : toldN (ndN bd) = [78, bd[1]?.getD 0, bd[2]?.getD 0] ++ itsB l := by
      rw [hnd, told_parts, c2]
      have e1 : UInt8.ofNat (lvlN bd).toNat = bd[1]?.getD 0 := by simp [lvlN]
      have e2 : UInt8.ofNat (manyN bd) = bd[2]?.getD 0 := by simp [manyN]
      show [78, UInt8.ofNat (lvlN bd).toNat, UInt8.ofNat (manyN bd)] ++ itsB l = _
      rw [e1, e2]
    have hbody : bd = toldN (ndN bd) ++ r := by
      rw [hT, List.append_assoc, ← c1]
      exact hsplit
    have hpad : padN (toldN (ndN bd)) = bd := by
      have hl2 : (toldN (ndN bd)).length + r.length = 124 := by
        have := congrArg List.length hbody
        rw [List.length_append, h124] at this
        omega
      rw [padN, show 124 - (toldN (ndN bd)).length = r.length by omega, ← noughts_zeros hn]
      exact hbody.symm
    show sealN (toldN (ndN bd)) = b
    have hs : sealN (toldN (ndN bd)) = sealN bd := by
      unfold sealN
      rw [hpad, padN_full h124]
    rw [hs, ← hbd, hob]
    exact seal_back hlen hfits
/-! ### alive -/
end Go.Proofs.YtdaidhbmfocodaaGreat

/-
  Trees, plain: which may be, their items, what is found in them. Conditions: those that each lemma states.
-/
namespace Go.Proofs.YtdaidhbmfocodaaGreat
open Go.RowKit

/-! ### Which trees may be -/
def keyZ : Ky := (0, 0, 0)
/-- The Refs of a leaf's items are referred tb. -/
def leafO (s : Rm) (l : List It) : Bool := l.all fun x => decide (x.2.1 = 0) || decide (s.2.1[x.2.1.toNat]?.getD 0 ≠ 0)
/-- Each of some items, by its Ref, its key, and the next one's key (or a bound). -/
def itsO (f : Int → Ky → Ky → Bool → Bool) : List It → Ky → Bool → Bool
  | [], _, _ => true
  | [x], tb, ends => f x.2.1 x.1 tb ends
  | x :: y :: r, tb, ends => f x.2.1 x.1 y.1 true && itsO f (y :: r) tb ends
/-- The first key, and the last one ahead of a bound. -/
def headO (l : List It) (k tb : Ky) (ends : Bool) : Bool := (match l[0]? with | none => false | some x => decide (x.1 = k)) && (!ends || (match l.getLast? with | none => false | some y => lessK y.1 tb))
noncomputable def rightO (s : Rm) : Nat → Int → Ky → Ky → Bool → Bool
  | 0, a, k, tb, ends => (decide (rmE s a = 0) && decide ((rmV s a).1 = 0)) && (headO (rmV s a).2 k tb ends && leafO s (rmV s a).2)
  | l + 1, a, k, tb, ends => (decide (rmE s a = 0) && decide ((rmV s a).1 = ((l + 1 : Nat) : Int))) && (headO (rmV s a).2 k tb ends && itsO (rightO s l) (rmV s a).2 tb ends)
noncomputable def innerO (s : Rm) (n : Nd) (tb : Ky) (ends : Bool) : Bool := match n.1.toNat with
  | 0 => leafO s n.2
  | l + 1 => itsO (rightO s l) n.2 tb ends
noncomputable def treeO (s : Rm) (a : Int) : Bool := decide (rmE s a = 0) && innerO s (rmV s a) keyZ false
noncomputable def ckE (s : Rm) (a : Int) : Int := if asE s a = 0 then (if treeO s a then 0 else 8) else asE s a
noncomputable def ckH (s : Rm) (a : Int) : Int := if ckE s a = 0 then (rmV s a).1 + 1 else 0

/-! ### Items, and what is found -/
noncomputable def itsT (s : Rm) : Nat → Int → List It
  | 0, a => (rmV s a).2
  | l + 1, a => (rmV s a).2.flatMap fun x => itsT s l x.2.1
noncomputable def oneO (s : Rm) : Nat → Int → Ky → Option It
  | 0, a, k => (rmV s a).2.reverse.find? fun x => decide (x.1 = k)
  | l + 1, a, k => ((rmV s a).2.reverse.find? fun x => !lessK k x.1).bind fun x => oneO s l x.2.1 k
/-- The items of a tree; the one of a key. -/
noncomputable def allO (s : Rm) (a : Int) : List It := itsT s (rmV s a).1.toNat a
noncomputable def theO (s : Rm) (a : Int) (k : Ky) : Option It := oneO s (rmV s a).1.toNat a k

def Up (l : List It) : Prop := l.Pairwise fun x y => lessK x.1 y.1 = true
theorem rm_may {s : Rm} {a : Int} (h : rmE s a = 0) : mayN (rmV s a) = true ∧ asE s a = 0 := by
  by_cases ha : asE s a = 0
  · obtain ⟨k, _, _, _, _, _, _, hE, hV, _⟩ := as_read ha
    rw [hE] at h
    rw [hV]
    exact ⟨(blkN_read h).1, ha⟩
  · rw [(rm_bad ha).1] at h
    exact absurd h ha
theorem up_may {n : Nd} (h : mayN n = true) : Up n.2 := by
  rw [Up, List.pairwise_iff_getElem]
  intro i j hi hj hij
  exact mayN_rises h hij (List.getElem?_eq_getElem hi) (List.getElem?_eq_getElem hj)
theorem up_first {x : It} {l : List It} (h : Up (x :: l)) : ∀ y ∈ x :: l, y.1 = x.1 ∨ lessK x.1 y.1 = true := fun y hy => by
  rcases List.mem_cons.1 hy with rfl | hy
  · exact .inl rfl
  · exact .inr ((List.pairwise_cons.1 h).1 y hy)
theorem up_last {l : List It} {z : It} {tb : Ky} (h : Up l) (hl : l.getLast? = some z) (hz : lessK z.1 tb = true) : ∀ y ∈ l, lessK y.1 tb = true := fun y hy => by
  obtain ⟨r, rfl⟩ := List.getLast?_eq_some_iff.1 hl
  rcases List.mem_append.1 hy with hy | hy
  · exact less_trans ((List.pairwise_append.1 h).2.2 y hy z (by simp)) hz
  · rw [List.mem_singleton.1 hy]
    exact hz
theorem head_of {l : List It} {k tb : Ky} {ends : Bool} (h : headO l k tb ends = true) : ∃ x r, l = x :: r ∧ x.1 = k ∧ (ends = true → ∃ z, l.getLast? = some z ∧ lessK z.1 tb = true) := by
  unfold headO at h
  rw [Bool.and_eq_true] at h
  obtain ⟨h1, h2⟩ := h
  cases l with
  | nil => simp at h1
  | cons x r =>
    refine ⟨x, r, rfl, by simpa using h1, fun he => ?_⟩
    rw [he] at h2
    cases hz : (x :: r).getLast? with
    | none => rw [hz] at h2; simp at h2
    | some z => rw [hz] at h2; exact ⟨z, rfl, by simpa using h2⟩

/-- What a part of a tree has: items that rise, from a first key on, ahead of a bound. -/
structure Part (M : List It) (k tb : Ky) (ends : Bool) (N : Nat) : Prop where
  first : ∃ x r, M = x :: r ∧ x.1 = k
  up : Up M
  bound : ends = true → ∀ y ∈ M, lessK y.1 tb = true
  few : M.length ≤ N
theorem Part.ge {M : List It} {k tb : Ky} {ends : Bool} {N : Nat} (h : Part M k tb ends N) : ∀ y ∈ M, y.1 = k ∨ lessK k y.1 = true := by
  obtain ⟨x, r, rfl, rfl⟩ := h.first
  exact up_first h.up
theorem part_its {f : Int → Ky → Ky → Bool → Bool} {g : Int → List It} {N : Nat} (hf : ∀ a k tb ends, f a k tb ends = true → Part (g a) k tb ends N) : ∀ (L : List It) (tb : Ky) (ends : Bool), L ≠ [] → itsO f L tb ends = true →
    ∃ x r, L = x :: r ∧ Part (L.flatMap fun x => g x.2.1) x.1 tb ends (N * L.length)
  | [], _, _, h, _ => absurd rfl h
  | [x], tb, ends, _, h => by
    refine ⟨x, [], rfl, ?_⟩
    have := hf _ _ _ _ h
    simpa using this
  | x :: y :: r, tb, ends, _, h => by
    refine ⟨x, y :: r, rfl, ?_⟩
    unfold itsO at h
    rw [Bool.and_eq_true] at h
    have hx := hf _ _ _ _ h.1
    obtain ⟨y', r', e, hy⟩ := part_its hf (y :: r) tb ends (by simp) h.2
    cases e
    have e2 : (x :: y :: r).flatMap (fun x => g x.2.1) = g x.2.1 ++ (y :: r).flatMap fun x => g x.2.1 := List.flatMap_cons
    rw [e2]
    have hb := hx.bound rfl
    have hlt : ∀ p ∈ g x.2.1, ∀ q ∈ (y :: r).flatMap (fun x => g x.2.1), lessK p.1 q.1 = true := fun p hp q hq => by
      rcases hy.ge q hq with e | e
      · rw [e]; exact hb p hp
      · exact less_trans (hb p hp) e
    refine ⟨?_, ?_, fun he p hp => ?_, ?_⟩
    · obtain ⟨z, q, ez, kz⟩ := hx.first
      exact ⟨z, _, by rw [ez]; rfl, kz⟩
    · exact List.pairwise_append.2 ⟨hx.up, hy.up, hlt⟩
    · rcases List.mem_append.1 hp with hp | hp
      · obtain ⟨z, q, ez, kz⟩ := hy.first
        have hz := hlt p hp z (by rw [ez]; simp)
        exact less_trans hz (hy.bound he z (by rw [ez]; simp))
      · exact hy.bound he p hp
    · have h1 := hx.few
      have h2 := hy.few
      rw [List.length_append]
      have e3 : N * (x :: y :: r).length = N + N * (y :: r).length := by rw [List.length_cons, Nat.mul_succ, Nat.add_comm]
      omega
theorem right_of {s : Rm} {l : Nat} {a : Int} {k tb : Ky} {ends : Bool} (h : rightO s l a k tb ends = true) : rmE s a = 0 ∧ (rmV s a).1 = l ∧ headO (rmV s a).2 k tb ends = true ∧ (match l with | 0 => leafO s (rmV s a).2 | l' + 1 => itsO (rightO s l') (rmV s a).2 tb ends) = true := by
  cases l with
  | zero =>
    simp only [rightO, Bool.and_eq_true, decide_eq_true_eq] at h
    exact ⟨h.1.1, h.1.2, h.2.1, h.2.2⟩
  | succ l =>
    simp only [rightO, Bool.and_eq_true, decide_eq_true_eq] at h
    exact ⟨h.1.1, h.1.2, h.2.1, h.2.2⟩
theorem right_part (s : Rm) : ∀ (l : Nat) (a : Int) (k tb : Ky) (ends : Bool), rightO s l a k tb ends = true → Part (itsT s l a) k tb ends (5 ^ (l + 1))
  | 0, a, k, tb, ends, h => by
    obtain ⟨h1, h2, h3, h4⟩ := right_of h
    obtain ⟨hm, _⟩ := rm_may h1
    obtain ⟨x, r, e, ek, hz⟩ := head_of h3
    refine ⟨⟨x, r, e, ek⟩, up_may hm, fun he => ?_, ?_⟩
    · obtain ⟨z, e1, e2⟩ := hz he
      exact up_last (up_may hm) e1 e2
    · exact (mayN_of hm).1.2.2.1
  | l + 1, a, k, tb, ends, h => by
    obtain ⟨h1, h2, h3, h4⟩ := right_of h
    obtain ⟨hm, _⟩ := rm_may h1
    obtain ⟨x, r, e, ek, hz⟩ := head_of h3
    obtain ⟨x', r', e', hp⟩ := part_its (right_part s l) (rmV s a).2 tb ends (by rw [e]; simp) h4
    rw [e] at e'
    cases e'
    rw [ek] at hp
    refine ⟨hp.first, hp.up, hp.bound, Nat.le_trans hp.few ?_⟩
    have h5 := (mayN_of hm).1.2.2.1
    rw [Nat.pow_succ 5 (l + 1)]
    exact Nat.mul_le_mul_left _ h5

/-! ### What is found -/
theorem find_rev {p : It → Bool} (x : It) (l : List It) : (x :: l).reverse.find? p = match l.reverse.find? p with | some y => some y | none => if p x then some x else none := by
  rw [List.reverse_cons, List.find?_append]
  cases l.reverse.find? p with
  | some y => rfl
  | none =>
    simp only [Option.none_or, List.find?_cons, List.find?_nil]
    cases p x <;> rfl
theorem find_none {p : It → Bool} {l : List It} (h : ∀ x ∈ l, p x = false) : l.reverse.find? p = none := by
  rw [List.find?_eq_none]
  intro x hx
  rw [h x (List.mem_reverse.1 hx)]
  simp
/-- The last one whose key is not behind. -/
theorem down_its {f : Int → Ky → Ky → Bool → Bool} {g : Int → List It} {N : Nat} (hf : ∀ a k tb ends, f a k tb ends = true → Part (g a) k tb ends N) : ∀ (L : List It) (tb : Ky) (ends : Bool), Up L → itsO f L tb ends = true → ∀ x ∈ L.flatMap (fun x => g x.2.1),
    ∃ y ∈ L, x ∈ g y.2.1 ∧ (L.reverse.find? fun z => !lessK x.1 z.1) = some y ∧ ∃ t e, f y.2.1 y.1 t e = true
  | [], _, _, _, _, x, hx => by simp at hx
  | [y], tb, ends, _, h, x, hx => by
    have hx' : x ∈ g y.2.1 := by simpa using hx
    refine ⟨y, by simp, hx', ?_, tb, ends, h⟩
    have hp := hf _ _ _ _ h
    have : lessK x.1 y.1 = false := by
      rcases hp.ge x hx' with e | e
      · rw [e]; exact less_self _
      · exact less_anti e
    simp [this]
  | y :: z :: r, tb, ends, hu, h, x, hx => by
    unfold itsO at h
    rw [Bool.and_eq_true] at h
    have hy := hf _ _ _ _ h.1
    have e2 : (y :: z :: r).flatMap (fun x => g x.2.1) = g y.2.1 ++ (z :: r).flatMap fun x => g x.2.1 := List.flatMap_cons
    rw [e2] at hx
    rw [find_rev]
    rcases List.mem_append.1 hx with hx | hx
    · have hb := hy.bound rfl x hx
      have hge : lessK x.1 y.1 = false := by
        rcases hy.ge x hx with e | e
        · rw [e]; exact less_self _
        · exact less_anti e
      have hno : (z :: r).reverse.find? (fun w => !lessK x.1 w.1) = none := find_none fun w hw => by
        rcases up_first (List.pairwise_cons.1 hu).2 w hw with e | e
        · rw [e, hb]; rfl
        · rw [less_trans hb e]; rfl
      refine ⟨y, by simp, hx, ?_, _, _, h.1⟩
      rw [hno]
      simp [hge]
    · obtain ⟨w, hw, h1, h2, h3⟩ := down_its hf (z :: r) tb ends (List.pairwise_cons.1 hu).2 h.2 x hx
      exact ⟨w, List.mem_cons_of_mem _ hw, h1, by rw [h2], h3⟩
theorem leaf_found {l : List It} (hu : Up l) {x : It} (hx : x ∈ l) : (l.reverse.find? fun y => decide (y.1 = x.1)) = some x := by
  induction l with
  | nil => simp at hx
  | cons y r ih =>
    rw [find_rev]
    rcases List.mem_cons.1 hx with rfl | hx
    · have hno : r.reverse.find? (fun y => decide (y.1 = x.1)) = none := find_none fun z hz => by
        have h1 := (List.pairwise_cons.1 hu).1 z hz
        have : z.1 ≠ x.1 := fun e => by rw [e, less_self] at h1; cases h1
        simpa using this
      rw [hno]
      simp
    · rw [ih (List.pairwise_cons.1 hu).2 hx]
theorem right_found (s : Rm) : ∀ (l : Nat) (a : Int) (k tb : Ky) (ends : Bool), rightO s l a k tb ends = true → ∀ x ∈ itsT s l a, oneO s l a x.1 = some x
  | 0, a, k, tb, ends, h, x, hx => leaf_found (up_may (rm_may (right_of h).1).1) hx
  | l + 1, a, k, tb, ends, h, x, hx => by
    obtain ⟨h1, h2, h3, h4⟩ := right_of h
    obtain ⟨y, hy, h5, h6, t, e, h7⟩ := down_its (right_part s l) (rmV s a).2 tb ends (up_may (rm_may h1).1) h4 x hx
    unfold oneO
    rw [h6]
    exact right_found s l y.2.1 y.1 t e h7 x h5

/-! ### A tree that may be -/
theorem tree_of {s : Rm} {a : Int} (h : treeO s a = true) : rmE s a = 0 ∧ asE s a = 0 ∧ mayN (rmV s a) = true ∧ 0 ≤ (rmV s a).1 ∧ (rmV s a).1 < 6 ∧ innerO s (rmV s a) keyZ false = true := by
  simp only [treeO, Bool.and_eq_true, decide_eq_true_eq] at h
  obtain ⟨hm, ha⟩ := rm_may h.1
  exact ⟨h.1, ha, hm, (mayN_of hm).1.1, (mayN_of hm).1.2.1, h.2⟩
/-- What a tree that may be has. -/
theorem tree_all {s : Rm} {a : Int} (h : treeO s a = true) : Up (allO s a) ∧ (allO s a).length ≤ 15625 ∧ (∀ x ∈ allO s a, theO s a x.1 = some x) := by
  obtain ⟨h1, _, hm, l0, l6, hi⟩ := tree_of h
  unfold allO theO
  unfold innerO at hi
  have hl : (rmV s a).1.toNat ≤ 5 := by omega
  generalize hl0 : (rmV s a).1.toNat = l at hi hl ⊢
  cases l with
  | zero =>
    refine ⟨up_may hm, Nat.le_trans (mayN_of hm).1.2.2.1 (by decide), fun x hx => leaf_found (up_may hm) hx⟩
  | succ l =>
    have hne : (rmV s a).2 ≠ [] := fun e => by
      have := (mayN_of hm).1.2.2.2 (by omega)
      rw [e] at this
      simp at this
    obtain ⟨x, r, e, hp⟩ := part_its (right_part s l) (rmV s a).2 keyZ false hne hi
    refine ⟨hp.up, Nat.le_trans hp.few ?_, fun x hx => ?_⟩
    · have h5 := (mayN_of hm).1.2.2.1
      have hpw : 5 ^ (l + 1) ≤ 5 ^ 5 := Nat.pow_le_pow_right (by decide) (by omega)
      have := Nat.mul_le_mul hpw h5
      omega
    · obtain ⟨y, hy, h5, h6, t, e, h7⟩ := down_its (right_part s l) (rmV s a).2 keyZ false (up_may hm) hi x hx
      unfold oneO
      rw [h6]
      exact right_found s l y.2.1 y.1 t e h7 x h5
/-! ### As loops go -/
theorem leaf_take {s : Rm} {l : List It} {i : Nat} {x : It} (hx : l[i]? = some x) : leafO s (l.take (i + 1)) = (leafO s (l.take i) && (decide (x.2.1 = 0) || decide (s.2.1[x.2.1.toNat]?.getD 0 ≠ 0))) := by
  have hk := (List.getElem?_eq_some_iff.1 hx).1
  have hg : l[i] = x := (List.getElem?_eq_some_iff.1 hx).2
  rw [← List.take_append_getElem hk, hg]
  simp [leafO]
theorem leaf_bad {s : Rm} {l : List It} {i : Nat} (h : leafO s (l.take i) = false) : leafO s l = false := by
  cases e : leafO s l with
  | false => rfl
  | true =>
    unfold leafO at e h
    rw [List.all_eq_true] at e
    rw [← h]
    symm
    rw [List.all_eq_true]
    exact fun x hx => e x (List.mem_of_mem_take hx)
/-- The bound of an item, and whether there is one. -/
def nxO (r : List It) (tb : Ky) : Ky := match r with | [] => tb | y :: _ => y.1
def bxO (r : List It) (ends : Bool) : Bool := match r with | [] => ends | _ :: _ => true
theorem its_cons (f : Int → Ky → Ky → Bool → Bool) (x : It) (r : List It) (tb : Ky) (ends : Bool) : itsO f (x :: r) tb ends = (f x.2.1 x.1 (nxO r tb) (bxO r ends) && itsO f r tb ends) := by
  cases r with
  | nil => simp [itsO, nxO, bxO]
  | cons y r => rfl
end Go.Proofs.YtdaidhbmfocodaaGreat

/-
  Nodes made and left, plain: what is counted, what is left, and what follows. Conditions: those that each lemma states.
-/
namespace Go.Proofs.YtdaidhbmfocodaaGreat
open Go.RowKit

/-! ### Refs, counted -/
/-- How often a block is among the Refs. -/
def cntR : List It → Nat → Nat
  | [], _ => 0
  | x :: l, i => (if x.2.1 = (i : Int) then (if x.2.1 = 0 then 0 else 1) else 0) + cntR l i
/-- Refs that are 0, or of a block. -/
def refsOk (l : List It) : Prop := ∀ x ∈ l, x.2.1 = 0 ∨ (8 ≤ x.2.1 ∧ x.2.1 < 256)
theorem refs_cons {x : It} {l : List It} (h : refsOk (x :: l)) : (x.2.1 = 0 ∨ ∃ k : Nat, x.2.1 = k ∧ 8 ≤ k ∧ k < 256) ∧ refsOk l := by
  refine ⟨?_, fun y hy => h y (List.mem_cons_of_mem _ hy)⟩
  rcases h x List.mem_cons_self with h1 | ⟨h1, h2⟩
  · exact .inl h1
  · exact .inr ⟨x.2.1.toNat, by omega, by omega, by omega⟩
theorem refs_may {n : Nd} (h : mayN n = true) : refsOk n.2 := fun x hx => by
  obtain ⟨i, hi⟩ := List.getElem?_of_mem hx
  have hk := (List.getElem?_eq_some_iff.1 hi).1
  simp only [mayN, Bool.and_eq_true, List.all_eq_true] at h
  have h1 := h.2 i (by simpa using hk)
  simp only [okAt, hi, okP, Bool.and_eq_true] at h1
  exact (mayI_of h1.1.1).1
theorem cntR_zero {x : It} {l : List It} (h : x.2.1 = 0) (i : Nat) : cntR (x :: l) i = cntR l i := by
  simp only [cntR, h, if_true]
  split <;> simp
theorem cntR_here {x : It} {l : List It} {k : Nat} (h : x.2.1 = k) (h8 : 8 ≤ k) (i : Nat) : cntR (x :: l) i = (if i = k then 1 else 0) + cntR l i := by
  simp only [cntR, h]
  by_cases e : i = k
  · subst e
    rw [if_pos rfl, if_neg (by omega), if_pos rfl]
  · rw [if_neg (by omega), if_neg e]
theorem cntR_low {l : List It} (h : refsOk l) {i : Nat} (hi : i < 8 ∨ 256 ≤ i) : cntR l i = 0 := by
  induction l with
  | nil => rfl
  | cons x l ih =>
    obtain ⟨h1, h2⟩ := refs_cons h
    rcases h1 with h1 | ⟨k, h1, h8, h256⟩
    · rw [cntR_zero h1, ih h2]
    · rw [cntR_here h1 h8, ih h2, if_neg (by omega)]
/-- Counting goes on: what is wrong, and the counts. -/
def ctE : List UInt8 → List It → Int
  | _, [] => 0
  | t, x :: l => if x.2.1 = 0 then ctE t l else if t[x.2.1.toNat]?.getD 0 = 0 then 6 else if t[x.2.1.toNat]?.getD 0 = 255 then 70 else ctE (t.set x.2.1.toNat (t[x.2.1.toNat]?.getD 0 + 1)) l
def ctV : List UInt8 → List It → List UInt8
  | t, [] => t
  | t, x :: l => if x.2.1 = 0 then ctV t l else ctV (t.set x.2.1.toNat (t[x.2.1.toNat]?.getD 0 + 1)) l
theorem ctV_len : ∀ (l : List It) (t : List UInt8), (ctV t l).length = t.length
  | [], _ => rfl
  | x :: l, t => by
    unfold ctV
    split
    · exact ctV_len l t
    · rw [ctV_len l, List.length_set]
theorem ctE_app : ∀ (a b : List It) (t : List UInt8), ctE t (a ++ b) = if ctE t a = 0 then ctE (ctV t a) b else ctE t a
  | [], b, t => by simp [ctE, ctV]
  | x :: a, b, t => by
    simp only [List.cons_append, ctE, ctV]
    split
    · exact ctE_app a b t
    · split
      · simp
      · split
        · simp
        · exact ctE_app a b _
theorem ctV_app : ∀ (a b : List It) (t : List UInt8), ctV t (a ++ b) = ctV (ctV t a) b
  | [], b, t => rfl
  | x :: a, b, t => by
    simp only [List.cons_append, ctV]
    split
    · exact ctV_app a b t
    · exact ctV_app a b _
theorem up_nat {x : UInt8} (h : x ≠ 255) : (x + 1).toNat = x.toNat + 1 := by
  have := (up_byte h).1
  omega
theorem nat_zero {x : UInt8} : x.toNat = 0 ↔ x = 0 := ⟨fun h => UInt8.toNat_inj.1 (by rw [h]; rfl), fun h => by rw [h]; rfl⟩
/-- What counting asks, and gives. -/
theorem ct_counts : ∀ (l : List It) (t : List UInt8), refsOk l → t.length = 256 → ctE t l = 0 →
    (∀ i, ((ctV t l)[i]?.getD 0).toNat = (t[i]?.getD 0).toNat + cntR l i) ∧ (∀ i, cntR l i ≠ 0 → t[i]?.getD 0 ≠ 0)
  | [], t, _, _, _ => ⟨fun i => by simp [ctV, cntR], fun i h => absurd rfl h⟩
  | x :: l, t, hr, hl, h => by
    obtain ⟨h1, h2⟩ := refs_cons hr
    unfold ctE at h
    unfold ctV
    rcases h1 with h1 | ⟨k, h1, h8, h256⟩
    · rw [if_pos h1] at h ⊢
      obtain ⟨c1, c2⟩ := ct_counts l t h2 hl h
      exact ⟨fun i => by rw [c1 i, cntR_zero h1], fun i hi => c2 i (by rwa [cntR_zero h1] at hi)⟩
    · have e0 : ¬ x.2.1 = 0 := by omega
      have ek : x.2.1.toNat = k := by omega
      rw [if_neg e0, ek] at h
      rw [if_neg e0, ek]
      by_cases hz : t[k]?.getD 0 = 0
      · rw [if_pos hz] at h; cases h
      · by_cases hm : t[k]?.getD 0 = 255
        · rw [if_neg hz, if_pos hm] at h; cases h
        · rw [if_neg hz, if_neg hm] at h
          obtain ⟨c1, c2⟩ := ct_counts l (t.set k (t[k]?.getD 0 + 1)) h2 (by rw [List.length_set, hl]) h
          refine ⟨fun i => ?_, fun i hi => ?_⟩
          · rw [c1 i, cntR_here h1 h8]
            by_cases e : i = k
            · subst e
              rw [set_get (by omega), up_nat hm, if_pos rfl]
              omega
            · rw [set_other e, if_neg e]
              omega
          · by_cases e : i = k
            · subst e; exact hz
            · rw [cntR_here h1 h8, if_neg e, Nat.zero_add] at hi
              have := c2 i hi
              rwa [set_other e] at this
theorem ct_may {t : List UInt8} {l : List It} (hm : mayT t = true) (hr : refsOk l) (h : ctE t l = 0) : mayT (ctV t l) = true := by
  have hl := mayT_len hm
  obtain ⟨c1, _⟩ := ct_counts l t hr hl h
  refine mayT_yes (by rw [ctV_len, hl]) fun j hj => nat_zero.1 ?_
  rw [c1 j, cntR_low hr (.inl hj), mayT_at hm hj]
  rfl
theorem ct_zero {t : List UInt8} {l : List It} (hl : t.length = 256) (hr : refsOk l) (h : ctE t l = 0) (i : Nat) : (ctV t l)[i]?.getD 0 = 0 ↔ t[i]?.getD 0 = 0 := by
  obtain ⟨c1, c2⟩ := ct_counts l t hr hl h
  rw [← nat_zero, c1 i, ← nat_zero (x := t[i]?.getD 0)]
  refine ⟨fun h => by omega, fun h => ?_⟩
  by_cases e : cntR l i = 0
  · omega
  · exact absurd (nat_zero.1 h) (c2 i e)

/-! ### To make -/
/-- A store in which a node's Refs are counted. -/
def ctS (s : Rm) (n : Nd) : Rm := (s.1, ctV s.2.1 n.2, s.2.2)
def mkE (s : Rm) (n : Nd) : Int := if mayR s && mayN n then (if ctE s.2.1 n.2 = 0 then tkE (ctS s n) (blkN n) else ctE s.2.1 n.2) else 8
def mkN (s : Rm) (n : Nd) : Int := if mkE s n = 0 then tkN (ctS s n) (blkN n) else 0
def mkV (s : Rm) (n : Nd) : Rm := if mkE s n = 0 then tkV (ctS s n) (blkN n) else emptyR
theorem mk_no {s : Rm} {n : Nd} (h : mkE s n ≠ 0) : mkN s n = 0 ∧ mkV s n = emptyR := ⟨by rw [mkN, if_neg h], by rw [mkV, if_neg h]⟩
theorem ctS_may {s : Rm} {n : Nd} (hm : mayR s = true) (hn : mayN n = true) (h : ctE s.2.1 n.2 = 0) : mayR (ctS s n) = true := by
  obtain ⟨m1, m2, m3⟩ := mayR_of hm
  exact mayR_mk m1 (ct_may m2 (refs_may hn) h) m3
theorem ctS_free {s : Rm} {n : Nd} (hm : mayR s = true) (hn : mayN n = true) (h : ctE s.2.1 n.2 = 0) : freeL (ctS s n) = freeL s := by
  unfold freeL freeK
  refine List.filter_congr fun i _ => ?_
  have := ct_zero (mayT_len (mayR_of hm).2.1) (refs_may hn) h i
  show (decide ((ctV s.2.1 n.2)[i]?.getD 0 = 0) && _) = (decide (s.2.1[i]?.getD 0 = 0) && _)
  rw [decide_eq_decide.2 this]
  rfl
theorem mk_ok {s : Rm} {n : Nd} (h : mkE s n = 0) : mayR s = true ∧ mayN n = true ∧ ctE s.2.1 n.2 = 0 ∧ tkE (ctS s n) (blkN n) = 0 ∧ mkN s n = tkN (ctS s n) (blkN n) ∧ mkV s n = tkV (ctS s n) (blkN n) := by
  have hN : mkN s n = tkN (ctS s n) (blkN n) := by rw [mkN, if_pos h]
  have hV : mkV s n = tkV (ctS s n) (blkN n) := by rw [mkV, if_pos h]
  unfold mkE at h
  cases hm : mayR s with
  | false => rw [hm] at h; simp at h
  | true =>
    cases hn : mayN n with
    | false => rw [hm, hn] at h; simp at h
    | true =>
      rw [hm, hn] at h
      simp only [Bool.and_self, if_true] at h
      by_cases hc : ctE s.2.1 n.2 = 0
      · rw [if_pos hc] at h
        exact ⟨rfl, rfl, hc, h, hN, hV⟩
      · rw [if_neg hc] at h
        exact absurd h hc
/-- What a node that is made leaves. -/
theorem mk_counts {s : Rm} {n : Nd} (h : mkE s n = 0) : ∃ k : Nat, mkN s n = k ∧ 8 ≤ k ∧ k < 256 ∧ s.2.1[k]?.getD 0 = 0 ∧ s.2.2[k]?.getD 0 = 0 ∧ cntR n.2 k = 0 ∧ mkV s n = (wrD s.1 k (blkN n), (ctV s.2.1 n.2).set k 1, s.2.2) ∧ mayR (mkV s n) = true ∧
    (mkV s n).2.1[k]?.getD 0 = 1 ∧ (∀ i, i ≠ k → ((mkV s n).2.1[i]?.getD 0).toNat = (s.2.1[i]?.getD 0).toNat + cntR n.2 i) ∧ (∀ i, cntR n.2 i ≠ 0 → s.2.1[i]?.getD 0 ≠ 0) ∧ (mkV s n).2.1.length = 256 ∧ s.2.1.length = 256 := by
  obtain ⟨hm, hn, hc, ht, e1, e2⟩ := mk_ok h
  obtain ⟨_, _, _, _, h8, h256, hz, hz2, hN, hV⟩ := tk_ok ht
  have hl := mayT_len (mayR_of hm).2.1
  have hr := refs_may hn
  obtain ⟨c1, c2⟩ := ct_counts n.2 s.2.1 hr hl hc
  generalize tkK (ctS s n) = k at *
  have z1 : s.2.1[k]?.getD 0 = 0 := (ct_zero hl hr hc k).1 hz
  have z2 : cntR n.2 k = 0 := by
    by_cases e : cntR n.2 k = 0
    · exact e
    · exact absurd z1 (c2 k e)
  have hV' : mkV s n = (wrD s.1 k (blkN n), (ctV s.2.1 n.2).set k 1, s.2.2) := by rw [e2, hV]; rfl
  refine ⟨k, by rw [e1, hN], h8, h256, z1, hz2, z2, hV', by rw [e2]; exact tk_may ht, ?_, fun i hi => ?_, c2, ?_, hl⟩
  · rw [hV']; exact set_get (by rw [ctV_len]; omega)
  · rw [hV']
    show (((ctV s.2.1 n.2).set k 1)[i]?.getD 0).toNat = _
    rw [set_other hi]
    exact c1 i
  · rw [hV']
    show ((ctV s.2.1 n.2).set k 1).length = _
    rw [List.length_set, ctV_len, hl]

/-! ### To leave -/
/-- No count is more than it was. -/
structure LeT (u t : List UInt8) : Prop where
  len : u.length = t.length
  le : ∀ i : Nat, (u[i]?.getD 0).toNat ≤ (t[i]?.getD 0).toNat
theorem LeT.refl (t : List UInt8) : LeT t t := ⟨rfl, fun _ => Nat.le_refl _⟩
theorem LeT.trans {a b c : List UInt8} (h : LeT a b) (h' : LeT b c) : LeT a c := ⟨h.len.trans h'.len, fun i => Nat.le_trans (h.le i) (h'.le i)⟩
theorem LeT.may {u t : List UInt8} (h : LeT u t) (hm : mayT t = true) : mayT u = true :=
  mayT_yes (by rw [h.len]; exact mayT_len hm) fun j hj => by
    have h1 := h.le j
    rw [mayT_at hm hj] at h1
    exact nat_zero.1 (by simpa using h1)
/-! ### What follows -/
theorem as_yes {s : Rm} {k : Nat} (hm : mayR s = true) (h8 : 8 ≤ k) (h : k < 256) (hx : s.2.1[k]?.getD 0 ≠ 0) : asE s k = 0 := by
  have hin := inT_of h8 h
  have h1 : ¬ s.2.1[((k : Int)).toNat]?.getD 0 = 0 := by
    rw [show ((k : Int)).toNat = k by omega]
    exact hx
  rw [asE, hm, if_pos rfl, hin, if_pos rfl, if_neg h1]
theorem rm_yes {s : Rm} {k : Nat} {n : Nd} (ha : asE s k = 0) (hb : seenD s.1 k = blkN n) (hn : mayN n = true) (hi : InN n) : rmE s k = 0 ∧ rmV s k = n := by
  obtain ⟨r1, r2⟩ := read_blkN hn hi
  constructor
  · rw [rmE, if_pos ha, show ((k : Int)).toNat = k by omega, hb, r1]
  · rw [rmV, if_pos ha, show ((k : Int)).toNat = k by omega, hb, r2]
end Go.Proofs.YtdaidhbmfocodaaGreat

/-
  Package room: Same, New. Conditions: those that each lemma states.
-/
namespace Go.Proofs.YtdaidhbmfocodaaGreat
open Go.RowKit

/-- A new store. -/
def newR : Rm := (zeroD, zeros 256, zeros 256)
set_option maxRecDepth 100000 in
set_option maxHeartbeats 4000000 in
theorem newR_any (w : World) : Calls Tryz.prog 23 #[] w fun e w' => ∃ t, e = .returned t ∧ Sto (New w.heap.size w') w' t newR ∧ Below w.heap.size w w' := by
  obtain ⟨w1, hw1, f1, hsz, hB⟩ := box_4 w (.slice none 0 0) (.slice none 0 0) (.slice none 0 0) (.slice none 0 0) 29
  have hz : Hid ((zeros 256).length = 256) := Lib.hid (zeros_length 256)
  replace hsz := Lib.hid hsz
  go_enter Tryz.func23, Tryz.ntmps23
  go_upto_region 1 with fail
  clear hw1
  go_wp2_with fail
  with_reducible refine (new_any _).mono ?_
  rintro e w2 ⟨u, rfl, h2, hb2⟩
  obtain ⟨P, p, Q, r, rfl, _⟩ := id h2.open
  have H2 := Lib.hid h2
  have F2 := (hb2.block w.heap.size (by rw [hsz.out]; omega)).trans f1
  have B2 := Lib.hid (hB.trans (hb2.mono hB.size))
  have s2 : Hid (w.heap.size + 1 ≤ w1.heap.size ∧ w1.heap.size ≤ w2.heap.size) := Lib.hid ⟨by rw [hsz.out]; omega, hb2.size⟩
  clear h2 hb2 f1
  go_wp2_with fail
  with_reducible refine (cntNew_by _).mono ?_
  rintro e w3 ⟨g3, rfl, h3, hb3⟩
  have H3 := Lib.hid h3
  have D3 := Lib.hid (H2.out.new (Nat.le_refl _) hb3)
  have F3 := (hb3.block w.heap.size (by have := s2.out; omega)).trans F2
  have B3 := Lib.hid (B2.out.trans (hb3.mono B2.out.size))
  have s3 : Hid (w2.heap.size ≤ w3.heap.size) := Lib.hid hb3.size
  clear h3 hb3 F2 H2
  go_wp2_with fail
  with_reducible refine (cntNew_by _).mono ?_
  rintro e w4 ⟨g4, rfl, h4, hb4⟩
  have D4 := D3.out.new (Nat.le_refl _) hb4
  have N4 := stab_by.new H3.out (Nat.le_refl _) hb4
  have F4 := (hb4.block w.heap.size (by have := s2.out; have := s3.out; omega)).trans F3
  have B4 := B3.out.trans (hb4.mono B3.out.size)
  obtain ⟨c0, c1, c2, c3, c4, c5⟩ := four_cells F4
  obtain ⟨W9, hW9, g9, gr9, gs9⟩ := put_four (a' := .slice P zeroD.1.length p) (b' := .slice Q zeroD.2.length r) (c' := .slice (some ⟨g3, 0, none⟩) 256 256) (d' := .slice (some ⟨g4, 0, none⟩) 256 256) F4
  obtain ⟨n0, n1, n2, n3, _, _⟩ := four_cells g9
  have q2 := s2.out
  have q3 := s3.out
  have l2 := B2.out.size
  have l3 := B3.out.size
  have hfin := Lib.hid (show Sto (New w.heap.size W9) W9 (.agg #[.slice P zeroD.1.length p, .slice Q zeroD.2.length r, .slice (some ⟨g3, 0, none⟩) 256 256, .slice (some ⟨g4, 0, none⟩) 256 256]) newR from
    Sto.mk ((D4.grown gr9 (fun q e => by cases e; omega)).new (by omega) (Below.refl _ _)) (stab_by.new (stab_by.grown N4 gr9 (fun q e => by cases e; omega)) (by omega) (Below.refl _ _)) (stab_by.new (stab_by.grown h4 gr9 (fun q e => by cases e; omega)) (by omega) (Below.refl _ _)))
  have hB9 := Lib.hid (B4.grown gr9 B4.size (fun q e => by cases e; omega))
  clear D4 N4 gr9 gs9 B4 q2 q3 l2 l3 h4 hb4
  replace F4 := Lib.hid F4
  replace F3 := Lib.hid F3
  replace g9 := Lib.hid g9
  go_wp2_with fail
  refine bodyPost_ret (v := .agg #[.slice P zeroD.1.length p, .slice Q zeroD.2.length r, .slice (some ⟨g3, 0, none⟩) 256 256, .slice (some ⟨g4, 0, none⟩) 256 256]) (by simp [results, Tryz.results23, go_sem, n0, n1, n2, n3]) rfl ?_
  exact ⟨_, rfl, hfin.out, hB9.out⟩
end Go.Proofs.YtdaidhbmfocodaaGreat

/-
  The document's answers of layer 8: Read, Node. Conditions: those that each lemma states.
-/
namespace Go.Proofs.YtdaidhbmfocodaaGreat
open Go.RowKit

theorem seen_128 {d : Dk} {k : Nat} (hm : mayB d = true) (hk : k < 256) : (seenD d k).length = 128 := by
  obtain ⟨h1, _, h3, h4⟩ := may_of hm
  unfold seenD
  have e : d.1[k]? = some (d.1[k]'(by omega)) := List.getElem?_eq_getElem _
  refine seenW_length (h3 k _ (by rw [e]; rfl)) fun x hx => ?_
  obtain ⟨i, hi⟩ := List.getElem?_of_mem hx
  exact (h4 i x hi).2.2
end Go.Proofs.YtdaidhbmfocodaaGreat

/-
  Bytes of the call's own that are turned where they lie; what lies elsewhere stays. Facts on items whose cells lie in a range that does not move. Conditions: those that each lemma states.
-/
namespace Go.Proofs.YtdaidhbmfocodaaGreat
open Go.RowKit

structure Turnt (lo hi : Nat) (w wr : World) : Prop where
  sp : Spoilt lo w wr
  keep : ∀ k, hi ≤ k → wr.heap[k]? = w.heap[k]?
theorem Turnt.refl (lo hi : Nat) (w : World) : Turnt lo hi w w := ⟨Spoilt.refl _ _, fun _ _ => rfl⟩
theorem Turnt.step {lo hi : Nat} {w wr : World} (h : Turnt lo hi w wr) {p : Addr} (hp : lo ≤ p.block) (hp' : p.block < hi) {x : UInt8} (hx : wr.cell? p = some (.int .u8 (x.toNat : Int))) (y : UInt8) : Turnt lo hi w (wr.setCell p (.int .u8 (y.toNat : Int))) :=
  ⟨h.sp.step hp hx y, fun k hk => (Below.heap_setCell wr p _ k (by omega)).trans (h.keep k hk)⟩
theorem Turnt.drew {lo hi : Nat} {w wr : World} (h : Turnt lo hi w wr) : Turnt lo hi w wr.drew := ⟨h.sp.drew, h.keep⟩
theorem Turnt.block {lo hi : Nat} {w wr : World} (h : Turnt lo hi w wr) {k : Nat} (hk : k < lo ∨ hi ≤ k) : wr.heap[k]? = w.heap[k]? := by
  rcases hk with hk | hk
  · exact h.sp.low.block k hk
  · exact h.keep k hk
theorem Turnt.cell {lo hi : Nat} {w wr : World} (h : Turnt lo hi w wr) {p : Addr} (hk : p.block < lo ∨ hi ≤ p.block) : wr.cell? p = w.cell? p := World.cell?_of_block (h.block hk)
/-- Facts whose cells lie in a range that does not move. -/
def OnI (ok : Addr → Prop) (v : Value) (s : It) : World → Prop := fun w => Itm ok w v s
def OnB (ok : Addr → Prop) (v : Value) (xs : List UInt8) : World → Prop := fun w => rBy ok w [v] xs
theorem OnI.old {ok : Addr → Prop} {v : Value} {s : It} {w : World} (h : OnI ok v s w) : Itm (Old w) w v s := Itm.map (fun p _ _ hc => ⟨World.block_lt_of_cell? w p hc, hc⟩) h
theorem OnB.old {ok : Addr → Prop} {v : Value} {xs : List UInt8} {w : World} (h : OnB ok v xs w) : rBy (Old w) w [v] xs := stab_by _ _ _ _ _ _ (fun p _ _ hc => ⟨World.block_lt_of_cell? w p hc, hc⟩) h
/-- Where the bytes of an item of the call's own lie. -/
def In (lo hi : Nat) : Addr → Prop := fun p => lo ≤ p.block ∧ p.block < hi
end Go.Proofs.YtdaidhbmfocodaaGreat

/-
  A bag's facts on nodes; what places tell, plain. Conditions: those that each lemma states.
-/
namespace Go.Proofs.YtdaidhbmfocodaaGreat
open Go.RowKit

theorem bag_node {w w1 : World} {Fs : List (World → Prop)} (h : Bag w Fs) (hb : Below w.heap.size w w1) (a b : Value) : ∃ w', w1.alloc (.cells #[a, b] 57) = w' ∧ Bag w' (Box2 w1.heap.size a b :: Fs) ∧ Below w.heap.size w w' ∧ Below w1.heap.size w1 w' ∧ w1.heap.size < w'.heap.size := by
  obtain ⟨w2, e2, b2, k4, k5⟩ := box_pair' w1 a b 57
  obtain ⟨k1, k2, _, k3⟩ := two_cells b2
  exact ⟨w2, e2, ((h.below hb).below k5).add ⟨k1, k2, k3⟩ (lasts_box _ _ _), hb.trans (k5.mono hb.size), k5, by omega⟩
def OldN (v : Value) (n : Nd) : World → Prop := fun w => Nod (Old w) w v n
theorem lasts_oldN (v : Value) (n : Nd) : Lasts (OldN v n) := fun _ _ h hb => h.below hb
def OldIs (v : Value) (l : List It) : World → Prop := fun w => rIts (Old w) w [v] l
theorem lasts_oldIs (v : Value) (l : List It) : Lasts (OldIs v l) := fun _ _ h hb => stab_its.old h hb

/-! ### Places -/
end Go.Proofs.YtdaidhbmfocodaaGreat

/-
  slices.Chunk at a slice of 256 bytes, in parts of 128. Conditions: those that each lemma states.
-/
namespace Go.Proofs.YtdaidhbmfocodaaGreat
open Go.RowKit Go.Shelf
attribute [local go_sem] Oper.semAt_some

/-- What a round keeps: all that lay below block n₀, and the two boxes from Bs on. -/
def Keeps2 (n₀ Bs : Nat) (A B : World) : Prop := Below n₀ A B ∧ B.cell? ⟨Bs, 0, none⟩ = A.cell? ⟨Bs, 0, none⟩ ∧ B.cell? ⟨Bs + 1, 0, none⟩ = A.cell? ⟨Bs + 1, 0, none⟩
theorem Keeps2.trans {n₀ Bs : Nat} {A B C : World} (h : Keeps2 n₀ Bs A B) (h' : Keeps2 n₀ Bs B C) : Keeps2 n₀ Bs A C := ⟨h.1.trans h'.1, h'.2.1.trans h.2.1, h'.2.2.trans h.2.2⟩
theorem Keeps2.refl (n₀ Bs : Nat) (A : World) : Keeps2 n₀ Bs A A := ⟨Below.refl _ _, rfl, rfl⟩
theorem Keeps2.below {n₀ Bs : Nat} {A B : World} (h : Below n₀ A B) (hB : Bs + 1 < n₀) : Keeps2 n₀ Bs A B := ⟨h, h.cell (p := ⟨Bs, 0, none⟩) (by show Bs < n₀; omega), h.cell (p := ⟨Bs + 1, 0, none⟩) hB⟩
end Go.Proofs.YtdaidhbmfocodaaGreat

/-
  Package count: Write, which ranges over slices.Chunk. Conditions: those that each lemma states.
-/
namespace Go.Proofs.YtdaidhbmfocodaaGreat
open Go.RowKit Go.Shelf
attribute [local go_sem] Oper.semAt_some

/-! ### The two writes, plain -/
theorem block_kept {W W' : World} {row : Option Nat} {g : Nat} {cs : Array Value} {t : TypeId} (h : W.heap[g]? = some (.cells cs t (0, 0))) (hg : W.grownBy W' row) (hrow : ∀ r, row = some r → ∃ o : Obj, W.heap[r]? = some o ∧ o.isCells = false) : W'.heap[g]? = some (.cells cs t (0, 0)) :=
  (grownBy_keeps_cells hg hrow h rfl).trans h
end Go.Proofs.YtdaidhbmfocodaaGreat

/-
  The document's answers of layer 7: Write. Conditions: those that each lemma states.
-/
namespace Go.Proofs.YtdaidhbmfocodaaGreat
open Go.RowKit

/-- Cells that hold no empty slice. -/
def NZ (ok : Addr → Prop) (w : World) : Addr → Prop := fun p => ok p ∧ w.cell? p ≠ some (.slice none 0 0)
theorem by_nz {ok : Addr → Prop} {w : World} {cs : List Value} {x : List UInt8} (h : rBy ok w cs x) : rBy (NZ ok w) w cs x := by
  obtain ⟨A, cap, h1, h2, h3, h4⟩ := h
  refine ⟨A, cap, h1, h2, h3, fun i y hi => ?_⟩
  obtain ⟨ad, vs, e1, e2, e3, e4⟩ := h4 i y hi
  refine ⟨ad, vs, e1, e2, fun j u hj => ⟨⟨(e3 j u hj).1, ?_⟩, (e3 j u hj).2⟩, e4⟩
  unfold rU8 at e4
  subst e4
  have := List.mem_of_getElem? hj
  simp only [List.mem_singleton] at this
  rw [(e3 j u hj).2, this]
  simp
theorem slice_nz {ok : Addr → Prop} {w : World} {u : Value} {x : List UInt8} (h : rBy ok w [u] x) (hx : x ≠ []) : u ≠ .slice none 0 0 := by
  obtain ⟨A, c, rfl, _⟩ := rBy_open h
  intro e
  simp only [Value.slice.injEq] at e
  exact hx (List.eq_nil_of_length_eq_zero e.2.1)
theorem rows_nz {ok : Addr → Prop} {w : World} {cs : List Value} {xss : List (List UInt8)} (h : rSl 1 rBy ok w cs xss) (hn : ∀ x ∈ xss, x ≠ []) : rSl 1 rBy (NZ ok w) w cs xss := by
  obtain ⟨A, cap, h1, h2, h3, h4⟩ := h
  refine ⟨A, cap, h1, h2, h3, fun i y hi => ?_⟩
  obtain ⟨ad, vs, e1, e2, e3, e4⟩ := h4 i y hi
  refine ⟨ad, vs, e1, e2, fun j u hj => ⟨⟨(e3 j u hj).1, ?_⟩, (e3 j u hj).2⟩, by_nz e4⟩
  match vs, e2 with
  | [v], _ =>
    have := List.mem_of_getElem? hj
    simp only [List.mem_singleton] at this
    rw [(e3 j u hj).2, this]
    exact fun e => slice_nz e4 (hn y (List.mem_of_getElem? hi)) (by simpa using e)
theorem wts_nz {ok : Addr → Prop} {w : World} {cs : List Value} {ws : List Wt} (h : rSl 2 rWt ok w cs ws) (hn : ∀ x ∈ ws, x.2 ≠ []) : rSl 2 rWt (NZ ok w) w cs ws := by
  obtain ⟨A, cap, h1, h2, h3, h4⟩ := h
  refine ⟨A, cap, h1, h2, h3, fun i y hi => ?_⟩
  obtain ⟨ad, vs, e1, e2, e3, e4⟩ := h4 i y hi
  obtain ⟨v, rfl, b1, b2, hv⟩ := rWt_open e4
  refine ⟨ad, _, e1, e2, fun j u hj => ⟨⟨(e3 j u hj).1, ?_⟩, (e3 j u hj).2⟩, rWt_mk b1 b2 (by_nz hv)⟩
  have := List.mem_of_getElem? hj
  simp only [List.mem_cons, List.not_mem_nil, or_false] at this
  rw [(e3 j u hj).2]
  rcases this with rfl | rfl
  · simp
  · exact fun e => slice_nz hv (hn y (List.mem_of_getElem? hi)) (by simpa using e)
theorem dsk_nz {ok : Addr → Prop} {w : World} {v : Value} {d : Dk} (h : Dsk ok w v d) (h1 : ∀ x ∈ d.1, x ≠ []) (h2 : ∀ x ∈ d.2, x.2 ≠ []) : Dsk (NZ ok w) w v d := by
  obtain ⟨a, b, e, r1, r2⟩ := h
  exact ⟨a, b, e, rows_nz r1 h1, wts_nz r2 h2⟩
theorem full_may {d : Dk} (h : mayB d = true) : (∀ x ∈ d.1, x ≠ []) ∧ (∀ x ∈ d.2, x.2 ≠ []) := by
  obtain ⟨_, _, h1, h2⟩ := may_of h
  refine ⟨fun x hx e => ?_, fun x hx e => ?_⟩
  · obtain ⟨i, hi⟩ := List.getElem?_of_mem hx
    have := h1 i x hi
    rw [e] at this
    cases this
  · obtain ⟨i, hi⟩ := List.getElem?_of_mem hx
    have := (h2 i x hi).2.2
    rw [e] at this
    cases this
end Go.Proofs.YtdaidhbmfocodaaGreat

/-
  A store into a box of noughts turns nothing of a store that may be. Conditions: those that each lemma states.
-/
namespace Go.Proofs.YtdaidhbmfocodaaGreat
open Go.RowKit

theorem nz_apart {W : World} {g : Nat} {cs : Array Value} {t : TypeId} {p : Addr} {u : Value} (hz : W.heap[g]? = some (.cells cs t (0, 0))) (hcs : ∀ c ∈ cs, c = .slice none 0 0) (hc : W.cell? p = some u) (hn : W.cell? p ≠ some (.slice none 0 0)) : p.block ≠ g := fun e => by
  refine hn ?_
  rw [hc]
  unfold World.cell? at hc
  rw [e, hz] at hc
  dsimp only at hc
  split at hc
  · cases hc
  · obtain ⟨hlt, hu⟩ := Array.getElem?_eq_some_iff.1 hc
    rw [← hu]
    exact congrArg some (hcs _ (Array.getElem_mem hlt))
theorem sto_nz {ok : Addr → Prop} {w : World} {v : Value} {s : Rm} (h : Sto ok w v s) (hd : (∀ x ∈ s.1.1, x ≠ []) ∧ (∀ x ∈ s.1.2, x.2 ≠ [])) : Sto (NZ ok w) w v s := by
  obtain ⟨a, b, n, l, e, h1, h2, h3⟩ := h
  exact ⟨a, b, n, l, e, dsk_nz h1 hd.1 hd.2, by_nz h2, by_nz h3⟩
def FullR (s : Rm) : Prop := (∀ x ∈ s.1.1, x ≠ []) ∧ (∀ x ∈ s.1.2, x.2 ≠ [])
theorem full_rm {s : Rm} (h : mayR s = true) : FullR s := full_may (mayR_of h).1
theorem sto_put_zero {W W9 : World} {g : Nat} {cs : Array Value} {t : TypeId} {v : Value} {s : Rm} (h : Sto (Old W) W v s) (hd : FullR s) (hz : W.heap[g]? = some (.cells cs t (0, 0))) (hcs : ∀ c ∈ cs, c = .slice none 0 0) (hg : W.grownBy W9 (some g)) : Sto (Old W9) W9 v s :=
  (sto_nz h hd).map fun p u hp hc => by
    have hn := nz_apart hz hcs hc hp.2
    exact ⟨Nat.lt_of_lt_of_le hp.1 hg.size, (World.cell?_of_block (hg.block _ hp.1 (by simpa using hn))).trans hc⟩
end Go.Proofs.YtdaidhbmfocodaaGreat

/-
  The document's answers of layer 8: Taken. Conditions: those that each lemma states.
-/
namespace Go.Proofs.YtdaidhbmfocodaaGreat
open Go.RowKit

/-- Cells that lie there, but not in block g. -/
def Off (g : Nat) (w : World) : Addr → Prop := fun p => p.block < w.heap.size ∧ p.block ≠ g
theorem off_put {g : Nat} {W W1 : World} {p : Addr} {v : Value} (gr : W.grownBy W1 (some g)) (hp : Off g W p) (hc : W.cell? p = some v) : Off g W1 p ∧ W1.cell? p = some v :=
  ⟨⟨Nat.lt_of_lt_of_le hp.1 gr.size, hp.2⟩, (World.cell?_of_block (gr.block _ hp.1 (by simpa using hp.2))).trans hc⟩
theorem off_below {g : Nat} {W W1 : World} {p : Addr} {v : Value} (hb : Below W.heap.size W W1) (hp : Off g W p) (hc : W.cell? p = some v) : Off g W1 p ∧ W1.cell? p = some v :=
  ⟨⟨Nat.lt_of_lt_of_le hp.1 hb.size, hp.2⟩, (hb.cell hp.1).trans hc⟩
theorem off_low {g : Nat} {w W : World} {p : Addr} {v : Value} (hb : Below w.heap.size w W) (hg : w.heap.size ≤ g) (hp : Old w p) (hc : w.cell? p = some v) : Off g W p ∧ W.cell? p = some v :=
  ⟨⟨Nat.lt_of_lt_of_le hp hb.size, fun e => by have h : p.block < w.heap.size := hp; omega⟩, (hb.cell hp).trans hc⟩
theorem off_old {g : Nat} {W : World} {p : Addr} {v : Value} (hp : Off g W p) (hc : W.cell? p = some v) : Old W p ∧ W.cell? p = some v := ⟨hp.1, hc⟩
end Go.Proofs.YtdaidhbmfocodaaGreat

/-
  The document's answers of layer 9: Counted, Made, Make. Conditions: those that each lemma states.
-/
namespace Go.Proofs.YtdaidhbmfocodaaGreat
open Go.RowKit

theorem ct_split {l : List It} {i : Nat} {x : It} {t : List UInt8} (h : ctE t (l.take i) = 0) (hx : l[i]? = some x) : ctE t l = ctE (ctV t (l.take i)) (x :: l.drop (i + 1)) := by
  have hk := (List.getElem?_eq_some_iff.1 hx).1
  have hg : l[i] = x := (List.getElem?_eq_some_iff.1 hx).2
  have e : l = l.take i ++ x :: l.drop (i + 1) := by rw [← hg, List.getElem_cons_drop, List.take_append_drop]
  have : ctE t l = ctE t (l.take i ++ x :: l.drop (i + 1)) := by rw [← e]
  rw [this, ctE_app, if_pos h]
theorem ct_next {l : List It} {i : Nat} {x : It} {t : List UInt8} (h : ctE t (l.take i) = 0) (hx : l[i]? = some x) : ctE t (l.take (i + 1)) = ctE (ctV t (l.take i)) [x] ∧ ctV t (l.take (i + 1)) = ctV (ctV t (l.take i)) [x] := by
  have hk := (List.getElem?_eq_some_iff.1 hx).1
  have hg : l[i] = x := (List.getElem?_eq_some_iff.1 hx).2
  rw [← List.take_append_getElem hk, ctE_app, ctV_app, if_pos h, hg]
  exact ⟨rfl, rfl⟩
theorem box_three3 {w : World} (a b c d e f : Value) : ∃ w1, ((w.alloc (.cells #[a, b, c, d] 29)).alloc (.cells #[e, f] 57)).alloc (.cells #[.slice none 0 0, .slice none 0 0, .slice none 0 0, .slice none 0 0] 29) = w1 ∧
    w1.heap[w.heap.size]? = some (.cells #[a, b, c, d] 29 (0, 0)) ∧ w1.heap[w.heap.size + 1]? = some (.cells #[e, f] 57 (0, 0)) ∧ w1.heap[w.heap.size + 2]? = some (.cells #[.slice none 0 0, .slice none 0 0, .slice none 0 0, .slice none 0 0] 29 (0, 0)) ∧ w1.heap.size = w.heap.size + 3 ∧ Below w.heap.size w w1 := by
  refine ⟨_, rfl, alloc_block (alloc_block (heap_alloc_new _ _)), alloc_block ?_, ?_, by simp, (((Below.refl _ w).alloc (Nat.le_refl _) _).alloc (by simp) _).alloc (by simp; omega) _⟩
  · have := heap_alloc_new (w.alloc (.cells #[a, b, c, d] 29)) (.cells #[e, f] 57)
    rwa [World.size_alloc] at this
  · have := heap_alloc_new ((w.alloc (.cells #[a, b, c, d] 29)).alloc (.cells #[e, f] 57)) (.cells #[.slice none 0 0, .slice none 0 0, .slice none 0 0, .slice none 0 0] 29)
    rwa [World.size_alloc, World.size_alloc] at this

theorem mk_ways {s : Rm} {n : Nd} (hm : mayR s = true) (hn : mayN n = true) : (ctE s.2.1 n.2 ≠ 0 ∧ mkE s n = ctE s.2.1 n.2 ∧ mkN s n = 0 ∧ mkV s n = emptyR) ∨ (ctE s.2.1 n.2 = 0 ∧ mkE s n = tkE (ctS s n) (blkN n) ∧ mkN s n = tkN (ctS s n) (blkN n) ∧ mkV s n = tkV (ctS s n) (blkN n)) := by
  by_cases hc : ctE s.2.1 n.2 = 0
  · have e : mkE s n = tkE (ctS s n) (blkN n) := by simp [mkE, hm, hn, hc]
    refine .inr ⟨hc, e, ?_, ?_⟩
    · by_cases h : mkE s n = 0
      · rw [mkN, if_pos h]
      · rw [mkN, if_neg h, (tk_no (by rw [← e]; exact h)).1]
    · by_cases h : mkE s n = 0
      · rw [mkV, if_pos h]
      · rw [mkV, if_neg h, (tk_no (by rw [← e]; exact h)).2]
  · have e : mkE s n = ctE s.2.1 n.2 := by simp [mkE, hm, hn, hc]
    have h : mkE s n ≠ 0 := by rw [e]; exact hc
    exact .inl ⟨hc, e, (mk_no h).1, (mk_no h).2⟩

end Go.Proofs.YtdaidhbmfocodaaGreat

/-
  Layer 8: the laws' alive. Conditions: those that each lemma states.
-/
namespace Go.Proofs.YtdaidhbmfocodaaGreat
open Go.RowKit

/-- What is free in a new store, and what Take does to it. -/
theorem new_free : (freeL newR).length = 248 ∧ freeL newR = 8 :: 9 :: (freeL newR).drop 2 := by decide +kernel
theorem may_new : mayR newR = true := mayR_mk may_zero may_zeros may_zeros
theorem new_take {b : List UInt8} (hb : b.length = 128) : tkE newR b = 0 ∧ tkN newR b = 8 ∧ tkK newR = 8 ∧ (tkV newR b).1.1.length = 256 ∧ (tkV newR b).1.2.length = 1 ∧ (tkV newR b).2.1.length = 256 ∧ (tkV newR b).2.2.length = 256 ∧ (tkV newR b).2.1[8]?.getD 0 = 1 := by
  have h0 : tkE newR b = 0 := tk_yes may_new hb (by rw [new_free.2]; simp) (by rw [newR, zero_len2]; omega)
  have hk : tkK newR = 8 := by rw [tkK, new_free.2]; rfl
  obtain ⟨_, _, _, _, _, _, _, _, hN, hV⟩ := tk_ok h0
  have hc := (tk_counts h0).1
  rw [hk] at hN hV hc
  refine ⟨h0, hN, hk, ?_, ?_, ?_, ?_, hc⟩
  · rw [hV, wrD_fst]; exact zero_len1
  · rw [hV, wrD_len]; rfl
  · rw [hV, List.length_set]; exact zeros_length 256
  · rw [hV]; exact zeros_length 256

end Go.Proofs.YtdaidhbmfocodaaGreat

/-
  The chapter's tree of layer 10, plain. Conditions: those that each lemma states.
-/
namespace Go.Proofs.YtdaidhbmfocodaaGreat
open Go.RowKit

theorem zeros_get0 (n i : Nat) : (zeros n)[i]?.getD 0 = 0 := by
  unfold zeros
  by_cases h : i < n <;> simp [h]
def keyN (x : Int) : Ky := (2, 0, x)
def it2 : It := (keyN 2, 0, [])
def topN (x : Int) : Nd := (1, [(keyN x, 8, [])])
theorem top_may (x : Int) : mayN (topN x) = true := mayN_mk ⟨by simp [topN], by simp [topN], by simp [topN], fun _ => by simp [topN]⟩ (fun i hi => by
  have hi0 : i = 0 := by
    simp [topN] at hi
    omega
  subst hi0
  rw [okAt_zero (x := (keyN x, 8, [])) rfl]
  rfl)
theorem top_in {x : Int} (h : 0 ≤ x ∧ x < 4294967296) : InN (topN x) := ⟨⟨by simp [topN], by simp [topN]⟩, fun y hy => by
  simp only [topN, List.mem_cons, List.not_mem_nil, or_false] at hy
  subst hy
  exact ⟨⟨⟨by simp [keyN], by simp [keyN]⟩, h⟩, by simp, by simp⟩⟩
end Go.Proofs.YtdaidhbmfocodaaGreat

/-
  Trees that stay where other blocks are taken, or counts rise; plain. Conditions: those that each lemma states.
-/
namespace Go.Proofs.YtdaidhbmfocodaaGreat
open Go.RowKit

theorem its_mem {f : Int → Ky → Ky → Bool → Bool} : ∀ {l : List It} {tb : Ky} {e : Bool}, itsO f l tb e = true → ∀ x ∈ l, ∃ t e, f x.2.1 x.1 t e = true
  | [], _, _, _, x, hx => by simp at hx
  | y :: r, tb, e, hf, x, hx => by
    rw [its_cons, Bool.and_eq_true] at hf
    rcases List.mem_cons.1 hx with rfl | hx
    · exact ⟨_, _, hf.1⟩
    · exact its_mem hf.2 x hx
end Go.Proofs.YtdaidhbmfocodaaGreat

/-
  Trees by their first and last keys, plain: which may be. Conditions: those that each lemma states.
-/
namespace Go.Proofs.YtdaidhbmfocodaaGreat
open Go.RowKit

/-- Parts side by side: each begins at its item's key and ends ahead of the next one's. -/
def chainO (g : Int → Option (Ky × Ky)) : List It → Option (Ky × Ky)
  | [] => none
  | [x] => (g x.2.1).bind fun p => if p.1 = x.1 then some p else none
  | x :: y :: r => (g x.2.1).bind fun p => (chainO g (y :: r)).bind fun q => if p.1 = x.1 ∧ lessK p.2 y.1 = true then some (p.1, q.2) else none
/-- The first key and the last one of a part of a tree that may be. -/
noncomputable def spanO (s : Rm) : Nat → Int → Option (Ky × Ky)
  | 0, a => if rmE s a = 0 ∧ (rmV s a).1 = 0 ∧ leafO s (rmV s a).2 = true then ((rmV s a).2[0]?).bind fun x => ((rmV s a).2.getLast?).map fun y => (x.1, y.1) else none
  | l + 1, a => if rmE s a = 0 ∧ (rmV s a).1 = ((l + 1 : Nat) : Int) then chainO (spanO s l) (rmV s a).2 else none

def LeK (a b : Ky) : Prop := a = b ∨ lessK a b = true
theorem LeK.lt {a b c : Ky} (h : LeK a b) (h' : lessK b c = true) : lessK a c = true := h.elim (fun e => by rw [e]; exact h') fun h => less_trans h h'
theorem LeK.trans {a b c : Ky} (h : LeK a b) (h' : LeK b c) : LeK a c := h'.elim (fun e => e ▸ h) fun h' => .inr (h.lt h')
theorem chain_first {g : Int → Option (Ky × Ky)} (hg : ∀ a p, g a = some p → LeK p.1 p.2) : ∀ {l : List It} {p : Ky × Ky}, chainO g l = some p → LeK p.1 p.2 ∧ ∃ x r, l = x :: r ∧ p.1 = x.1
  | [], _, h => by cases h
  | [x], p, h => by
    unfold chainO at h
    cases hx : g x.2.1 with
    | none => rw [hx] at h; cases h
    | some q =>
      rw [hx] at h
      have h' : (if q.1 = x.1 then some q else none) = some p := h
      split at h'
      · rename_i e
        cases h'
        exact ⟨hg _ _ hx, x, [], rfl, e⟩
      · cases h'
  | x :: y :: r, p, h => by
    unfold chainO at h
    cases hx : g x.2.1 with
    | none => rw [hx] at h; cases h
    | some q =>
      rw [hx] at h
      cases hc : chainO g (y :: r) with
      | none => rw [hc] at h; cases h
      | some q' =>
        rw [hc] at h
        have h' : (if q.1 = x.1 ∧ lessK q.2 y.1 = true then some (q.1, q'.2) else none) = some p := h
        obtain ⟨i1, y', r', e', i2⟩ := chain_first hg hc
        cases e'
        split at h'
        · rename_i e
          cases h'
          refine ⟨.inr ?_, x, y :: r, rfl, e.1⟩
          have h1 : lessK q.1 y.1 = true := (hg _ _ hx).lt e.2
          rw [← i2] at h1
          exact i1.elim (fun e => e ▸ h1) fun h2 => less_trans h1 h2
        · cases h'
theorem span_le (s : Rm) : ∀ (l : Nat) (a : Int) (p : Ky × Ky), spanO s l a = some p → LeK p.1 p.2
  | 0, a, p, h => by
    unfold spanO at h
    split at h
    · rename_i hc
      have hu := up_may (rm_may hc.1).1
      cases hl : (rmV s a).2 with
      | nil => rw [hl] at h; cases h
      | cons x r =>
        rw [hl] at h hu
        cases hz : (x :: r).getLast? with
        | none => rw [hz] at h; cases h
        | some z =>
          rw [hz] at h
          cases h
          rcases up_first hu z (List.mem_of_getLast? hz) with e | e
          · exact .inl e.symm
          · exact .inr e
    · cases h
  | l + 1, a, p, h => by
    unfold spanO at h
    split at h
    · exact (chain_first (span_le s l) h).1
    · cases h
theorem its_chain {f : Int → Ky → Ky → Bool → Bool} {g : Int → Option (Ky × Ky)} (hle : ∀ a p, g a = some p → LeK p.1 p.2) (hfg : ∀ a k tb e, f a k tb e = true ↔ ∃ t, g a = some (k, t) ∧ (e = true → lessK t tb = true)) : ∀ (l : List It) (tb : Ky) (e : Bool), l ≠ [] →
    (itsO f l tb e = true ↔ ∃ p, chainO g l = some p ∧ (e = true → lessK p.2 tb = true))
  | [], _, _, h => absurd rfl h
  | [x], tb, e, _ => by
    show f x.2.1 x.1 tb e = true ↔ _
    rw [hfg]
    unfold chainO
    constructor
    · rintro ⟨t, h1, h2⟩
      exact ⟨(x.1, t), by rw [h1]; simp, h2⟩
    · rintro ⟨p, h1, h2⟩
      cases hx : g x.2.1 with
      | none => rw [hx] at h1; cases h1
      | some q =>
        rw [hx] at h1
        have h' : (if q.1 = x.1 then some q else none) = some p := h1
        split at h'
        · rename_i e1
          cases h'
          exact ⟨p.2, by rw [← e1], h2⟩
        · cases h'
  | x :: y :: r, tb, e, _ => by
    have ih := its_chain hle hfg (y :: r) tb e (by simp)
    show (f x.2.1 x.1 y.1 true && itsO f (y :: r) tb e) = true ↔ _
    rw [Bool.and_eq_true, hfg, ih]
    constructor
    · rintro ⟨⟨t, h1, h2⟩, p, h3, h4⟩
      refine ⟨(x.1, p.2), ?_, h4⟩
      unfold chainO
      rw [h1, h3]
      simp [h2 rfl]
    · rintro ⟨p, h1, h2⟩
      unfold chainO at h1
      cases hx : g x.2.1 with
      | none => rw [hx] at h1; cases h1
      | some q =>
        rw [hx] at h1
        cases hc : chainO g (y :: r) with
        | none => rw [hc] at h1; cases h1
        | some q' =>
          rw [hc] at h1
          have h' : (if q.1 = x.1 ∧ lessK q.2 y.1 = true then some (q.1, q'.2) else none) = some p := h1
          split at h'
          · rename_i e1
            cases h'
            exact ⟨⟨q.2, by rw [← e1.1], fun _ => e1.2⟩, q', rfl, h2⟩
          · cases h'
/-- A part of a tree that may be, by its first key and its last one. -/
theorem right_span (s : Rm) : ∀ (l : Nat) (a : Int) (k tb : Ky) (e : Bool), rightO s l a k tb e = true ↔ ∃ t, spanO s l a = some (k, t) ∧ (e = true → lessK t tb = true)
  | 0, a, k, tb, e => by
    constructor
    · intro h
      obtain ⟨h1, h2, h3, h4⟩ := right_of h
      obtain ⟨x, r, hl, ek, hz⟩ := head_of h3
      obtain ⟨z, hz1⟩ : ∃ z, (rmV s a).2.getLast? = some z := by
        rw [hl]
        exact ⟨_, List.getLast?_eq_some_getLast (by simp)⟩
      refine ⟨z.1, ?_, fun he => ?_⟩
      · unfold spanO
        rw [if_pos ⟨h1, h2, h4⟩, hz1, show (rmV s a).2[0]? = some x by rw [hl]; rfl, ← ek]
        rfl
      · obtain ⟨z', e1, e2⟩ := hz he
        rw [hz1] at e1
        cases e1
        exact e2
    · rintro ⟨t, h1, h2⟩
      unfold spanO at h1
      split at h1
      · rename_i hc
        unfold rightO
        cases hx : (rmV s a).2[0]? with
        | none => rw [hx] at h1; cases h1
        | some x =>
          cases hz : (rmV s a).2.getLast? with
          | none => rw [hx, hz] at h1; cases h1
          | some z =>
            rw [hx, hz] at h1
            have h1' : (some (x.1, z.1) : Option (Ky × Ky)) = some (k, t) := h1
            simp only [Option.some.injEq, Prod.mk.injEq] at h1'
            have hh : headO (rmV s a).2 k tb e = true := by
              unfold headO
              rw [hx, hz]
              cases e with
              | false => simp [h1'.1]
              | true => simp [h1'.1, h1'.2, h2 rfl]
            rw [hc.1, hc.2.1, hc.2.2, hh]
            decide
      · cases h1
  | l + 1, a, k, tb, e => by
    have hc := its_chain (span_le s l) (fun a k tb e => right_span s l a k tb e) (rmV s a).2 tb e
    constructor
    · intro h
      obtain ⟨h1, h2, h3, h4⟩ := right_of h
      obtain ⟨x, r, hl, ek, _⟩ := head_of h3
      obtain ⟨p, hp, hb⟩ := (hc (by rw [hl]; simp)).1 h4
      obtain ⟨_, x', r', e', hf⟩ := chain_first (span_le s l) hp
      rw [hl] at e'
      cases e'
      refine ⟨p.2, ?_, hb⟩
      unfold spanO
      rw [if_pos ⟨h1, h2⟩, hp, ← ek, ← hf]
    · rintro ⟨t, h1, h2⟩
      unfold spanO at h1
      split at h1
      · rename_i hcond
        obtain ⟨_, x, r, hl, hf⟩ := chain_first (span_le s l) h1
        have hi := (hc (by rw [hl]; simp)).2 ⟨(k, t), h1, h2⟩
        have hh : headO (rmV s a).2 k tb e = true := by
          cases e with
          | false =>
            unfold headO
            rw [hl]
            simp [← hf]
          | true =>
            obtain ⟨x', r', e', hp⟩ := part_its (right_part s l) (rmV s a).2 tb true (by rw [hl]; simp) hi
            obtain ⟨z, hz1⟩ : ∃ z, (rmV s a).2.getLast? = some z := by
              rw [hl]
              exact ⟨_, List.getLast?_eq_some_getLast (by simp)⟩
            -- the last item's own part begins at its key, ahead of the bound
            obtain ⟨t', e2, hf2⟩ := its_mem hi z (List.mem_of_getLast? hz1)
            obtain ⟨y, r2, ey, ky⟩ := (right_part s l _ _ _ _ hf2).first
            have hy := hp.bound rfl y (List.mem_flatMap.2 ⟨z, List.mem_of_getLast? hz1, by rw [ey]; simp⟩)
            rw [ky] at hy
            unfold headO
            rw [hz1, show (rmV s a).2[0]? = some x by rw [hl]; rfl]
            simp [← hf, hy]
        unfold rightO
        rw [hcond.1, hcond.2, hh, hi]
        simp
      · cases h1
/-- Which trees may be: a leaf, or parts side by side. -/
theorem tree_span (s : Rm) (a : Int) : treeO s a = true ↔ rmE s a = 0 ∧ (match (rmV s a).1.toNat with | 0 => leafO s (rmV s a).2 = true | l + 1 => ∃ p, chainO (spanO s l) (rmV s a).2 = some p) := by
  constructor
  · intro h
    obtain ⟨h1, _, hm, l0, _, hi⟩ := tree_of h
    refine ⟨h1, ?_⟩
    unfold innerO at hi
    cases hl : (rmV s a).1.toNat with
    | zero => rw [hl] at hi; exact hi
    | succ l =>
      rw [hl] at hi
      have hne : (rmV s a).2 ≠ [] := fun e => by
        have := (mayN_of hm).1.2.2.2 (by omega)
        rw [e] at this
        simp at this
      obtain ⟨p, hp, _⟩ := (its_chain (span_le s l) (fun a k tb e => right_span s l a k tb e) _ keyZ false hne).1 hi
      exact ⟨p, hp⟩
  · rintro ⟨h1, h2⟩
    unfold treeO
    rw [h1]
    unfold innerO
    cases hl : (rmV s a).1.toNat with
    | zero => rw [hl] at h2; simp only [h2]; rfl
    | succ l =>
      rw [hl] at h2
      obtain ⟨p, hp⟩ := h2
      obtain ⟨_, x, r, e, _⟩ := chain_first (span_le s l) hp
      have := (its_chain (span_le s l) (fun a k tb e => right_span s l a k tb e) (rmV s a).2 keyZ false (by rw [e]; simp)).2 ⟨p, hp, fun h => by cases h⟩
      simp only [this]
      rfl
end Go.Proofs.YtdaidhbmfocodaaGreat

/-
  What is found, as package find and the document go down; parts of a tree by its node; plain. Conditions: those that each lemma states.
-/
namespace Go.Proofs.YtdaidhbmfocodaaGreat
open Go.RowKit

/-! ### From the last one on -/
/-! ### A node of a tree -/
structure AtT (s : Rm) (l : Nat) (a : Int) : Prop where
  ok : rmE s a = 0
  lvl : (rmV s a).1 = (l : Int)
  below : ∀ j, l = j + 1 → ∀ x ∈ (rmV s a).2, ∃ t e, rightO s j x.2.1 x.1 t e = true
theorem AtT.may {s : Rm} {l : Nat} {a : Int} (h : AtT s l a) : mayN (rmV s a) = true := (rm_may h.ok).1
theorem right_at {s : Rm} {l : Nat} {a : Int} {k tb : Ky} {e : Bool} (h : rightO s l a k tb e = true) : AtT s l a := by
  obtain ⟨h1, h2, _, h4⟩ := right_of h
  refine ⟨h1, h2, fun j hj x hx => ?_⟩
  subst hj
  exact its_mem h4 x hx
theorem AtT.down {s : Rm} {j : Nat} {a : Int} (h : AtT s (j + 1) a) {x : It} (hx : x ∈ (rmV s a).2) : AtT s j x.2.1 := by
  obtain ⟨t, e, hr⟩ := h.below j rfl x hx
  exact right_at hr
theorem tree_at {s : Rm} {a : Int} (h : treeO s a = true) : AtT s (rmV s a).1.toNat a := by
  obtain ⟨h1, _, _, l0, _, hi⟩ := tree_of h
  refine ⟨h1, by omega, fun j hj x hx => ?_⟩
  unfold innerO at hi
  rw [hj] at hi
  exact its_mem hi x hx
/-! ### Parts by their nodes -/
noncomputable def spanN (s : Rm) (n : Nd) : Option (Ky × Ky) := match n.1.toNat with
  | 0 => if leafO s n.2 = true then (n.2[0]?).bind fun x => (n.2.getLast?).map fun y => (x.1, y.1) else none
  | l + 1 => chainO (spanO s l) n.2
theorem span_node (s : Rm) (l : Nat) (a : Int) : spanO s l a = if rmE s a = 0 ∧ (rmV s a).1 = (l : Int) then spanN s (rmV s a) else none := by
  cases l with
  | zero =>
    unfold spanO
    by_cases h1 : rmE s a = 0 ∧ (rmV s a).1 = ((0 : Nat) : Int)
    · rw [if_pos h1]
      unfold spanN
      rw [h1.2]
      by_cases h2 : leafO s (rmV s a).2 = true
      · rw [if_pos ⟨h1.1, rfl, h2⟩]
        show _ = if leafO s (rmV s a).2 = true then _ else none
        rw [if_pos h2]
      · rw [if_neg (fun h => h2 h.2.2)]
        show _ = if leafO s (rmV s a).2 = true then _ else none
        rw [if_neg h2]
    · rw [if_neg h1, if_neg (fun h => h1 ⟨h.1, h.2.1⟩)]
  | succ l =>
    unfold spanO
    by_cases h1 : rmE s a = 0 ∧ (rmV s a).1 = ((l + 1 : Nat) : Int)
    · rw [if_pos h1, if_pos h1]
      unfold spanN
      rw [h1.2, show ((l + 1 : Nat) : Int).toNat = l + 1 by omega]
    · rw [if_neg h1, if_neg h1]
theorem span_zero {s : Rm} {n : Nd} {x y : It} {j : Nat} (h : n.1 = 0) (hx : n.2[0]? = some x) (hj : n.2.length = j + 1) (hy : n.2[j]? = some y) : spanN s n = if leafO s n.2 = true then some (x.1, y.1) else none := by
  have hl : n.2.getLast? = some y := by rw [List.getLast?_eq_getElem?, hj]; exact hy
  unfold spanN
  rw [h]
  show (if leafO s n.2 = true then _ else none) = _
  rw [hx, hl]
  rfl
theorem span_succ {s : Rm} {n : Nd} {l : Nat} (h : n.1 = ((l + 1 : Nat) : Int)) : spanN s n = chainO (spanO s l) n.2 := by
  unfold spanN
  rw [h, show ((l + 1 : Nat) : Int).toNat = l + 1 by omega]
/-- The first one. -/
theorem chain_one {g : Int → Option (Ky × Ky)} {l : List It} {x : It} (hx : l[0]? = some x) : chainO g (l.take 1) = (g x.2.1).bind fun p => if p.1 = x.1 then some p else none := by
  cases l with
  | nil => cases hx
  | cons y r =>
    cases hx
    rfl
theorem chain_app {g : Int → Option (Ky × Ky)} (x : It) : ∀ (l : List It), l ≠ [] → chainO g (l ++ [x]) = (chainO g l).bind fun q => (g x.2.1).bind fun p => if p.1 = x.1 ∧ lessK q.2 x.1 = true then some (q.1, p.2) else none
  | [], h => absurd rfl h
  | [y], _ => by
    show (g y.2.1).bind _ = _
    unfold chainO
    cases g y.2.1 with
    | none => rfl
    | some p =>
      show ((chainO g [x]).bind _) = ((if p.1 = y.1 then some p else none) : Option (Ky × Ky)).bind _
      unfold chainO
      cases g x.2.1 with
      | none =>
        by_cases h1 : p.1 = y.1 <;> simp [h1]
      | some q =>
        by_cases h1 : p.1 = y.1 <;> by_cases h2 : q.1 = x.1 <;> by_cases h3 : lessK p.2 x.1 = true <;> simp [h1, h2, h3]
  | y :: z :: r, _ => by
    have ih := chain_app (g := g) x (z :: r) (by simp)
    show (g y.2.1).bind (fun p => (chainO g (z :: r ++ [x])).bind _) = _
    rw [ih]
    conv => rhs; unfold chainO
    cases g y.2.1 with
    | none => rfl
    | some p =>
      cases chainO g (z :: r) with
      | none => rfl
      | some q =>
        cases g x.2.1 with
        | none =>
          by_cases h1 : p.1 = y.1 ∧ lessK p.2 z.1 = true <;> simp [h1]
        | some q' =>
          by_cases h1 : p.1 = y.1 ∧ lessK p.2 z.1 = true <;> by_cases h2 : q'.1 = x.1 ∧ lessK q.2 x.1 = true <;> simp [h1, h2]
theorem chain_take {g : Int → Option (Ky × Ky)} {l : List It} {k : Nat} {x : It} (hx : l[k]? = some x) (hk : 0 < k) : chainO g (l.take (k + 1)) = (chainO g (l.take k)).bind fun q => (g x.2.1).bind fun p => if p.1 = x.1 ∧ lessK q.2 x.1 = true then some (q.1, p.2) else none := by
  have hl := (List.getElem?_eq_some_iff.1 hx).1
  have hg : l[k] = x := (List.getElem?_eq_some_iff.1 hx).2
  rw [← List.take_append_getElem hl, hg]
  exact chain_app x _ fun e => by
    have h0 : (l.take k).length = 0 := by rw [e]; rfl
    rw [List.length_take] at h0
    omega
theorem chain_bad {g : Int → Option (Ky × Ky)} {l : List It} : ∀ {k : Nat}, 0 < k → chainO g (l.take k) = none → chainO g l = none := fun {k} hk h => by
  induction hn : l.length - k generalizing k with
  | zero => rwa [List.take_of_length_le (by omega)] at h
  | succ n ih =>
    obtain ⟨x, hx⟩ : ∃ x, l[k]? = some x := ⟨_, List.getElem?_eq_getElem (by omega)⟩
    exact ih (k := k + 1) (by omega) (by rw [chain_take hx hk, h]; rfl) (by omega)
/-- The first key of a chain. -/
theorem chain_key {g : Int → Option (Ky × Ky)} {l : List It} {x : It} (hx : l[0]? = some x) : ∀ {k : Nat} {q : Ky × Ky}, 0 < k → k ≤ l.length → chainO g (l.take k) = some q → q.1 = x.1 := fun {k} {q} hk hl h => by
  induction k generalizing q with
  | zero => omega
  | succ k ih =>
    by_cases h0 : k = 0
    · subst h0
      rw [chain_one hx] at h
      cases hg : g x.2.1 with
      | none => rw [hg] at h; cases h
      | some p =>
        rw [hg] at h
        have h' : (if p.1 = x.1 then some p else none) = some q := h
        split at h'
        · rename_i e; cases h'; exact e
        · cases h'
    · obtain ⟨y, hy⟩ : ∃ y, l[k]? = some y := ⟨_, List.getElem?_eq_getElem (by omega)⟩
      rw [chain_take hy (by omega)] at h
      cases hc : chainO g (l.take k) with
      | none => rw [hc] at h; cases h
      | some q' =>
        have e := ih (by omega) (by omega) hc
        rw [hc] at h
        cases hg : g y.2.1 with
        | none => rw [hg] at h; cases h
        | some p =>
          rw [hg] at h
          have h' : (if p.1 = y.1 ∧ lessK q'.2 y.1 = true then some (q'.1, p.2) else none) = some q := h
          split at h'
          · cases h'; exact e
          · cases h'
/-- Which trees may be, as package find tells it. -/
noncomputable def standsN (s : Rm) (n : Nd) : Bool := decide (n.2.length = 0) || (spanN s n).isSome
theorem stands_tree {s : Rm} {a : Int} (h : rmE s a = 0) : standsN s (rmV s a) = treeO s a := by
  have hm := (rm_may h).1
  have hsh := (mayN_of hm).1
  have e : treeO s a = true ↔ standsN s (rmV s a) = true := by
    rw [tree_span]
    unfold standsN
    rw [Bool.or_eq_true, decide_eq_true_eq]
    cases hl : (rmV s a).1.toNat with
    | zero =>
      have h0 : (rmV s a).1 = 0 := by omega
      simp only
      by_cases hz : (rmV s a).2.length = 0
      · have : (rmV s a).2 = [] := List.eq_nil_of_length_eq_zero hz
        rw [this]
        simp [h, leafO]
      · obtain ⟨j, hj⟩ : ∃ j, (rmV s a).2.length = j + 1 := ⟨(rmV s a).2.length - 1, by omega⟩
        obtain ⟨x, hx⟩ : ∃ x, (rmV s a).2[0]? = some x := ⟨_, List.getElem?_eq_getElem (by omega)⟩
        obtain ⟨y, hy⟩ : ∃ y, (rmV s a).2[j]? = some y := ⟨_, List.getElem?_eq_getElem (by omega)⟩
        rw [span_zero h0 hx hj hy]
        by_cases h2 : leafO s (rmV s a).2 = true <;> simp [h, h2, hz]
    | succ l =>
      have h1 : (rmV s a).1 = ((l + 1 : Nat) : Int) := by omega
      have hz : ¬ (rmV s a).2.length = 0 := by have := hsh.2.2.2 (by omega); omega
      rw [span_succ h1]
      simp only
      constructor
      · rintro ⟨_, p, hp⟩
        rw [hp]
        exact .inr rfl
      · rintro (h3 | h3)
        · exact absurd h3 hz
        · exact ⟨h, Option.isSome_iff_exists.1 h3⟩
  cases h1 : treeO s a with
  | true => exact e.1 h1
  | false =>
    cases h2 : standsN s (rmV s a) with
    | false => rfl
    | true => rw [e.2 h2] at h1; cases h1
end Go.Proofs.YtdaidhbmfocodaaGreat

/-
  Items between two keys, and the blocks of trees, plain. Conditions: those that each lemma states.
-/
namespace Go.Proofs.YtdaidhbmfocodaaGreat
open Go.RowKit

/-! ### Between two keys -/
def betw (f t : Ky) (x : It) : Bool := !lessK x.1 f && !lessK t x.1
noncomputable def rangeO (s : Rm) (a : Int) (f t : Ky) : List It := (allO s a).filter (betw f t)
noncomputable def raV (s : Rm) (a : Int) (f t : Ky) : List It := if ckE s a = 0 then rangeO s a f t else []
theorem betw_iff {f t : Ky} {x : It} : betw f t x = true ↔ lessK x.1 f = false ∧ lessK t x.1 = false := by
  unfold betw
  simp
theorem less_le {a b c : Ky} (h : lessK b a = false) (h' : lessK b c = true) : lessK a c = true := by
  by_cases e : b = a
  · rw [← e]; exact h'
  · exact less_trans (less_total e h) h'
theorem le_less {a b c : Ky} (h : lessK a b = true) (h' : lessK c b = false) : lessK a c = true := by
  by_cases e : c = b
  · rw [e]; exact h
  · exact less_trans h (less_total e h')
theorem filter_none {p : It → Bool} {L : List It} (h : ∀ x ∈ L, p x = false) : L.filter p = [] := by
  rw [List.filter_eq_nil_iff]
  intro x hx
  rw [h x hx]
  simp
/-- Among what is between wider keys. -/
theorem range_wider {L : List It} {a b c d : Ky} (hab : lessK b a = false) (hcd : lessK d c = false) : L.filter (betw b c) = (L.filter (betw a d)).filter (betw b c) := by
  rw [List.filter_filter]
  refine List.filter_congr fun x _ => ?_
  cases h : betw b c x with
  | false => rfl
  | true =>
    rw [betw_iff] at h
    have h1 : betw a d x = true := by
      rw [betw_iff]
      constructor
      · cases h2 : lessK x.1 a with
        | false => rfl
        | true =>
          have := le_less h2 hab
          rw [h.1] at this
          cases this
      · cases h2 : lessK d x.1 with
        | false => rfl
        | true =>
          have := less_le hcd h2
          rw [h.2] at this
          cases this
    rw [h1]
    rfl
/-- Those of a row that hold something, met one by one. -/
theorem meet_yes {p : It → Bool} {m : List It} {i : Nat} {x : It} (hx : m[i]? = some x) (h : p x = true) : (m.filter p)[((m.take i).filter p).length]? = some x ∧ ((m.take (i + 1)).filter p).length = ((m.take i).filter p).length + 1 := by
  have hi := (List.getElem?_eq_some_iff.1 hx).1
  have hg : m[i] = x := (List.getElem?_eq_some_iff.1 hx).2
  refine ⟨?_, ?_⟩
  · conv => lhs; rw [← List.take_append_drop i m, List.filter_append]
    rw [List.getElem?_append_right (by simp), List.take_append_drop, Nat.sub_self, List.drop_eq_getElem_cons hi, hg, List.filter_cons_of_pos h]
    rfl
  · rw [List.take_add_one, hx, Option.toList_some, List.filter_append, List.length_append]
    simp [h]
theorem meet_no {p : It → Bool} {m : List It} {i : Nat} {x : It} (hx : m[i]? = some x) (h : p x = false) : (∀ y, (m.filter p)[((m.take i).filter p).length]? = some y → y ≠ x) ∧ ((m.take (i + 1)).filter p).length = ((m.take i).filter p).length := by
  refine ⟨fun y hy e => ?_, ?_⟩
  · subst e
    have := (List.mem_filter.1 (List.mem_of_getElem? hy)).2
    rw [h] at this
    cases this
  · rw [List.take_add_one, hx, Option.toList_some, List.filter_append]
    simp [h]

/-! ### The blocks of a tree -/
noncomputable def nodesT (s : Rm) : Nat → Int → List Int
  | 0, a => [a]
  | l + 1, a => a :: (rmV s a).2.flatMap fun x => nodesT s l x.2.1
noncomputable def refsT (s : Rm) : Nat → Int → List Int
  | 0, a => ((rmV s a).2.map fun x => x.2.1).filter fun r => decide (r ≠ 0)
  | l + 1, a => (rmV s a).2.flatMap fun x => refsT s l x.2.1
noncomputable def nodesO (s : Rm) (a : Int) : List Int := nodesT s (rmV s a).1.toNat a
noncomputable def refsO (s : Rm) (a : Int) : List Int := refsT s (rmV s a).1.toNat a
/-- The places that are met, rising, each once. -/
def markO (L : List Int) : List Nat := (List.range 256).filter fun k => decide ((k : Int) ∈ L)
theorem mark_up (L : List Int) : (markO L).Pairwise (· < ·) := List.Pairwise.filter _ List.pairwise_lt_range
theorem mark_in {L : List Int} {k : Nat} : k ∈ markO L ↔ k < 256 ∧ (k : Int) ∈ L := by
  unfold markO
  rw [List.mem_filter, List.mem_range, decide_eq_true_eq]
/-- What a part of a tree tells of its blocks. -/
structure Blk (s : Rm) (l : Nat) (a : Int) (N R : List Int) : Prop where
  root : a ∈ N
  node : ∀ n ∈ N, rmE s n = 0
  sub : ∀ n ∈ N, ∀ x ∈ (rmV s n).2, ((rmV s n).1 ≠ 0 → x.2.1 ∈ N) ∧ ((rmV s n).1 = 0 → x.2.1 ≠ 0 → x.2.1 ∈ R)
  held : ∀ r ∈ R, r ≠ 0 ∧ s.2.1[r.toNat]?.getD 0 ≠ 0 ∧ 8 ≤ r ∧ r < 256
theorem leaf_in {s : Rm} {l : List It} (h : leafO s l = true) {x : It} (hx : x ∈ l) : x.2.1 = 0 ∨ s.2.1[x.2.1.toNat]?.getD 0 ≠ 0 := by
  unfold leafO at h
  rw [List.all_eq_true] at h
  have := h x hx
  simpa using this
theorem may_ref {n : Nd} (h : mayN n = true) {x : It} (hx : x ∈ n.2) : x.2.1 = 0 ∨ (8 ≤ x.2.1 ∧ x.2.1 < 256) := by
  obtain ⟨i, hi⟩ := List.getElem?_of_mem hx
  exact (mayI_of (okP_may (mayN_item h hi))).1
theorem leaf_blk {s : Rm} {a : Int} (h1 : rmE s a = 0) (h2 : (rmV s a).1 = 0) (h3 : leafO s (rmV s a).2 = true) : Blk s 0 a (nodesT s 0 a) (refsT s 0 a) := by
  have hm := (rm_may h1).1
  refine ⟨by simp [nodesT], fun n hn => ?_, fun n hn x hx => ?_, fun r hr => ?_⟩
  · simp only [nodesT, List.mem_singleton] at hn
    subst hn
    exact h1
  · simp only [nodesT, List.mem_singleton] at hn
    subst hn
    refine ⟨fun h => absurd h2 h, fun _ h0 => ?_⟩
    simp only [refsT, List.mem_filter, List.mem_map, decide_eq_true_eq]
    exact ⟨⟨x, hx, rfl⟩, h0⟩
  · simp only [refsT, List.mem_filter, List.mem_map, decide_eq_true_eq] at hr
    obtain ⟨⟨x, hx, rfl⟩, h0⟩ := hr
    rcases may_ref hm hx with e | e
    · exact absurd e h0
    · rcases leaf_in h3 hx with e' | e'
      · exact absurd e' h0
      · exact ⟨h0, e', e.1, e.2⟩
theorem up_blk {s : Rm} {l : Nat} {a : Int} (h1 : rmE s a = 0) (h2 : (rmV s a).1 = ((l + 1 : Nat) : Int)) (h3 : ∀ x ∈ (rmV s a).2, Blk s l x.2.1 (nodesT s l x.2.1) (refsT s l x.2.1)) : Blk s (l + 1) a (nodesT s (l + 1) a) (refsT s (l + 1) a) := by
  refine ⟨by simp [nodesT], fun n hn => ?_, fun n hn x hx => ?_, fun r hr => ?_⟩
  · simp only [nodesT, List.mem_cons, List.mem_flatMap] at hn
    rcases hn with rfl | ⟨y, hy, hn⟩
    · exact h1
    · exact (h3 y hy).node n hn
  · simp only [nodesT, List.mem_cons, List.mem_flatMap] at hn ⊢
    simp only [refsT, List.mem_flatMap]
    rcases hn with rfl | ⟨y, hy, hn⟩
    · exact ⟨fun _ => .inr ⟨x, hx, (h3 x hx).root⟩, fun h => by rw [h2] at h; omega⟩
    · obtain ⟨e1, e2⟩ := (h3 y hy).sub n hn x hx
      exact ⟨fun h => .inr ⟨y, hy, e1 h⟩, fun h h' => ⟨y, hy, e2 h h'⟩⟩
  · simp only [refsT, List.mem_flatMap] at hr
    obtain ⟨y, hy, hr⟩ := hr
    exact (h3 y hy).held r hr
theorem right_blk (s : Rm) : ∀ (l : Nat) (a : Int) (k tb : Ky) (e : Bool), rightO s l a k tb e = true → Blk s l a (nodesT s l a) (refsT s l a)
  | 0, a, k, tb, e, h => by
    obtain ⟨h1, h2, _, h4⟩ := right_of h
    exact leaf_blk h1 h2 h4
  | l + 1, a, k, tb, e, h => by
    obtain ⟨h1, h2, _, h4⟩ := right_of h
    exact up_blk h1 h2 fun x hx => by
      obtain ⟨t', e', hf⟩ := its_mem h4 x hx
      exact right_blk s l _ _ _ _ hf
theorem tree_blk {s : Rm} {a : Int} (h : treeO s a = true) : Blk s (rmV s a).1.toNat a (nodesO s a) (refsO s a) := by
  obtain ⟨h1, _, _, l0, _, hi⟩ := tree_of h
  unfold nodesO refsO
  unfold innerO at hi
  cases hl : (rmV s a).1.toNat with
  | zero =>
    rw [hl] at hi
    exact leaf_blk h1 (by omega) hi
  | succ l =>
    rw [hl] at hi
    exact up_blk h1 (by omega) fun x hx => by
      obtain ⟨t', e', hf⟩ := its_mem hi x hx
      exact right_blk s l _ _ _ _ hf
/-- A node's block is one of those that may be taken, and is counted. -/
theorem node_place {s : Rm} {n : Int} (h : rmE s n = 0) : 8 ≤ n ∧ n < 256 ∧ s.2.1[n.toNat]?.getD 0 ≠ 0 := by
  obtain ⟨k, rfl, _, h8, h256, _, _, _, _, hx⟩ := as_read (rm_may h).2
  exact ⟨by omega, by omega, by rw [show ((k : Int)).toNat = k by omega]; exact hx⟩
end Go.Proofs.YtdaidhbmfocodaaGreat

/-
  The document's leaf, and package find's held. Conditions: those that each lemma states.
-/
namespace Go.Proofs.YtdaidhbmfocodaaGreat
open Go.RowKit

/-- A Ref of a leaf's item, looked up. -/
theorem leaf_ref {s : Rm} {l : List It} {i : Nat} {x : It} {r : Nat} {y : UInt8} (hx : l[i]? = some x) (hr : x.2.1 = (r : Int)) (h0 : r ≠ 0) (hy : s.2.1[r]?.getD 0 = y) : leafO s (l.take (i + 1)) = (leafO s (l.take i) && decide (y ≠ 0)) := by
  rw [leaf_take hx, hr]
  have : ¬ ((r : Nat) : Int) = 0 := by omega
  rw [decide_eq_false this, Bool.false_or, show ((r : Nat) : Int).toNat = r by omega, hy]
theorem leaf_none {s : Rm} {l : List It} {i : Nat} {x : It} (hx : l[i]? = some x) (hr : x.2.1 = 0) : leafO s (l.take (i + 1)) = leafO s (l.take i) := by
  rw [leaf_take hx, hr]
  simp

/-- The first item of a row. -/
theorem its_first {w : World} {A : Option Addr} {n c : Nat} {xs : List It} {s : It} (h : rIts (Old w) w [.slice A n c] xs) (hk : xs[0]? = some s) :
    ∃ ad E ce, A = some ad ∧ InI s ∧ ∀ W, Below w.heap.size w W → At5 W ad s (.slice E s.2.2.length ce) ∧ Itm (Old W) W (itV s (.slice E s.2.2.length ce)) s := by
  obtain ⟨ad, E, ce, e, _, _, h1, F⟩ := its_old h hk
  have e0 : ad.add (0 * 5) = ad := by simp [Addr.add]
  rw [e0] at F
  exact ⟨ad, E, ce, e, h1, F⟩

end Go.Proofs.YtdaidhbmfocodaaGreat

/-
  The document's inner, by its right one level below. Conditions: those that each lemma states.
-/
namespace Go.Proofs.YtdaidhbmfocodaaGreat
open Go.RowKit

theorem put_three {W : World} {g : Nat} {a b c a' b' c' : Value} {t : TypeId} (h : W.heap[g]? = some (.cells #[a, b, c] t (0, 0))) : ∃ W1, ((W.setCell ⟨g, 0, none⟩ a').setCell ⟨g, 1, none⟩ b').setCell ⟨g, 2, none⟩ c' = W1 ∧
    W1.heap[g]? = some (.cells #[a', b', c'] t (0, 0)) ∧ W.grownBy W1 (some g) ∧ W1.heap.size = W.heap.size :=
  ⟨_, rfl, by simp [World.setCell, Array.getElem?_modify, h], grow_put (p := ⟨g, 2, none⟩) (grow_put (p := ⟨g, 1, none⟩) (grow_put (p := ⟨g, 0, none⟩) (grow_refl W (some g)) rfl a') rfl b') rfl c', by simp⟩
theorem three_cells {W : World} {g : Nat} {a b c : Value} {t : TypeId} (h : W.heap[g]? = some (.cells #[a, b, c] t (0, 0))) : W.cell? ⟨g, 0, none⟩ = some a ∧ W.cell? ⟨g, 1, none⟩ = some b ∧ W.cell? ⟨g, 2, none⟩ = some c ∧ (∀ o, W.frozen? ⟨g, o, none⟩ = false) ∧ g < W.heap.size :=
  ⟨by simp [World.cell?, h], by simp [World.cell?, h], by simp [World.cell?, h], fun o => by simp [World.frozen?, h], (Array.getElem?_eq_some_iff.1 h).1⟩

end Go.Proofs.YtdaidhbmfocodaaGreat

/-
  The document's Tree and Check of layer 10; its Read and package room's Node, opened. Conditions: those that each lemma states.
-/
namespace Go.Proofs.YtdaidhbmfocodaaGreat
open Go.RowKit

theorem nodeR_open (v : Value) (s : Rm) (a : Int) (w : World) (h : Sto (Old w) w v s) :
    Calls Tryz.prog 19 #[v, .int .i64 a] w fun e w' => ∃ Z zc, e = .returned (.tuple #[.agg #[.int .i64 (rmV s a).1, .slice Z (rmV s a).2.length zc], .int .i64 (rmE s a)]) ∧ rIts (Old w') w' [.slice Z (rmV s a).2.length zc] (rmV s a).2 ∧
      Nod (New w.heap.size w') w' (.agg #[.int .i64 (rmV s a).1, .slice Z (rmV s a).2.length zc]) (rmV s a) ∧ Below w.heap.size w w' := by
  refine (nodeR_any v s a w h).mono ?_
  rintro e w' ⟨u, rfl, hu, hb'⟩
  have hu2 := hu
  obtain ⟨Z, zc, rfl, _, _, _, hA⟩ := hu.drop.open
  exact ⟨Z, zc, rfl, hA, hu2, hb'⟩

theorem tree_no {s : Rm} {a : Int} (h : rmE s a ≠ 0) : treeO s a = false := by simp [treeO, h]
theorem ck_no {s : Rm} {a : Int} (h : asE s a ≠ 0) : ckE s a = asE s a ∧ ckH s a = 0 := by
  have e : ckE s a = asE s a := by rw [ckE, if_neg h]
  exact ⟨e, by rw [ckH, e, if_neg h]⟩
theorem ck_bad {s : Rm} {a : Int} (h : asE s a = 0) (ht : treeO s a = false) : ckE s a = 8 ∧ ckH s a = 0 := by
  have e : ckE s a = 8 := by rw [ckE, if_pos h, ht]; rfl
  exact ⟨e, by rw [ckH, e, if_neg (by decide)]⟩
theorem ck_ok {s : Rm} {a : Int} (h : asE s a = 0) (ht : treeO s a = true) : ckE s a = 0 ∧ ckH s a = (rmV s a).1 + 1 := by
  have e : ckE s a = 0 := by rw [ckE, if_pos h, ht]; rfl
  exact ⟨e, by rw [ckH, e, if_pos rfl]⟩
theorem ck_of {s : Rm} {a : Int} (h : ckE s a = 0) : treeO s a = true ∧ asE s a = 0 ∧ ckH s a = (rmV s a).1 + 1 := by
  by_cases ha : asE s a = 0
  · cases ht : treeO s a with
    | false => rw [(ck_bad ha ht).1] at h; cases h
    | true => exact ⟨rfl, ha, (ck_ok ha ht).2⟩
  · rw [(ck_no ha).1] at h
    exact absurd h ha

end Go.Proofs.YtdaidhbmfocodaaGreat

/-
  The tree of layer 11's laws, plain. Conditions: those that each lemma states.
-/
namespace Go.Proofs.YtdaidhbmfocodaaGreat
open Go.RowKit

def it4K : It := (keyN 4, 0, [])
/-- The leaf; the node above, whose item has a key. -/
def lowK : Nd := (0, [it2, it4K])
theorem lowK_may : mayN lowK = true := by decide +kernel
theorem lowK_in : InN lowK := ⟨⟨by decide, by decide⟩, fun x hx => by
  simp only [lowK, List.mem_cons, List.not_mem_nil, or_false] at hx
  rcases hx with rfl | rfl <;> exact ⟨⟨⟨by decide, by decide⟩, by decide, by decide⟩, by decide, by decide⟩⟩
/-- The store with the leaf; with both. -/
noncomputable def tk1 : Rm := mkV newR lowK
noncomputable def tk2 (x : Int) : Rm := mkV tk1 (topN x)
set_option maxRecDepth 100000 in
theorem lowK_made : mkE newR lowK = 0 ∧ mkN newR lowK = 8 ∧ mayR tk1 = true ∧ tk1.2.1[8]?.getD 0 = 1 ∧ freeL tk1 = 9 :: (freeL newR).drop 2 ∧ tk1.1.2.length = 1 ∧ seenD tk1.1 8 = blkN lowK ∧ (∀ k : Nat, k ≠ 8 → tk1.2.1[k]?.getD 0 = 0) := by
  have hv : ctV newR.2.1 lowK.2 = newR.2.1 := by
    generalize newR.2.1 = t
    rfl
  have he : ctE newR.2.1 lowK.2 = 0 := by
    generalize newR.2.1 = t
    rfl
  have hs : ctS newR lowK = newR := by rw [ctS, hv]
  obtain ⟨t1, t2, t3, _, t5, _⟩ := new_take (blkN_length lowK_may)
  rcases mk_ways may_new lowK_may with ⟨hc, _⟩ | ⟨_, e, e2, e3⟩
  · exact absurd he hc
  rw [hs] at e e2 e3
  have hE := e.trans t1
  obtain ⟨k, e1, _, _, _, _, _, hV, hm, c1, c2, _⟩ := mk_counts hE
  rw [e2, t2] at e1
  have hk : k = 8 := by omega
  subst hk
  refine ⟨hE, e2.trans t2, hm, c1, ?_, ?_, ?_, fun i hi => ?_⟩
  · show freeL (mkV newR lowK) = _
    rw [e3, tk_free t1, new_free.2]
    rfl
  · show (mkV newR lowK).1.2.length = 1
    rw [e3]; exact t5
  · show seenD (mkV newR lowK).1 8 = _
    rw [hV]
    exact seenD_write
  · refine nat_zero.1 ?_
    show ((mkV newR lowK).2.1[i]?.getD 0).toNat = 0
    rw [c2 i hi]
    have h0 : newR.2.1[i]?.getD 0 = 0 := by
      have e0 : newR.2.1 = zeros 256 := rfl
      rw [e0]
      exact zeros_get0 256 i
    rw [h0, show cntR lowK.2 i = 0 by simp [lowK, cntR, it2, it4K]]
    rfl
set_option maxRecDepth 100000 in
theorem topK_made {x : Int} (hx : 0 ≤ x ∧ x < 4294967296) : mkE tk1 (topN x) = 0 ∧ mkN tk1 (topN x) = 9 ∧ mayR (tk2 x) = true ∧ rmE (tk2 x) 9 = 0 ∧ rmV (tk2 x) 9 = topN x ∧ rmE (tk2 x) 8 = 0 ∧ rmV (tk2 x) 8 = lowK ∧ asE (tk2 x) 10 = 6 ∧ asE (tk2 x) 7 = 2 := by
  obtain ⟨_, _, hm, h8, hf, hw, hsn, hz⟩ := lowK_made
  have he : ctE tk1.2.1 (topN x).2 = 0 := by
    simp only [topN, ctE]
    rw [if_neg (by decide), show ((8 : Int)).toNat = 8 from rfl, h8, if_neg (by decide), if_neg (by decide)]
  have hfs := ctS_free hm (top_may x) he
  have hms := ctS_may hm (top_may x) he
  have hT : tkE (ctS tk1 (topN x)) (blkN (topN x)) = 0 := tk_yes hms (blkN_length (top_may x)) (by rw [hfs, hf]; exact List.cons_ne_nil _ _) (by have e : (ctS tk1 (topN x)).1 = tk1.1 := rfl; rw [e, hw]; decide)
  have hK : tkK (ctS tk1 (topN x)) = 9 := by rw [tkK, hfs, hf]; rfl
  obtain ⟨_, _, _, _, _, _, _, _, hN, _⟩ := tk_ok hT
  rcases mk_ways hm (top_may x) with ⟨hc, _⟩ | ⟨_, e, e2, _⟩
  · exact absurd he hc
  have hE := e.trans hT
  have hN9 : mkN tk1 (topN x) = 9 := by rw [e2, hN, hK]; rfl
  obtain ⟨k, e1, _, _, _, _, _, hV, hmT, c1, c2, _, hl, _⟩ := mk_counts hE
  have hk : k = 9 := by omega
  subst hk
  have c8 : (mkV tk1 (topN x)).2.1[8]?.getD 0 ≠ 0 := fun h => by
    have := c2 8 (by decide)
    rw [h, h8] at this
    have e0 : (0 : UInt8).toNat = 0 := rfl
    have e1 : (1 : UInt8).toNat = 1 := rfl
    omega
  have hs9 : seenD (tk2 x).1 9 = blkN (topN x) := by
    show seenD (mkV tk1 (topN x)).1 9 = _
    rw [hV]
    exact seenD_write
  have hs8 : seenD (tk2 x).1 8 = blkN lowK := by
    show seenD (mkV tk1 (topN x)).1 8 = _
    rw [hV, ← hsn]
    exact seenD_write_ne (by decide)
  have a9 : asE (tk2 x) ((9 : Nat) : Int) = 0 := as_yes hmT (by decide) (by decide) (by rw [show (tk2 x).2.1[9]?.getD 0 = 1 from c1]; decide)
  have a8 : asE (tk2 x) ((8 : Nat) : Int) = 0 := as_yes hmT (by decide) (by decide) c8
  obtain ⟨r1, r2⟩ := rm_yes a9 hs9 (top_may x) (top_in hx)
  obtain ⟨r3, r4⟩ := rm_yes a8 hs8 lowK_may lowK_in
  refine ⟨hE, hN9, hmT, r1, r2, r3, r4, ?_, ?_⟩
  · have h10 : (tk2 x).2.1[10]?.getD 0 = 0 := nat_zero.1 (by
      have h1 := c2 10 (by decide)
      rw [hz 10 (by decide), show cntR (topN x).2 10 = 0 by simp [topN, cntR]] at h1
      exact h1)
    rw [asE, show mayR (tk2 x) = true from hmT, if_pos rfl, if_pos (by decide), show ((10 : Int)).toNat = 10 from rfl, if_pos h10]
  · rw [asE, show mayR (tk2 x) = true from hmT, if_pos rfl, if_neg (by decide)]
set_option maxRecDepth 100000 in
/-- What there is in it. -/
theorem topK_tree : treeO (tk2 2) 9 = true ∧ allO (tk2 2) 9 = [it2, it4K] ∧ nodesO (tk2 2) 9 = [9, 8] ∧ refsO (tk2 2) 9 = [] := by
  obtain ⟨_, _, hm, r1, r2, r3, r4, _, _⟩ := topK_made (x := 2) (by decide)
  have hl : leafO (tk2 2) lowK.2 = true := by
    simp [leafO, lowK, it2, it4K]
  refine ⟨?_, ?_, ?_, ?_⟩
  · unfold treeO
    rw [r1, r2]
    show (true && rightO (tk2 2) 0 8 (keyN 2) keyZ false) = true
    unfold rightO
    rw [r3, r4, hl]
    decide
  · unfold allO
    rw [r2]
    show itsT (tk2 2) 1 9 = _
    unfold itsT
    rw [r2]
    show itsT (tk2 2) 0 8 ++ [] = _
    unfold itsT
    rw [r4]
    rfl
  · unfold nodesO
    rw [r2]
    show nodesT (tk2 2) 1 9 = _
    unfold nodesT
    rw [r2]
    rfl
  · unfold refsO
    rw [r2]
    show refsT (tk2 2) 1 9 = _
    unfold refsT
    rw [r2]
    show refsT (tk2 2) 0 8 ++ [] = _
    unfold refsT
    rw [r4]
    decide
set_option maxRecDepth 100000 in
/-- What Range and Nodes tell of it. -/
theorem walk_tells : (ckE (tk2 2) 9 = 0 ∧ ckE (tk2 2) 10 = 6) ∧ raV (tk2 2) 9 (keyN 3) (keyN 9) = [it4K] ∧ raV (tk2 2) 9 (keyN 2) (keyN 4) = [it2, it4K] ∧ raV (tk2 2) 9 (keyN 4) (keyN 2) = [] ∧ raV (tk2 2) 10 keyZ keyZ = [] ∧ markO (nodesO (tk2 2) 9) = [8, 9] ∧ markO (refsO (tk2 2) 9) = [] := by
  obtain ⟨_, _, _, r1, _, _, _, r5, _⟩ := topK_made (x := 2) (by decide)
  obtain ⟨t1, t2, t3, t4⟩ := topK_tree
  obtain ⟨c1, _⟩ := ck_ok (tree_of t1).2.1 t1
  obtain ⟨e1, _⟩ := ck_no (s := tk2 2) (a := 10) (by rw [r5]; decide)
  have e2 : ckE (tk2 2) 10 = 6 := e1.trans r5
  refine ⟨⟨c1, e2⟩, ?_, ?_, ?_, ?_, ?_, ?_⟩
  · rw [raV, if_pos c1, rangeO, t2]
    decide
  · rw [raV, if_pos c1, rangeO, t2]
    decide
  · rw [raV, if_pos c1, rangeO, t2]
    decide
  · rw [raV, if_neg (by rw [e2]; decide)]
  · rw [t3]
    decide
  · rw [t4]
    decide
end Go.Proofs.YtdaidhbmfocodaaGreat

/-
  The document's One: what is found of a key. Conditions: those that each lemma states.
-/
namespace Go.Proofs.YtdaidhbmfocodaaGreat
open Go.RowKit

/-- A box of five cells, whole. -/
def BoxW (g : Nat) (cs : Array Value) (t : TypeId) : World → Prop := fun w => w.heap[g]? = some (.cells cs t (0, 0))
theorem lasts_boxW (g : Nat) (cs : Array Value) (t : TypeId) : Lasts (BoxW g cs t) := fun _ _ h hb => (hb.block g (Array.getElem?_eq_some_iff.1 h).1).trans h

end Go.Proofs.YtdaidhbmfocodaaGreat

/-
  Package node: slices.Clone at items, Twin. Conditions: those that each lemma states.
-/
namespace Go.Proofs.YtdaidhbmfocodaaGreat
open Go.RowKit

abbrev Iv := It × Value
def cell5 (p : Iv) : List Value := [.int .u8 (p.1.1.1.toNat : Int), .int .u32 p.1.1.2.1, .int .u32 p.1.1.2.2, .int .i64 p.1.2.1, p.2]
def cells5 (ps : List Iv) : List Value := (ps.map cell5).flatten
theorem cells5_at : ∀ {ps : List Iv} {k : Nat} {p : Iv}, ps[k]? = some p → ∀ j v, (cell5 p)[j]? = some v → (cells5 ps)[k * 5 + j]? = some v
  | q :: r, 0, p, h, j, v, hv => by
    simp at h
    subst h
    have hj : j < (cell5 q).length := (List.getElem?_eq_some_iff.1 hv).1
    show ((cell5 q) ++ cells5 r)[0 * 5 + j]? = some v
    rw [Nat.zero_mul, Nat.zero_add, List.getElem?_append_left hj, hv]
  | q :: r, k + 1, p, h, j, v, hv => by
    have h' : r[k]? = some p := by simpa using h
    have := cells5_at h' j v hv
    show ((cell5 q) ++ cells5 r)[(k + 1) * 5 + j]? = some v
    have hl : (cell5 q).length = 5 := rfl
    rw [List.getElem?_append_right (by omega), hl, show (k + 1) * 5 + j - 5 = k * 5 + j by omega]
    exact this
end Go.Proofs.YtdaidhbmfocodaaGreat

/-
  Rows of items: as literals, appended to one another; all items of a node's leaves, as the laws of layer 10 gather them. Conditions: those that each lemma states.
-/
namespace Go.Proofs.YtdaidhbmfocodaaGreat
open Go.RowKit

/-- A literal row of items. -/
theorem its_lies {W : World} {g : Nat} {cs : Array Value} {t : TypeId} {ps : List Iv} (hz : W.heap[g]? = some (.cells cs t (0, 0))) (hcs : cs.toList = cells5 ps) (hl : ps.length ≤ 1000) (h : ∀ p ∈ ps, InI p.1 ∧ rBy (Old W) W [p.2] p.1.2.2) : rIts (Old W) W [.slice (some ⟨g, 0, none⟩) ps.length ps.length] (ps.map (·.1)) := by
  refine ⟨some ⟨g, 0, none⟩, ps.length, by rw [List.length_map], by rw [List.length_map]; omega, by omega, fun i x hi => ?_⟩
  rw [List.getElem?_map] at hi
  obtain ⟨p, hp, rfl⟩ := Option.map_eq_some_iff.1 hi
  obtain ⟨h1, h2⟩ := h p (List.mem_of_getElem? hp)
  refine ⟨⟨g, 0, none⟩, cell5 p, rfl, rfl, fun j v hj => ?_, rIt_mk h1 h2⟩
  have hc := cells5_at hp j v hj
  rw [← hcs, Array.getElem?_toList] at hc
  have e : ((⟨g, 0, none⟩ : Addr).add (i * 5 + j)) = ⟨g, i * 5 + j, none⟩ := by unfold Addr.add; split <;> simp_all
  rw [e]
  have hcell : W.cell? ⟨g, i * 5 + j, none⟩ = some v := by
    unfold World.cell?
    simp only [hz]
    exact hc
  exact ⟨World.block_lt_of_cell? _ _ hcell, hcell⟩

end Go.Proofs.YtdaidhbmfocodaaGreat

/-
  Package drop: refer, which counts all Refs of a node in a table of the caller's own. Conditions: those that each lemma states.
-/
namespace Go.Proofs.YtdaidhbmfocodaaGreat
open Go.RowKit

theorem grow_of {a b : World} {row : Option Nat} (h : Below a.heap.size a b) : a.grownBy b row := grow_later (grow_refl a row) h
/-- What lies elsewhere, behind a row's turning. -/
theorem Nod.off {g : Nat} {W W1 : World} {v : Value} {n : Nd} (h : Nod (Off g W) W v n) (gr : W.grownBy W1 (some g)) : Nod (Off g W1) W1 v n := h.map fun _ _ hp hc => off_put gr hp hc

set_option maxRecDepth 100000 in
set_option maxHeartbeats 8000000 in
theorem refer_any (g c lo : Nat) (t0 : List UInt8) (u : Value) (n : Nd) (hn : mayN n = true) (hl0 : t0.length = 256) (w : World) (hown : w.ownsRow lo 5 1 (.slice (some ⟨g, 0, none⟩) 256 c) 256 (u8s t0)) (hu : Nod (Off g w) w u n) :
    Calls Tryz.prog 45 #[.slice (some ⟨g, 0, none⟩) 256 c, u] w fun e w' => e = .returned (.int .i64 (ctE t0 n.2)) ∧ w.grownBy w' (some g) ∧ (ctE t0 n.2 = 0 → w'.ownsRow lo 5 1 (.slice (some ⟨g, 0, none⟩) 256 c) 256 (u8s (ctV t0 n.2))) := by
  obtain ⟨I, ci, rfl, _, _, _, hI⟩ := hu.open
  obtain ⟨lw, hlw⟩ : ∃ q, n.1 = q := ⟨_, rfl⟩
  obtain ⟨l, hl⟩ : ∃ q, n.2 = q := ⟨_, rfl⟩
  obtain ⟨m, hlm⟩ : ∃ q, l.length = q := ⟨_, rfl⟩
  have hrf := Lib.hid (refs_may hn)
  obtain ⟨⟨_, _, s3, _⟩, _⟩ := mayN_of hn
  rw [hl, hlm] at s3 hI
  rw [hl] at hrf ⊢
  rw [hlw, hlm]
  have hg0 : g < w.heap.size := ((hown.lt g rfl).2)
  obtain ⟨w1, hw1, b1, hs1, hB1⟩ := box_pair' w (.int .i64 lw) (.slice I m ci) 57
  have HI := Lib.hid (stab_its _ _ _ _ _ _ (fun _ _ hp hc => off_below (g := g) hB1 hp hc) hI)
  have HO := Lib.hid (own_below hown hB1)
  have GB := Lib.hid (grow_of (row := some g) hB1)
  obtain ⟨p0, p1, _, pg⟩ := two_cells b1
  have hgs : Hid (g ≠ w.heap.size) := Lib.hid (by omega)
  have b1h := Lib.hid b1
  replace hl0 := Lib.hid hl0
  replace hl := Lib.hid hl
  replace hlw := Lib.hid hlw
  replace hlm := Lib.hid hlm
  replace hs1 := Lib.hid hs1
  clear hown hu hI b1 hB1
  go_enter Tryz.func45, Tryz.ntmps45
  go_upto_region 1 with fail
  clear hw1
  go_wp2_with fail
  clear p0 p1
  go_loopw [10] (fun vi wr => ∃ i : Nat, i ≤ m ∧ vi = .int .i64 i ∧ ctE t0 (l.take i) = 0 ∧ wr.ownsRow lo 5 1 (.slice (some ⟨g, 0, none⟩) 256 c) 256 (u8s (ctV t0 (l.take i))) ∧ w1.grownBy wr (some g)) (fun vi _ => m - (intOf vi).toNat)
  case atStart => exact ⟨0, by omega, rfl, rfl, HO.out, grow_refl _ _⟩
  case round =>
    obtain ⟨i, hi, rfl, hE, hown, hgr⟩ := hrel
    have GF := Lib.hid (grow_trans GB.out hgr)
    by_cases hlt : i < m
    case neg =>
      have hlast : Hid (l.take i = l) := Lib.hid (List.take_of_length_le (by rw [hlm.out]; omega))
      have hEl : Hid (ctE t0 l = 0) := Lib.hid (by rw [← hE, hlast.out])
      rw [hlast.out] at hown
      have HO2 := Lib.hid hown
      clear hown hgr hE
      go_wp2_with fail
      go_ret
      exact ⟨ret_int hEl.out.symm, GF.out, fun _ => HO2.out⟩
    obtain ⟨x, hx⟩ : ∃ x, l[i]? = some x := ⟨_, List.getElem?_eq_getElem (by rw [hlm.out]; exact hlt)⟩
    have hsp := Lib.hid (ct_split hE hx)
    have hnx := Lib.hid (ct_next hE hx)
    have hxr := hrf.out x (List.mem_of_getElem? hx)
    have hIr := stab_its _ _ _ _ _ _ (fun _ _ hp hc => off_put (g := g) hgr hp hc) HI.out
    obtain ⟨ad5, E5, ce5, rfl, _, ⟨z0, z1, z2, z3, z4⟩, _⟩ := its_at hIr hx
    clear hIr
    obtain ⟨w5, hw5, y0, y1, y2, y3, y4, hs5, hB5, _⟩ := box_five wr (.int .u8 (x.1.1.toNat : Int)) (.int .u32 x.1.2.1) (.int .u32 x.1.2.2) (.int .i64 x.2.1) (.slice E5 x.2.2.length ce5) 52
    have hown5 := own_below hown hB5
    have hgr5 := Lib.hid (grow_later hgr (hB5.mono hgr.size))
    have GF5 := Lib.hid (grow_trans GB.out hgr5.out)
    replace hs5 := Lib.hid hs5
    have i4 : (0 : Int) ≤ (i : Int) := by omega
    have i5 : (i : Int) < (m : Int) := by omega
    obtain ⟨z, hzz⟩ : ∃ z, x.2.1 = z := ⟨_, rfl⟩
    have hc1 : ∀ T, ctE T (x :: l.drop (i + 1)) = if z = 0 then ctE T (l.drop (i + 1)) else if T[z.toNat]?.getD 0 = 0 then 6 else if T[z.toNat]?.getD 0 = 255 then 70 else ctE (T.set z.toNat (T[z.toNat]?.getD 0 + 1)) (l.drop (i + 1)) := fun T => by rw [← hzz]; rfl
    have hc2 : ∀ T, ctE T [x] = if z = 0 then 0 else if T[z.toNat]?.getD 0 = 0 then 6 else if T[z.toNat]?.getD 0 = 255 then 70 else 0 := fun T => by rw [← hzz]; rfl
    have hc3 : ∀ T, ctV T [x] = if z = 0 then T else T.set z.toNat (T[z.toNat]?.getD 0 + 1) := fun T => by rw [← hzz]; rfl
    rw [hzz] at z3 hxr hw5 y3
    replace hx := Lib.hid hx
    replace hzz := Lib.hid hzz
    obtain ⟨T, hT⟩ : ∃ T, ctV t0 (l.take i) = T := ⟨_, rfl⟩
    have hTl : Hid (T.length = 256) := Lib.hid (by rw [← hT, ctV_len, hl0.out])
    rw [hT] at hown5 hsp hnx
    replace hT := Lib.hid hT
    replace hE := Lib.hid hE
    clear hown hgr hB5
    go_upto_region 4 with fail
    clear hw5 z0 z1 z2 z3 z4
    by_cases hz0 : z = 0
    · have hn1 : Hid (ctE t0 (l.take (i + 1)) = 0 ∧ ctV t0 (l.take (i + 1)) = T) := Lib.hid ⟨by rw [hnx.out.1, hc2, if_pos hz0], by rw [hnx.out.2, hc3, if_pos hz0]⟩
      subst hz0
      have HO := Lib.hid hown5
      clear hc1 hc2 hc3 hxr hown5 hE hsp hnx
      go_wp2_with fail
      go_roundw
      case rel => exact ⟨i + 1, by omega, by go_num, hn1.out.1, by rw [hn1.out.2]; exact HO.out, hgr5.out⟩
      case measure => simp [intOf]; omega
    obtain ⟨r, hr, r8, r256⟩ : ∃ r : Nat, z = r ∧ 8 ≤ r ∧ r < 256 := ⟨z.toNat, by omega, by omega, by omega⟩
    rw [hc1, if_neg hz0, show z.toNat = r by omega] at hsp
    rw [hc2, hc3, if_neg hz0, if_neg hz0, show z.toNat = r by omega] at hnx
    have j3 : (z == 0) = false := by simpa using hz0
    subst hr
    have hcell := own_cell hown5 (j := r) r256
    obtain ⟨y, hy⟩ : ∃ y, T[r]?.getD 0 = y := ⟨_, rfl⟩
    rw [hy] at hsp hnx hcell
    replace hy := Lib.hid hy
    by_cases hy0 : y = 0
    · have t1 := byte_same (y := 0) (q := 0) rfl hy0
      have hEl : Hid (ctE t0 l = 6) := Lib.hid (by rw [hsp.out, if_pos hy0])
      clear hc1 hc2 hc3 hxr hown5 hE hsp hnx hz0
      go_wp2_with fail
      go_ret
      exact ⟨ret_int hEl.out.symm, GF5.out, fun h => by rw [hEl.out] at h; cases h⟩
    have t1 := byte_unlike (y := 0) (q := 0) rfl hy0
    by_cases hy5 : y = 255
    · have t2 := byte_same (y := 255) (q := 255) rfl hy5
      have hEl : Hid (ctE t0 l = 70) := Lib.hid (by rw [hsp.out, if_neg hy0, if_pos hy5])
      clear hc1 hc2 hc3 hxr hown5 hE hsp hnx hz0
      go_wp2_with fail
      go_ret
      exact ⟨ret_int hEl.out.symm, GF5.out, fun h => by rw [hEl.out] at h; cases h⟩
    have t2 := byte_unlike (y := 255) (q := 255) rfl hy5
    have hfr : w5.frozen? ⟨g, r, none⟩ = false := hown5.frozenAt r
    obtain ⟨hu1, hu2, hu3⟩ := up_byte hy5
    have hset := own_set hown5 r (y + 1)
    have hn1 : Hid (ctE t0 (l.take (i + 1)) = 0 ∧ ctV t0 (l.take (i + 1)) = T.set r (y + 1)) := Lib.hid ⟨by rw [hnx.out.1, if_neg hy0, if_neg hy5], hnx.out.2⟩
    rw [← hu1] at hset
    replace hset := Lib.hid hset
    replace hu1 := Lib.hid hu1
    have hgn := Lib.hid (grow_put hgr5.out (p := ⟨g, r, none⟩) rfl (.int .u8 ((y.toNat : Int) + 1)))
    clear hc1 hc2 hc3 hxr hown5 hE hsp hnx hz0
    go_wp2_with fail
    go_roundw
    case rel => exact ⟨i + 1, by omega, by go_num, hn1.out.1, by rw [hn1.out.2]; exact hset.out, hgn.out⟩
    case measure => simp [intOf]; omega
end Go.Proofs.YtdaidhbmfocodaaGreat

/-
  Package drop: Make. Conditions: those that each lemma states.
-/
namespace Go.Proofs.YtdaidhbmfocodaaGreat
open Go.RowKit

theorem mkE_store {s : Rm} {n : Nd} (h : mayR s = false) : mkE s n = 8 := by rw [mkE, h]; rfl
theorem mkE_node {s : Rm} {n : Nd} (h : mayN n = false) : mkE s n = 8 := by rw [mkE, h]; simp

set_option maxRecDepth 100000 in
set_option maxHeartbeats 8000000 in
theorem makeV_any (v u : Value) (s : Rm) (n : Nd) (w : World) (h : Sto (Old w) w v s) (hu : Nod (Old w) w u n) :
    Calls Tryz.prog 22 #[v, u] w fun e w' => ∃ t, e = .returned (.tuple #[t, .int .i64 (mkN s n), .int .i64 (mkE s n)]) ∧ Sto (New w.heap.size w') w' t (mkV s n) ∧ Below w.heap.size w w' := by
  obtain ⟨A, ca, B, cb, N, cn, L, cl, rfl, _⟩ := id h.open
  obtain ⟨I, ci, rfl, _⟩ := id hu.open
  obtain ⟨w1, hw1, f1, fn, f2, hsz, hB⟩ := box_three3 (w := w) (.slice A s.1.1.length ca) (.slice B s.1.2.length cb) (.slice N s.2.1.length cn) (.slice L s.2.2.length cl) (.int .i64 n.1) (.slice I n.2.length ci)
  have H := Lib.hid (h.below hB)
  have U := Lib.hid (hu.below hB)
  clear h hu
  obtain ⟨k0, k1, k2, k3, _, kg⟩ := four_cells f1
  obtain ⟨p0, p1, _, pg⟩ := two_cells fn
  replace hsz := Lib.hid hsz
  replace f2 := Lib.hid f2
  cases hm : mayR s with
  | false =>
    have hE := mkE_store (n := n) hm
    obtain ⟨hN, hV⟩ := mk_no (s := s) (n := n) (by rw [hE]; decide)
    have e1 := chkR_bad hm
    replace hE := Lib.hid hE
    replace hN := Lib.hid hN
    replace hV := Lib.hid hV
    go_enter Tryz.func22, Tryz.ntmps22
    go_upto_region 1 with fail
    clear hw1
    go_wp2_with fail
    with_reducible refine (checkR_any _ s _ H.out).mono ?_
    rintro e w2 ⟨rfl, hb2⟩
    rw [e1]
    have F2 := (hb2.block (w.heap.size + 2) (by rw [hsz.out]; omega)).trans f2.out
    replace hb2 := Lib.hid (hB.trans (hb2.mono hB.size))
    clear k0 k1 k2 k3 kg p0 p1 pg f1 fn hB e1 hm
    obtain ⟨k0, k1, k2, k3, k4, k5⟩ := four_cells F2
    obtain ⟨W9, hW9, g9, gr9, gs9⟩ := put_four (a' := .slice none 0 0) (b' := .slice none 0 0) (c' := .slice none 0 0) (d' := .slice none 0 0) F2
    obtain ⟨n0, n1, n2, n3, _, _⟩ := four_cells g9
    have hB9 := Lib.hid ((hb2).out.grown gr9 (hb2).out.size (fun q e => by cases e; omega))
    replace g9 := Lib.hid g9
    replace F2 := Lib.hid F2
    clear gr9 gs9
    go_wp2_with fail
    refine bodyPost_ret (v := .tuple #[.agg #[.slice none 0 0, .slice none 0 0, .slice none 0 0, .slice none 0 0], .int .i64 0, .int .i64 8]) (by simp [results, Tryz.results22, go_sem, n0, n1, n2, n3]) rfl ?_
    rw [hE.out, hN.out, hV.out]
    exact ⟨_, rfl, sto_empty _ _, hB9.out⟩
  | true =>
  have e1 := chkR_ok hm
  obtain ⟨b, hb⟩ : ∃ b, wrN n = b := ⟨_, rfl⟩
  obtain ⟨q, hq⟩ : ∃ q, chkN n = q := ⟨_, rfl⟩
  replace hb := Lib.hid hb
  replace hq := Lib.hid hq
  have hlen := Lib.hid (mayT_len (mayR_of hm).2.1)
  go_enter Tryz.func22, Tryz.ntmps22
  go_upto_region 1 with fail
  clear hw1
  go_wp2_with fail
  with_reducible refine (checkR_any _ s _ H.out).mono ?_
  rintro e w2 ⟨rfl, hb2⟩
  rw [e1]
  have F1 := (hb2.block w.heap.size kg).trans f1
  have Fn := (hb2.block (w.heap.size + 1) pg).trans fn
  have F2 := (hb2.block (w.heap.size + 2) (by rw [hsz.out]; omega)).trans f2.out
  have H2 := H.out.below hb2
  have U2 := U.out.below hb2
  have s2 : Hid (w.heap.size + 3 ≤ w2.heap.size) := Lib.hid (by have := hb2.size; have := hsz.out; omega)
  have B2 := Lib.hid (hB.trans (hb2.mono hB.size))
  clear k0 k1 k2 k3 kg p0 p1 pg f1 fn hb2 hB f2 e1 H U
  obtain ⟨k0, k1, k2, k3, _, kg⟩ := four_cells F1
  obtain ⟨p0, p1, _, pg⟩ := two_cells Fn
  replace F2 := Lib.hid F2
  replace H2 := Lib.hid H2
  replace U2 := Lib.hid U2
  go_wp2_with fail
  with_reducible refine (nodeWrite_any _ n _ U2.out).mono ?_
  rintro e w3 ⟨u3, rfl, h3, hb3⟩
  rw [hq.out]
  rw [hb.out] at h3
  obtain ⟨E, ce, rfl, _⟩ := id (rBy_open h3)
  have G1 := (hb3.block w.heap.size kg).trans F1
  have Gn := (hb3.block (w.heap.size + 1) pg).trans Fn
  have G2 := (hb3.block (w.heap.size + 2) (by have := s2.out; omega)).trans F2.out
  have H3 := H2.out.below hb3
  have U3 := U2.out.below hb3
  have s3 : Hid (w.heap.size + 3 ≤ w3.heap.size) := Lib.hid (by have := hb3.size; have := s2.out; omega)
  have B3 := Lib.hid (B2.out.trans (hb3.mono B2.out.size))
  have R3 := Lib.hid (stab_by.drop h3)
  clear k0 k1 k2 k3 kg p0 p1 pg F1 Fn hb3 F2 H2 U2 B2 h3 s2
  cases hn : mayN n with
  | false =>
    have hE := mkE_node (s := s) hn
    obtain ⟨hN, hV⟩ := mk_no (s := s) (n := n) (by rw [hE]; decide)
    have hq8 : q = 8 := by rw [← hq.out, chkN, hn]; rfl
    subst hq8
    replace hE := Lib.hid hE
    replace hN := Lib.hid hN
    replace hV := Lib.hid hV
    clear H3 U3 G1 Gn hn hm
    obtain ⟨k0, k1, k2, k3, k4, k5⟩ := four_cells G2
    obtain ⟨W9, hW9, g9, gr9, gs9⟩ := put_four (a' := .slice none 0 0) (b' := .slice none 0 0) (c' := .slice none 0 0) (d' := .slice none 0 0) G2
    obtain ⟨n0, n1, n2, n3, _, _⟩ := four_cells g9
    have hB9 := Lib.hid ((B3).out.grown gr9 (B3).out.size (fun q e => by cases e; omega))
    replace g9 := Lib.hid g9
    replace G2 := Lib.hid G2
    clear gr9 gs9
    go_wp2_with fail
    refine bodyPost_ret (v := .tuple #[.agg #[.slice none 0 0, .slice none 0 0, .slice none 0 0, .slice none 0 0], .int .i64 0, .int .i64 8]) (by simp [results, Tryz.results22, go_sem, n0, n1, n2, n3]) rfl ?_
    rw [hE.out, hN.out, hV.out]
    exact ⟨_, rfl, sto_empty _ _, hB9.out⟩
  | true =>
  have hq0 : q = 0 := by rw [← hq.out, chkN, hn]; rfl
  subst hq0
  have hbk : Hid (blkN n = b) := Lib.hid (by rw [← hb.out, wrN, hn]; rfl)
  have hways := Lib.hid (mk_ways hm hn)
  obtain ⟨k0, k1, k2, k3, _, kg⟩ := four_cells G1
  obtain ⟨p0, p1, _, pg⟩ := two_cells Gn
  replace G2 := Lib.hid G2
  replace H3 := Lib.hid H3
  replace U3 := Lib.hid U3
  go_wp2_with fail
  obtain ⟨_, _, e9, l1, m1, hby⟩ := rBy_byt (B := w3.heap.size) (fun _ h => h) H3.out.parts.2.1
  cases e9
  with_reducible refine (clone_any N s.2.1.length cn s.2.1 (Lib.hid rfl) (by rw [hlen.out]; omega) _ hby).mono ?_
  rintro e w4 ⟨u4, rfl, hu4, hb4⟩
  obtain ⟨g, c2, rfl, hg1, hg2, hg3, hg4⟩ := own_head hu4 (by rw [hlen.out]; omega)
  rw [hlen.out] at hu4 ⊢
  have F1 := (hb4.block w.heap.size kg).trans G1
  have Fn := (hb4.block (w.heap.size + 1) pg).trans Gn
  have F2 := Lib.hid ((hb4.block (w.heap.size + 2) (by have := s3.out; omega)).trans G2.out)
  have H4 := Lib.hid (show Sto (Off g w4) w4 _ s from H3.out.map fun _ _ hp hc => off_low hb4 hg1 hp hc)
  have U4 := Lib.hid (show Nod (Off g w4) w4 _ n from U3.out.map fun _ _ hp hc => off_low hb4 hg1 hp hc)
  have R4 := Lib.hid (show rBy (Off g w4) w4 _ b from stab_by _ _ _ _ _ _ (fun _ _ hp hc => off_low hb4 hg1 hp hc) R3.out)
  have O4 := Lib.hid hu4
  have B4 := Lib.hid (B3.out.trans (hb4.mono B3.out.size))
  have hgw : Hid (w.heap.size + 3 ≤ g) := Lib.hid (by have := s3.out; omega)
  clear k0 k1 k2 k3 kg p0 p1 pg G1 Gn G2 hb4 H3 U3 R3 B3 hby l1 m1 hu4 hg1 s3
  obtain ⟨k0, k1, k2, k3, _, kg⟩ := four_cells F1
  obtain ⟨p0, p1, _, pg⟩ := two_cells Fn
  obtain ⟨r, hr⟩ : ∃ r, ctE s.2.1 n.2 = r := ⟨_, rfl⟩
  go_wp2_with fail
  with_reducible refine (refer_any g c2 w3.heap.size s.2.1 _ n hn hlen.out _ O4.out U4.out).mono ?_
  rintro e w5 ⟨rfl, hgr, hown⟩
  rw [hr] at hown ⊢
  have E1 := (hgr.block w.heap.size kg (by have := hgw.out; simp; omega)).trans F1
  have E3 := (hgr.block (w.heap.size + 2) (by have := F2.out; exact (Array.getElem?_eq_some_iff.1 this).1) (by have := hgw.out; simp; omega)).trans F2.out
  have B5 := Lib.hid (B4.out.grown hgr B4.out.size (fun q e => by cases e; have := hgw.out; omega))
  have H5 := Lib.hid (show Sto (Old w5) w5 _ s from (H4.out.map fun _ _ hp hc => off_put hgr hp hc).map fun _ _ hp hc => off_old hp hc)
  have R5 := Lib.hid (show rBy (Old w5) w5 _ b from stab_by _ _ _ _ _ _ (fun _ _ hp hc => off_old hp hc) (stab_by _ _ _ _ _ _ (fun _ _ hp hc => off_put hgr hp hc) R4.out))
  clear k0 k1 k2 k3 kg p0 p1 pg F1 Fn F2 B4 H4 U4 R4 O4 hgr
  rcases hways.out with ⟨hc, hE, hN, hV⟩ | ⟨hc, hE, hN, hV⟩
  · rw [hr] at hc hE
    have hr1 : (r != 0) = true := by simpa using hc
    replace hE := Lib.hid hE
    replace hN := Lib.hid hN
    replace hV := Lib.hid hV
    replace hr := Lib.hid hr
    clear E1 hown hc hm hn hways
    obtain ⟨k0, k1, k2, k3, k4, k5⟩ := four_cells E3
    obtain ⟨W9, hW9, g9, gr9, gs9⟩ := put_four (a' := .slice none 0 0) (b' := .slice none 0 0) (c' := .slice none 0 0) (d' := .slice none 0 0) E3
    obtain ⟨n0, n1, n2, n3, _, _⟩ := four_cells g9
    have hB9 := Lib.hid ((B5).out.grown gr9 (B5).out.size (fun q e => by cases e; omega))
    replace g9 := Lib.hid g9
    replace E3 := Lib.hid E3
    clear gr9 gs9
    go_wp2_with fail
    refine bodyPost_ret (v := .tuple #[.agg #[.slice none 0 0, .slice none 0 0, .slice none 0 0, .slice none 0 0], .int .i64 0, .int .i64 r]) (by simp [results, Tryz.results22, go_sem, n0, n1, n2, n3]) rfl ?_
    rw [hE.out, hN.out, hV.out]
    exact ⟨_, rfl, sto_empty _ _, hB9.out⟩
  · rw [hr] at hc
    subst hc
    rw [hbk.out] at hE hN hV
    have hctl : (ctV s.2.1 n.2).length = 256 := by rw [ctV_len, hlen.out]
    have T5 : Hid (Sto (Old w5) w5 (.agg #[.slice A s.1.1.length ca, .slice B s.1.2.length cb, .slice (some ⟨g, 0, none⟩) 256 c2, .slice L s.2.2.length cl]) (ctS s n)) := Lib.hid (Sto.mk H5.out.parts.1 (stab_by.drop (own_by (hown rfl))) H5.out.parts.2.2)
    obtain ⟨S, hS⟩ : ∃ S, ctS s n = S := ⟨_, rfl⟩
    rw [hS] at T5 hE hN hV
    obtain ⟨V, hVV⟩ : ∃ V, tkV S b = V := ⟨_, rfl⟩
    obtain ⟨x, hx⟩ : ∃ x, tkN S b = x := ⟨_, rfl⟩
    obtain ⟨y, hy⟩ : ∃ y, tkE S b = y := ⟨_, rfl⟩
    rw [hVV] at hV
    rw [hx] at hN
    rw [hy] at hE
    replace hE := Lib.hid hE
    replace hN := Lib.hid hN
    replace hV := Lib.hid hV
    replace hr := Lib.hid hr
    replace hS := Lib.hid hS
    replace hVV := Lib.hid hVV
    replace hx := Lib.hid hx
    replace hy := Lib.hid hy
    obtain ⟨k0, k1, k2, k3, _, kg⟩ := four_cells E1
    replace E3 := Lib.hid E3
    clear hown hm hn hways hctl
    go_wp2_with fail
    with_reducible refine (takeR_any _ _ S b _ T5.out R5.out).mono ?_
    rintro e w6 ⟨t6, rfl, h6, hb6⟩
    rw [hx.out, hy.out]
    rw [hVV.out] at h6
    obtain ⟨A6, a6, B6, b6, N6, n6, L6, l6, rfl, _⟩ := id h6.open
    have F6 := (hb6.block (w.heap.size + 2) (by exact (Array.getElem?_eq_some_iff.1 E3.out).1)).trans E3.out
    have s6 : Hid (w.heap.size + 2 < w5.heap.size) := Lib.hid (Array.getElem?_eq_some_iff.1 E3.out).1
    obtain ⟨o0, o1, o2, o3, _, _⟩ := four_cells F6
    obtain ⟨W9, hW9, g9, gr9, gs9⟩ := put_four (a' := .slice A6 V.1.1.length a6) (b' := .slice B6 V.1.2.length b6) (c' := .slice N6 V.2.1.length n6) (d' := .slice L6 V.2.2.length l6) F6
    obtain ⟨n0, n1, n2, n3, _, _⟩ := four_cells g9
    have hfin := Lib.hid (show Sto (New w.heap.size W9) W9 _ V from (h6.grown gr9 (fun q e => by cases e; exact s6.out)).new B5.out.size (Below.refl _ _))
    have hB9 := Lib.hid ((B5.out.trans (hb6.mono B5.out.size)).grown gr9 (Nat.le_trans B5.out.size hb6.size) (fun q e => by cases e; omega))
    replace F6 := Lib.hid F6
    replace g9 := Lib.hid g9
    clear gr9 gs9 h6 hb6 k0 k1 k2 k3 kg E1
    go_wp2_with fail
    refine bodyPost_ret (v := .tuple #[.agg #[.slice A6 V.1.1.length a6, .slice B6 V.1.2.length b6, .slice N6 V.2.1.length n6, .slice L6 V.2.2.length l6], .int .i64 x, .int .i64 y]) (by simp [results, Tryz.results22, go_sem, n0, n1, n2, n3]) rfl ?_
    rw [hE.out, hN.out, hV.out]
    exact ⟨_, rfl, hfin.out, hB9.out⟩
end Go.Proofs.YtdaidhbmfocodaaGreat

/-
  Layer 9: the contracts as laws want them; the laws' alive. Conditions: those that each lemma states.
-/
namespace Go.Proofs.YtdaidhbmfocodaaGreat
open Go.RowKit

theorem makeV_open (v u : Value) (s : Rm) (n : Nd) (w : World) (h : Sto (Old w) w v s) (hu : Nod (Old w) w u n) :
    Calls Tryz.prog 22 #[v, u] w fun e W' => ∃ A ca B cb N cn L cl, e = .returned (.tuple #[.agg #[.slice A (mkV s n).1.1.length ca, .slice B (mkV s n).1.2.length cb, .slice N (mkV s n).2.1.length cn, .slice L (mkV s n).2.2.length cl], .int .i64 (mkN s n), .int .i64 (mkE s n)]) ∧
      Sto (New w.heap.size W') W' (.agg #[.slice A (mkV s n).1.1.length ca, .slice B (mkV s n).1.2.length cb, .slice N (mkV s n).2.1.length cn, .slice L (mkV s n).2.2.length cl]) (mkV s n) ∧ Below w.heap.size w W' := by
  refine (makeV_any v u s n w h hu).mono ?_
  rintro e W' ⟨t, rfl, ht, hb⟩
  obtain ⟨A, ca, B, cb, N, cn, L, cl, rfl, _⟩ := id ht.open
  exact ⟨A, ca, B, cb, N, cn, L, cl, rfl, ht, hb⟩
end Go.Proofs.YtdaidhbmfocodaaGreat
