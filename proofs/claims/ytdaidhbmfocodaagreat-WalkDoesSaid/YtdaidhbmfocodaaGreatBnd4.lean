/-
  Lemmas on the program and on the document's answers, gathered: RmTwin, DrRefer, WkTold, WkWalk, WkOrd, WkPush, FnHeld, FnChain, FnEnds, FnStands, WkIter, WkRange, WkLay, WkRise, WkBits, WkItems, WkBetween, WkMarker, WkMarks2, WkMarked, WkSets, WkNodes. Conditions: those that each lemma states.
-/
import Derived.Test.YtdaidhbmfocodaaGreatBnd3
import Derived.Test.YtdaidhbmfocodaaGreatProg
import Derived.RangeFuncNested
import Derived.Shelf.SlIterI.Keys
import Derived.Shelf.SlIterI.Stops
import Derived.Shelf.SlIterI.Sorted
import Derived.Shelf.SortM.Plain
import Derived.Shelf.SortM.SortNone
import Derived.Maps.OwnSet
import Derived.Deep.CutRange
import Derived.Maps.OwnIn
import Derived.Stop.RegionWithIn
/-
  Layer 8: package room's Twin, and the document's. Conditions: those that each lemma states.
-/
namespace Go.Proofs.YtdaidhbmfocodaaGreat
open Go.RowKit

def SmallR (s : Rm) : Prop := Small s.1 ∧ s.2.1.length ≤ 10000 ∧ s.2.2.length ≤ 10000
theorem smallR_of_great {s : Rm} (h : greatR s = false) : SmallR s := by
  obtain ⟨h1, h2, h3⟩ := greatR_of h
  exact ⟨small_of_great h1, h2, h3⟩
/-- What stands in a box that is filled last. -/
theorem sto_fin {lo : Nat} {w1 W W9 : World} {P Q N L : Value} {s : Rm} {g : Nat} (hd : Dsk (New w1.heap.size W) W (.agg #[P, Q]) s.1) (hn : rBy (New w1.heap.size W) W [N] s.2.1) (hl : rBy (New w1.heap.size W) W [L] s.2.2) (hg : g < w1.heap.size) (hlo : lo ≤ w1.heap.size) (gr : W.grownBy W9 (some g)) : Sto (New lo W9) W9 (.agg #[P, Q, N, L]) s :=
  Sto.mk ((hd.grown gr (fun q e => by cases e; exact hg)).new hlo (Below.refl _ _)) (stab_by.new (stab_by.grown hn gr (fun q e => by cases e; exact hg)) hlo (Below.refl _ _)) (stab_by.new (stab_by.grown hl gr (fun q e => by cases e; exact hg)) hlo (Below.refl _ _))

set_option maxRecDepth 100000 in
set_option maxHeartbeats 4000000 in
theorem refTwinR_any (v : Value) (s : Rm) (hsm : SmallR s) (w : World) (h : Sto (Old w) w v s) :
    Calls Tryz.prog 13 #[v] w fun e w' => ∃ A ca B cb N cn L cl, e = .returned (.agg #[.slice A s.1.1.length ca, .slice B s.1.2.length cb, .slice N s.2.1.length cn, .slice L s.2.2.length cl]) ∧ Sto (New w.heap.size w') w' (.agg #[.slice A s.1.1.length ca, .slice B s.1.2.length cb, .slice N s.2.1.length cn, .slice L s.2.2.length cl]) s ∧ Below w.heap.size w w' := by
  obtain ⟨A, ca, B, cb, N, cn, L, cl, w1, rfl, hw1, f1, f2, hsz, hB, H⟩ := box_sto2 h
  clear h
  obtain ⟨m0, m1, m2, m3, _, mg⟩ := four_cells f1
  replace hsz := Lib.hid hsz
  replace f1 := Lib.hid f1
  replace f2 := Lib.hid f2
  replace hsm := Lib.hid hsm
  go_enter Tryz.func13, Tryz.ntmps13
  go_upto_region 1 with fail
  clear hw1
  refine wp_region_tails (by kernel_rfl) 10 (fun W => Below w1.heap.size w1 W) (fun i => match i with
      | 2 => some (fun v W => Dsk (New w1.heap.size W) W v s.1)
      | 5 => some (fun v W => rBy (New w1.heap.size W) W [v] s.2.1)
      | 8 => some (fun v W => rBy (New w1.heap.size W) W [v] s.2.2)
      | 9 => some (fun v W => ∃ P p Q r Y y X x, v = .agg #[.slice P s.1.1.length p, .slice Q s.1.2.length r, .slice Y s.2.1.length y, .slice X s.2.2.length x] ∧ Dsk (New w1.heap.size W) W (.agg #[.slice P s.1.1.length p, .slice Q s.1.2.length r]) s.1 ∧ rBy (New w1.heap.size W) W [.slice Y s.2.1.length y] s.2.1 ∧ rBy (New w1.heap.size W) W [.slice X s.2.2.length x] s.2.2)
      | _ => none) (fun _ => none) (by decide) (by kernel_rfl) (by kernel_rfl) (Below.refl _ _).drew (fun w w' h hb => h.trans (hb.mono h.size)) ?tst ?_
  case tst =>
    intro j φ x W W' hp hx hb
    match j, hp with
    | 2, hp => cases hp; exact hx.new (Nat.le_refl _) hb
    | 5, hp => cases hp; exact stab_by.new hx (Nat.le_refl _) hb
    | 8, hp => cases hp; exact stab_by.new hx (Nat.le_refl _) hb
    | 9, hp =>
      cases hp
      obtain ⟨P, p, Q, r, Y, y, X, x, e1, e2, e3, e4⟩ := hx
      exact ⟨P, p, Q, r, Y, y, X, x, e1, e2.new (Nat.le_refl _) hb, stab_by.new e3 (Nat.le_refl _) hb, stab_by.new e4 (Nat.le_refl _) hb⟩
  simp only [List.take_succ_cons, List.take_zero, List.drop_succ_cons, List.drop_zero]
  repeat (first
    | (refine wpAs_skip rfl ?_; simp only [Act.put, List.setIfInBounds_toArray, List.set_cons_zero, List.set_cons_succ])
    | (refine wpAs_pure (v := ?_) rfl rfl ?_ ?_; rotate_left; (intro W hC hE; clear hE; (have z0 := (hC.cell (p := ⟨w.heap.size, 0, none⟩) mg).trans m0; have z1 := (hC.cell (p := ⟨w.heap.size, 1, none⟩) mg).trans m1); clear hC; go_simp; done); simp only [Act.put, List.setIfInBounds_toArray, List.set_cons_zero, List.set_cons_succ])
    | (refine wpAs_pure (v := ?_) rfl rfl ?_ ?_; rotate_left; (intro W hC hE; clear hE; (have z0 := (hC.cell (p := ⟨w.heap.size, 0, none⟩) mg).trans m0; have z1 := (hC.cell (p := ⟨w.heap.size, 1, none⟩) mg).trans m1); clear hC; go_simp; with_reducible rfl); simp only [Act.put, List.setIfInBounds_toArray, List.set_cons_zero, List.set_cons_succ]))
  refine wpAs_act rfl rfl ?_ ?_
  · intro W hC hE
    clear hE
    refine does_enter (f := 28) (args := #[.agg #[.slice A s.1.1.length ca, .slice B s.1.2.length cb]]) ?_ ?_
    · go_simp
    · refine (refTwin_any _ s.1 W hsm.out.1 (H.out.below hC).parts.1).mono ?_
      rintro e W' ⟨u, rfl, hu, hb⟩
      exact ⟨_, rfl, hu.new hC.size (Below.refl _ _), hb⟩
  simp only [Act.put, List.setIfInBounds_toArray, List.set_cons_zero, List.set_cons_succ, envAdd]
  intro x5
  repeat (first
    | (refine wpAs_skip rfl ?_; simp only [Act.put, List.setIfInBounds_toArray, List.set_cons_zero, List.set_cons_succ])
    | (refine wpAs_pure (v := ?_) rfl rfl ?_ ?_; rotate_left; (intro W hC hE; clear hE; (have z2 := (hC.cell (p := ⟨w.heap.size, 2, none⟩) mg).trans m2); clear hC; go_simp; done); simp only [Act.put, List.setIfInBounds_toArray, List.set_cons_zero, List.set_cons_succ])
    | (refine wpAs_pure (v := ?_) rfl rfl ?_ ?_; rotate_left; (intro W hC hE; clear hE; (have z2 := (hC.cell (p := ⟨w.heap.size, 2, none⟩) mg).trans m2); clear hC; go_simp; with_reducible rfl); simp only [Act.put, List.setIfInBounds_toArray, List.set_cons_zero, List.set_cons_succ]))
  refine wpAs_act rfl rfl ?_ ?_
  · intro W hC hE
    clear hE
    obtain ⟨v', W', hr, hy, hb⟩ := app_copy (.slice N s.2.1.length cn) s.2.1 W (by have := hsm.out.2.1; omega) (H.out.below hC).parts.2.1
    exact does_append _ _ _ rfl rfl rfl hr ⟨stab_by.new hy hC.size (Below.refl _ _), hb⟩
  simp only [Act.put, List.setIfInBounds_toArray, List.set_cons_zero, List.set_cons_succ, envAdd]
  intro x8
  repeat (first
    | (refine wpAs_skip rfl ?_; simp only [Act.put, List.setIfInBounds_toArray, List.set_cons_zero, List.set_cons_succ])
    | (refine wpAs_pure (v := ?_) rfl rfl ?_ ?_; rotate_left; (intro W hC hE; clear hE; (have z3 := (hC.cell (p := ⟨w.heap.size, 3, none⟩) mg).trans m3); clear hC; go_simp; done); simp only [Act.put, List.setIfInBounds_toArray, List.set_cons_zero, List.set_cons_succ])
    | (refine wpAs_pure (v := ?_) rfl rfl ?_ ?_; rotate_left; (intro W hC hE; clear hE; (have z3 := (hC.cell (p := ⟨w.heap.size, 3, none⟩) mg).trans m3); clear hC; go_simp; with_reducible rfl); simp only [Act.put, List.setIfInBounds_toArray, List.set_cons_zero, List.set_cons_succ]))
  refine wpAs_act rfl rfl ?_ ?_
  · intro W hC hE
    clear hE
    obtain ⟨v', W', hr, hy, hb⟩ := app_copy (.slice L s.2.2.length cl) s.2.2 W (by have := hsm.out.2.2; omega) (H.out.below hC).parts.2.2
    exact does_append _ _ _ rfl rfl rfl hr ⟨stab_by.new hy hC.size (Below.refl _ _), hb⟩
  simp only [Act.put, List.setIfInBounds_toArray, List.set_cons_zero, List.set_cons_succ, envAdd]
  intro x11
  refine wpAs_act rfl rfl ?_ ?_
  · intro W hC hE
    have h11 := hE.1 rfl
    have h8 := hE.2.1 rfl
    have h5 := hE.2.2.1 rfl
    obtain ⟨X, x, rfl, _⟩ := rBy_open h11
    obtain ⟨Y, y, rfl, _⟩ := rBy_open h8
    obtain ⟨P, p, Q, r, rfl, _⟩ := h5.open
    have h11' := Lib.hid h11
    have h8' := Lib.hid h8
    have h5' := Lib.hid h5
    clear hE hC h11 h8 h5
    go_simp
    exact ⟨⟨P, p, Q, r, Y, y, X, x, rfl, h5'.out, h8'.out, h11'.out⟩, Below.refl _ _⟩
  simp only [Act.put, List.setIfInBounds_toArray, List.set_cons_zero, List.set_cons_succ, envAdd]
  intro x12
  refine wpAs_end fun W hC hE => ?_
  obtain ⟨⟨P, p, Q, r, Y, y, X, x, rfl, hd, hn, hl⟩, _⟩ := hE
  have bW := (hC.block (w.heap.size + 1) (by rw [hsz.out]; omega)).trans f2.out
  obtain ⟨c0, c1, c2, c3, c4, c5⟩ := four_cells bW
  obtain ⟨W9, hW9, g9, gr9, gs9⟩ := put_four (a' := .slice P s.1.1.length p) (b' := .slice Q s.1.2.length r) (c' := .slice Y s.2.1.length y) (d' := .slice X s.2.2.length x) bW
  obtain ⟨n0, n1, n2, n3, _, _⟩ := four_cells g9
  have BW := hB.trans (hC.mono hB.size)
  have hfin := Lib.hid (sto_fin (lo := w.heap.size) hd hn hl (by rw [hsz.out]; omega) hB.size gr9)
  have hB9 := Lib.hid (BW.grown gr9 BW.size (fun q e => by cases e; omega))
  clear hd hn hl gr9 gs9 BW hC
  replace bW := Lib.hid bW
  replace g9 := Lib.hid g9
  go_wp2_with fail
  refine bodyPost_ret (v := .agg #[.slice P s.1.1.length p, .slice Q s.1.2.length r, .slice Y s.2.1.length y, .slice X s.2.2.length x]) (by simp [results, Tryz.results13, go_sem, n0, n1, n2, n3]) rfl ?_
  exact ⟨_, _, _, _, _, _, _, _, rfl, hfin.out, hB9.out⟩
end Go.Proofs.YtdaidhbmfocodaaGreat

/-
  Package drop: refer, which counts all Refs of a node in a table of the caller's own. Conditions: those that each lemma states.
-/
namespace Go.Proofs.YtdaidhbmfocodaaGreat
open Go.RowKit

/-- What lies elsewhere, behind a row's turning. -/
theorem Nod.off {g : Nat} {W W1 : World} {v : Value} {n : Nd} (h : Nod (Off g W) W v n) (gr : W.grownBy W1 (some g)) : Nod (Off g W1) W1 v n := h.map fun _ _ hp hc => off_put gr hp hc

end Go.Proofs.YtdaidhbmfocodaaGreat

/-
  A range over a function whose rounds are told of what they are handed. Conditions: those that each lemma states.
-/
namespace Go.Proofs.YtdaidhbmfocodaaGreat
open Go.RowKit

/-! ### What a round keeps -/
/-- All blocks stay but for those of M, and but for one row; and that row is not taken among the others. -/
structure Kept (M : Nat → Prop) (o o' : Option Nat) (W W' : World) : Prop where
  size : W.heap.size ≤ W'.heap.size
  same : ∀ k, k < W.heap.size → ¬ M k → o ≠ some k → W'.heap[k]? = W.heap[k]? ∧ o' ≠ some k
theorem Kept.refl (M : Nat → Prop) (o : Option Nat) (W : World) : Kept M o o W W := ⟨Nat.le_refl _, fun _ _ _ h => ⟨rfl, h⟩⟩
theorem Kept.trans {M : Nat → Prop} {o o' q : Option Nat} {A B C : World} (h : Kept M o o' A B) (h' : Kept M o' q B C) : Kept M o q A C :=
  ⟨Nat.le_trans h.size h'.size, fun k hk hm ho => by
    obtain ⟨e, n⟩ := h.same k hk hm ho
    obtain ⟨e', n'⟩ := h'.same k (Nat.lt_of_lt_of_le hk h.size) hm n
    exact ⟨e'.trans e, n'⟩⟩
/-- One block of a world is turned that is one of M, or that row; or none. -/
theorem Kept.grown {M : Nat → Prop} {o q : Option Nat} {A B C : World} {row : Option Nat} (h : Kept M o q A B) (hg : B.grownBy C row) (hr : ∀ r, row = some r → A.heap.size ≤ r ∨ M r) : Kept M o q A C :=
  ⟨Nat.le_trans h.size hg.size, fun k hk hm ho => by
    obtain ⟨e, n⟩ := h.same k hk hm ho
    refine ⟨(hg.block k (Nat.lt_of_lt_of_le hk h.size) (fun e' => ?_)).trans e, n⟩
    rcases hr k e'.symm with h1 | h1
    · omega
    · exact hm h1⟩
theorem Kept.wide {M M' : Nat → Prop} {o q : Option Nat} {A B : World} (h : Kept M o q A B) (hM : ∀ k, k < A.heap.size → M k → M' k) : Kept M' o q A B :=
  ⟨h.size, fun k hk hm ho => h.same k hk (fun h1 => hm (hM k hk h1)) ho⟩
/-- That row is turned, or laid anew. -/
theorem Kept.row {M : Nat → Prop} {o q : Option Nat} {A B : World} {row : Option Nat} (hg : A.grownBy B row) (hr : ∀ r, row = some r → o = some r ∨ M r) (hq : ∀ r, q = some r → o = some r ∨ M r ∨ A.heap.size ≤ r) : Kept M o q A B :=
  ⟨hg.size, fun k hk hm ho => ⟨hg.block k hk (fun e => by
    rcases hr k e.symm with h | h
    · exact ho h
    · exact hm h), fun e => by
    rcases hq k e with h | h | h
    · exact ho h
    · exact hm h
    · omega⟩⟩
theorem Kept.cell {M : Nat → Prop} {o q : Option Nat} {A B : World} (h : Kept M o q A B) {p : Addr} (hp : p.block < A.heap.size) (hm : ¬ M p.block) (ho : o ≠ some p.block) : B.cell? p = A.cell? p := World.cell?_of_block (h.same _ hp hm ho).1
theorem ownFrom_kept {M : Nat → Prop} {o : Option Nat} {A : World} {B : Nat} {α : Type} (hB : A.heap.size ≤ B) : OwnFrom B (fun (s : α × Option Nat) W => Kept M o s.2 A W) :=
  fun _ _ _ _ hs hg hr => hs.grown hg fun r e => .inl (Nat.le_trans hB (hr r e).1)
theorem below_grown {W W' : World} (h : Below W.heap.size W W') : W.grownBy W' none := ⟨h.os, h.tape, h.output, h.size, fun k hk _ => h.block k hk⟩
theorem Kept.below {M : Nat → Prop} {o : Option Nat} {W W' : World} (h : Below W.heap.size W W') : Kept M o o W W' := ⟨h.size, fun k hk _ ho => ⟨h.block k hk, ho⟩⟩

/-! ### What a function that is ranged over tells -/
/-- What a round ends in. -/
def RoundE {α : Type} (M : Nat → Prop) (J Jx : List α × Option Nat → World → Prop) (xs : List α) (o : Option Nat) (W : World) : Ending → World → Prop := fun e W' =>
  ∃ o', Kept M o o' W W' ∧ ((e = .returned (.bool true) ∧ J (xs, o') W') ∨ (e = .returned (.bool false) ∧ Jx (xs, o') W'))
/-- A function that is ranged over: whatever the rounds keep of their own, each is told (T) of what it is handed. -/
def Told {α : Type} (P : Program) (g : Nat) (lb : Array Value) (encs : α → Array Value) (T : Nat → List α → α → Option Nat → World → Prop) (End : List α → Prop) (Z : Nat → Prop) (w : World) : Prop :=
  ∀ (l : Nat) (M : Nat → Prop) (J Jx : List α × Option Nat → World → Prop) (o : Option Nat) (W : World), Below w.heap.size w W → OwnFrom W.heap.size J → OwnFrom W.heap.size Jx →
    (∀ k, M k → k < W.heap.size) → (∀ s W1, J s W1 → W.heap.size ≤ W1.heap.size ∧ ∀ k, s.2 = some k → k < W1.heap.size) → (∀ k, Z k → ¬ M k ∧ o ≠ some k) →
    (∀ pre q x W1, J (pre, q) W1 → T W.heap.size pre x q W1 → YieldAt Fence.wide 0 P l (encs x) W1 (RoundE M J Jx (pre ++ [x]) q W1)) →
    J ([], o) W → Calls P g (#[.func (.yield l) #[] #[]] ++ lb) W fun e W' => (∃ v, e = .returned v) ∧ ((∃ xs q, End xs ∧ J (xs, q) W') ∨ (∃ pre q, Jx (pre, q) W'))

/-- A round asks for no room at the wide fence. -/
theorem round_any {P : Program} {l f l' m : Nat} {tmps : Array Value} {assign body : Code} {w : World} {R : Ending → World → Prop} (h : RoundIn Fence.wide 0 P l f tmps assign body w R) : RoundIn (Fence.wide.inRound l') m P l f tmps assign body w R :=
  ⟨h.1, fun c cs _ => h.2 c cs (room_wide _)⟩
theorem round_wide {P : Program} {l f m : Nat} {tmps : Array Value} {assign body : Code} {w : World} {R : Ending → World → Prop} (h : RoundIn Fence.wide 0 P l f tmps assign body w R) : RoundIn Fence.wide m P l f tmps assign body w R :=
  ⟨h.1, fun c cs _ => h.2 c cs (room_wide _)⟩

/-- How the body of a round may be left. -/
def toldPost {α : Type} (M : Nat → Prop) (I : List α × Option Nat → World → Prop) (Ix : Code → List α × Option Nat → World → Prop) (xs : List α) (o : Option Nat) (W : World) : Exit → Act → World → Prop
  | .normal, _, W' => ∃ q, Kept M o q W W' ∧ I (xs, q) W'
  | .ret, _, W' => ∃ q, Kept M o q W W' ∧ Ix .ret (xs, q) W'
  | .exit id, _, W' => ∃ q, Kept M o q W W' ∧ Ix (.exit id) (xs, q) W'
  | .goto t, _, W' => ∃ q, Kept M o q W W' ∧ Ix (.goto t) (xs, q) W'
  | .panic _, _, _ => False
  | .outgrown, _, _ => False

/-- The end of a round: its loop's record is turned, and all else stays. -/
theorem round_end {α : Type} {P : Program} {M : Nat → Prop} {I J Jx : List α × Option Nat → World → Prop} {B D L : Nat} {rec : LoopState → Option Code → Loop} (hrec : ∀ s c, { rec s c with state := .ready, pending := none } = rec .ready none ∧ ∀ s' c', { rec s c with state := s', pending := c' } = rec s' c')
    {W W' : World} {xs : List α} {o q : Option Nat} (jump : Option Code) (hL : W.heap[L]? = some (.loop (rec .busy none))) (hD : W.heap[D]? = some (.deferred (some []))) (hDL : D ≠ L) (hBL : B ≤ L) (hML : ¬ M L) (hMD : ¬ M D) (hoL : o ≠ some L) (hoD : o ≠ some D)
    (hk : Kept M o q W W') (hI : OwnFrom B I) (hi : I (xs, q) W')
    (hfin : ∀ W2, I (xs, q) W2 → W2.heap[L]? = some (.loop (rec (if jump.isNone then .ready else .done) jump)) → W2.heap[D]? = some (.deferred (some [])) → q ≠ some L → q ≠ some D → if jump.isNone then J (xs, q) W2 else Jx (xs, q) W2) :
    ∃ v W2, (Instr.endRound L jump).run P W' = .ok v W2 ∧ Kept (fun k => M k ∨ k = L) o q W W2 ∧ ((v = .bool true ∧ J (xs, q) W2) ∨ (v = .bool false ∧ Jx (xs, q) W2)) := by
  obtain ⟨e1, n1⟩ := hk.same L (Array.getElem?_eq_some_iff.1 hL).1 hML hoL
  obtain ⟨e2, n2⟩ := hk.same D (Array.getElem?_eq_some_iff.1 hD).1 hMD hoD
  have hL3 := e1.trans hL
  have hD3 := e2.trans hD
  have hrun := run_endRound (P := P) jump hL3
  rw [(hrec .busy none).2] at hrun
  have hf := hfin _ (hI.putObj (.loop (rec (if jump.isNone then .ready else .done) jump)) hi hBL hL3 rfl) (World.putObj_heap_same (Array.getElem?_eq_some_iff.1 hL3).1) ((World.putObj_heap_other hDL).trans hD3) n1 n2
  refine ⟨_, _, hrun, ?_, ?_⟩
  · exact (hk.wide fun _ _ h => .inl h).grown (grownBy_putObj' _ _ _) fun r e => by cases e; exact .inr (.inr rfl)
  · cases jump with
    | none => exact .inl ⟨rfl, by simpa using hf⟩
    | some c => exact .inr ⟨rfl, by simpa using hf⟩

set_option maxHeartbeats 1000000 in
/-- The statement: an invariant of one's own (I), where a round leaves (Ix), and one walk of the body. -/
theorem range_told {α : Type} {P : Program} {g : Operand} {ps : Array Tmp} {assign body : Code} {Q : Exit → Act → World → Prop} {a : Act} {w : World} {m : Nat} {gf : Nat} {lb : Array Value}
    (hg : a.eval g = .func (.func gf) #[] lb) (eg : ∀ args w, (callFunc gf args).run P w = .ok (.enter gf args) w)
    {encs : α → Array Value} {T : Nat → List α → α → Option Nat → World → Prop} {End : List α → Prop} {Z : Nat → Prop} (hseq : Told P gf lb encs T End Z w) (hps : ∀ x, (encs x).size = ps.size)
    (M : Nat → Prop) (hM : ∀ k, M k → k < w.heap.size) (o : Option Nat) (hZ : ∀ k, Z k → k < w.heap.size ∧ ¬ M k ∧ o ≠ some k)
    (I : List α × Option Nat → World → Prop) (Ix : Code → List α × Option Nat → World → Prop) (hI : OwnFrom w.heap.size I) (hIx : ∀ c, OwnFrom w.heap.size (Ix c)) (hIo : ∀ s W, I s W → ∀ k, s.2 = some k → k < W.heap.size) (h0 : I ([], o) w)
    (Ax : α → Act → World → Prop) (hAx : ∀ x a', OwnFrom w.heap.size (fun (_ : Unit) W => Ax x a' W)) (hT : ∀ pre x q, OwnFrom w.heap.size (fun (_ : Unit) W => T (w.heap.size + 2) pre x q W))
    (hassign : ∀ (l : Nat) (pre : List α) (q : Option Nat) (x : α) (W : World) (K : Act → World → Prop), I (pre, q) W → T (w.heap.size + 2) pre x q W → (∀ a' W', W.grownBy W' none → Ax x a' W' → K a' W') →
      assign.wpIn (Fence.wide.inRound l) 0 P (Exit.then K (fun _ _ _ => False)) { tmps := (ps.zip (encs x)).foldl (fun t (p, v) => t.setIfInBounds p v) a.tmps, defers := [] } W)
    (hbody : ∀ (l : Nat) (pre : List α) (q : Option Nat) (x : α) (a' : Act) (W : World), w.heap.size + 2 ≤ W.heap.size → I (pre, q) W → Ax x a' W → T (w.heap.size + 2) pre x q W → body.wpIn (Fence.wide.inRound l) 0 P (toldPost M I Ix (pre ++ [x]) q W) a' W)
    (hdone : ∀ (xs : List α) (q : Option Nat) (W : World), w.heap.size < W.heap.size → End xs → I (xs, q) W → W.heap[w.heap.size]? = some (.deferred (some [])) → q ≠ some w.heap.size → Q .normal { a with defers := { target := .collected w.heap.size, args := #[] } :: a.defers } W)
    (hstop : ∀ (c : Code) (pre : List α) (q : Option Nat) (W : World), w.heap.size < W.heap.size → Ix c (pre, q) W → W.heap[w.heap.size]? = some (.deferred (some [])) → q ≠ some w.heap.size → c.wpIn Fence.wide m P Q { a with defers := { target := .collected w.heap.size, args := #[] } :: a.defers } W) :
    (Code.rangeFunc g ps assign body).wpIn Fence.wide m P Q a w := by
  refine wpIn_rangeFunc fun fn hfn => ?_
  obtain ⟨rec, hrec⟩ : ∃ rec : LoopState → Option Code → Loop, rec = fun st pe => { state := st, pending := pe, fn, tmps := a.tmps, params := ps, assign, body, defers := w.heap.size } := ⟨_, rfl⟩
  have hrec' : ∀ s c, { rec s c with state := .ready, pending := none } = rec .ready none ∧ ∀ s' c', { rec s c with state := s', pending := c' } = rec s' c' := fun s c => by rw [hrec]; exact ⟨rfl, fun _ _ => rfl⟩
  obtain ⟨D, hDe⟩ : ∃ D, w.heap.size = D := ⟨_, rfl⟩
  obtain ⟨V, hV⟩ : ∃ V, (w.alloc (.deferred (some []))).alloc (.loop (rec .ready none)) = V := ⟨_, rfl⟩
  have hVs : V.heap.size = D + 2 := by rw [← hV, ← hDe]; simp
  have hVL : V.heap[D + 1]? = some (.loop (rec .ready none)) := by
    rw [← hV, ← hDe]
    have := World.alloc_heap_new (w.alloc (.deferred (some []))) (.loop (rec .ready none))
    rwa [World.size_alloc] at this
  have hVD : V.heap[D]? = some (.deferred (some [])) := by
    rw [← hV, ← hDe]
    exact (Below.heap_alloc _ _ _ (by simp)).trans (World.alloc_heap_new w _)
  have hVb : Below w.heap.size w V := by rw [← hV]; exact ((Below.refl _ w).alloc (Nat.le_refl _) _).alloc (by simp) _
  have hVI : I ([], o) V := by rw [← hV]; exact hI.alloc _ (hI.alloc _ h0)
  have hoD : o ≠ some D ∧ o ≠ some (D + 1) := ⟨fun e => by have := hIo _ _ h0 D e; omega, fun e => by have := hIo _ _ h0 (D + 1) e; omega⟩
  have hMD : ¬ M D ∧ ¬ M (D + 1) := ⟨fun e => by have := hM _ e; omega, fun e => by have := hM _ e; omega⟩
  have hnw : ∀ {A : World} {row : Option Nat}, (∀ r, row = some r → V.heap.size ≤ r ∧ ∃ o : Obj, A.heap[r]? = some o ∧ o.isCells = false) → ∀ r, row = some r → w.heap.size ≤ r ∧ ∃ o : Obj, A.heap[r]? = some o ∧ o.isCells = false :=
    fun hr r e => ⟨by have := (hr r e).1; omega, (hr r e).2⟩
  have hkeep : ∀ {A B : World} {row : Option Nat} {k : Nat} {x : Obj}, A.grownBy B row → (∀ r, row = some r → V.heap.size ≤ r ∧ ∃ o : Obj, A.heap[r]? = some o ∧ o.isCells = false) → k < D + 2 → A.heap[k]? = some x → B.heap[k]? = some x := fun {A B row k x} hg' hr hk hx =>
    (hg'.block k (Array.getElem?_eq_some_iff.1 hx).1 (fun e => by have := (hr k e.symm).1; omega)).trans hx
  refine ⟨D + 1, [{ target := .collected D, args := #[] }], V, { target := .fn (.func gf) lb, args := #[.func (.yield (D + 1)) #[] #[]] }, V, gf, #[.func (.yield (D + 1)) #[] #[]] ++ lb, V, ?_, ?_, fun _ _ => trivial, ?_, fun h => (by cases h), ?_⟩
  · rw [← hV, hrec, ← hDe]
    exact run_enterLoop_outer _ _ _ _ _
  · simp only [resolve, hg]
    simp [go_sem]
  · simp [invoke, go_sem, eg]
  refine callsIn_wide.2 ((hseq (D + 1) (fun k => M k ∨ k = D + 1)
    (fun s W => (I s W ∧ V.heap.size ≤ W.heap.size) ∧ (W.heap[D + 1]? = some (.loop (rec .ready none)) ∧ W.heap[D]? = some (.deferred (some []))) ∧ s.2 ≠ some (D + 1) ∧ s.2 ≠ some D)
    (fun s W => ∃ c, (Ix c s W ∧ V.heap.size ≤ W.heap.size) ∧ (W.heap[D + 1]? = some (.loop (rec .done (some c))) ∧ W.heap[D]? = some (.deferred (some []))) ∧ s.2 ≠ some (D + 1) ∧ s.2 ≠ some D) o V hVb ?_ ?_ ?_ ?_ ?_ ?_ ⟨⟨hVI, Nat.le_refl _⟩, ⟨hVL, hVD⟩, hoD.2, hoD.1⟩).mono ?_)
  · intro s A B row hs hg' hr
    exact ⟨⟨hI s A B row hs.1.1 hg' (hnw hr), Nat.le_trans hs.1.2 hg'.size⟩, ⟨hkeep hg' hr (by omega) hs.2.1.1, hkeep hg' hr (by omega) hs.2.1.2⟩, hs.2.2⟩
  · rintro s A B row ⟨c, hs⟩ hg' hr
    exact ⟨c, ⟨hIx c s A B row hs.1.1 hg' (hnw hr), Nat.le_trans hs.1.2 hg'.size⟩, ⟨hkeep hg' hr (by omega) hs.2.1.1, hkeep hg' hr (by omega) hs.2.1.2⟩, hs.2.2⟩
  · rintro k (h | h)
    · have := hM k h
      omega
    · omega
  · intro s W1 hs
    exact ⟨hs.1.2, hIo s W1 hs.1.1⟩
  · intro k hk
    obtain ⟨h1, h2, h3⟩ := hZ k hk
    exact ⟨fun h => h.elim h2 fun e => by omega, h3⟩
  · -- one round
    rintro pre q x W ⟨⟨hi, hsz⟩, ⟨hl, hd⟩, nL, nD⟩ htold
    rw [hVs] at htold hsz
    rw [← hDe] at htold
    have hy := run_yield (P := P) (args := encs x) hl (by rw [hrec]; exact hps x)
    rw [hrec] at hy
    refine ⟨fn, _, assign, body, hy, roundIn_of_wpIn hfn (hassign _ pre q x W _ hi htold fun a' Wa hga hax => ?_)⟩
    clear hy
    have hla : Wa.heap[D + 1]? = some (.loop (rec .ready none)) := (hga.block _ (Array.getElem?_eq_some_iff.1 hl).1 (by simp)).trans hl
    have hda : Wa.heap[D]? = some (.deferred (some [])) := (hga.block _ (Array.getElem?_eq_some_iff.1 hd).1 (by simp)).trans hd
    have hia := hI _ _ _ none hi hga (by simp)
    have hta := hT pre x q () _ _ none htold hga (by simp)
    have hbeg := run_beginRound (P := P) hla (by rw [hrec])
    rw [show ({ rec .ready none with state := .busy } : Loop) = rec .busy none by rw [hrec]] at hbeg
    refine ⟨_, hbeg, ?_⟩
    have hlb := (World.putObj_heap_same (w := Wa) (o := .loop (rec .busy none)) (Array.getElem?_eq_some_iff.1 hla).1)
    have hdb := (World.putObj_heap_other (w := Wa) (r := D + 1) (k := D) (o := .loop (rec .busy none)) (by omega)).trans hda
    have hib := hI.putObj (.loop (rec .busy none)) hia (by omega : w.heap.size ≤ D + 1) hla rfl
    have haxb := (hAx x a').putObj (s := ()) (.loop (rec .busy none)) hax (by omega : w.heap.size ≤ D + 1) hla rfl
    have htb := (hT pre x q).putObj (s := ()) (.loop (rec .busy none)) hta (by omega : w.heap.size ≤ D + 1) hla rfl
    have hkb : Kept (fun k => M k ∨ k = D + 1) q q W (Wa.putObj (D + 1) (.loop (rec .busy none))) := ((Kept.refl _ _ _).grown hga (by simp)).grown (grownBy_putObj' _ _ _) fun r e => by cases e; exact .inr (.inr rfl)
    have hszb : w.heap.size + 2 ≤ (Wa.putObj (D + 1) (.loop (rec .busy none))).heap.size := by rw [World.putObj_size]; have := hga.size; omega
    refine wpIn_mono (hbody _ pre q x a' _ hszb hib haxb htb) ?_
    have fin : ∀ (jump : Option Code) (Y : List α × Option Nat → World → Prop) (q' : Option Nat) (W3 : World), OwnFrom w.heap.size Y → Y (pre ++ [x], q') W3 → Kept M q q' (Wa.putObj (D + 1) (.loop (rec .busy none))) W3 → (match jump with | none => Y = I | some c => Y = Ix c) →
        ∃ v W4, (Instr.endRound (D + 1) jump).run P W3 = .ok v W4 ∧ RoundE (fun k => M k ∨ k = D + 1) (fun s W => (I s W ∧ V.heap.size ≤ W.heap.size) ∧ (W.heap[D + 1]? = some (.loop (rec .ready none)) ∧ W.heap[D]? = some (.deferred (some []))) ∧ s.2 ≠ some (D + 1) ∧ s.2 ≠ some D)
          (fun s W => ∃ c, (Ix c s W ∧ V.heap.size ≤ W.heap.size) ∧ (W.heap[D + 1]? = some (.loop (rec .done (some c))) ∧ W.heap[D]? = some (.deferred (some []))) ∧ s.2 ≠ some (D + 1) ∧ s.2 ≠ some D) (pre ++ [x]) q W (.returned v) W4 := by
      intro jump Y q' W3 hY hy3 hk3 hJ
      obtain ⟨v, W4, hr, hk4, hv⟩ := round_end (P := P) (J := fun s W => (I s W ∧ V.heap.size ≤ W.heap.size) ∧ (W.heap[D + 1]? = some (.loop (rec .ready none)) ∧ W.heap[D]? = some (.deferred (some []))) ∧ s.2 ≠ some (D + 1) ∧ s.2 ≠ some D)
        (Jx := fun s W => ∃ c, (Ix c s W ∧ V.heap.size ≤ W.heap.size) ∧ (W.heap[D + 1]? = some (.loop (rec .done (some c))) ∧ W.heap[D]? = some (.deferred (some []))) ∧ s.2 ≠ some (D + 1) ∧ s.2 ≠ some D) hrec' jump hlb hdb (by omega) (by omega : w.heap.size ≤ D + 1) hMD.2 hMD.1 nL nD hk3 (hY.and (I' := fun _ W => V.heap.size ≤ W.heap.size) fun _ _ _ _ hs hg _ => Nat.le_trans hs hg.size)
        ⟨hy3, by have := hk3.size; omega⟩ (fun W2 hy2 hl2 hd2 n1 n2 => by
          cases jump with
          | none =>
            cases hJ
            exact ⟨hy2, ⟨hl2, hd2⟩, n1, n2⟩
          | some c =>
            cases hJ
            exact ⟨c, hy2, ⟨hl2, hd2⟩, n1, n2⟩)
      exact ⟨v, W4, hr, q', hkb.trans hk4, hv.imp (fun h => ⟨by rw [h.1], h.2⟩) fun h => ⟨by rw [h.1], h.2⟩⟩
    rintro e a3 W3 hp
    cases e with
    | normal =>
      obtain ⟨q', hk3, hi3⟩ := hp
      exact fin none I q' W3 hI hi3 hk3 rfl
    | ret =>
      obtain ⟨q', hk3, hi3⟩ := hp
      exact fin (some .ret) _ q' W3 (hIx _) hi3 hk3 rfl
    | exit id =>
      obtain ⟨q', hk3, hi3⟩ := hp
      exact fin (some (.exit id)) _ q' W3 (hIx _) hi3 hk3 rfl
    | goto t =>
      obtain ⟨q', hk3, hi3⟩ := hp
      exact fin (some (.goto t)) _ q' W3 (hIx _) hi3 hk3 rfl
    | panic ch => exact hp.elim
    | outgrown => exact hp.elim
  · -- behind it
    rintro e W2 ⟨⟨v, rfl⟩, ⟨xs, q, hE, ⟨hi, hsz⟩, ⟨hl, hd⟩, nL, nD⟩ | ⟨pre, q, c, ⟨hi, hsz⟩, ⟨hl, hd⟩, nL, nD⟩⟩
    · have := run_endLoop (P := P) hl (by rw [hrec]; simp)
      rw [hrec] at this
      refine ⟨none, _, this, ?_⟩
      have h1 := hdone xs q (W2.putObj (D + 1) (.loop { rec .ready none with state := .exhausted })) (by rw [World.putObj_size]; omega) hE (hI.putObj _ hi (by omega) hl rfl) (by rw [hDe]; exact (World.putObj_heap_other (by omega)).trans hd) (by rw [hDe]; exact nD)
      rw [hDe, hrec] at h1
      exact h1
    · have := run_endLoop (P := P) hl (by rw [hrec]; simp)
      rw [hrec] at this
      refine ⟨some c, _, this, ?_⟩
      have h1 := hstop c pre q (W2.putObj (D + 1) (.loop { rec .done (some c) with state := .exhausted })) (by rw [World.putObj_size]; omega) ((hIx c).putObj _ hi (by omega) hl rfl) (by rw [hDe]; exact (World.putObj_heap_other (by omega)).trans hd) (by rw [hDe]; exact nD)
      rw [hDe, hrec] at h1
      exact h1
end Go.Proofs.YtdaidhbmfocodaaGreat

/-
  The items of all nodes of a tree, one above ahead of those below it: plain. Conditions: those that each lemma states.
-/
namespace Go.Proofs.YtdaidhbmfocodaaGreat
open Go.RowKit

/-- What a range over the items of a tree comes to: levels and items. -/
noncomputable def walkT (s : Rm) : Nat → Int → List (Int × It)
  | 0, a => (rmV s a).2.flatMap fun x => [((0 : Int), x)]
  | l + 1, a => (rmV s a).2.flatMap fun x => (((l + 1 : Nat) : Int), x) :: walkT s l x.2.1
/-- What it comes to from an item on, up to the next one of its node. -/
noncomputable def partW (s : Rm) : Nat → It → List (Int × It)
  | 0, x => [((0 : Int), x)]
  | l + 1, x => (((l + 1 : Nat) : Int), x) :: walkT s l x.2.1
theorem walk_part (s : Rm) (l : Nat) (a : Int) : walkT s l a = (rmV s a).2.flatMap (partW s l) := by
  cases l <;> rfl
theorem part_zero (s : Rm) (x : It) : partW s 0 x = [((0 : Int), x)] := rfl
theorem part_succ (s : Rm) (l : Nat) (x : It) : partW s (l + 1) x = (((l + 1 : Nat) : Int), x) :: walkT s l x.2.1 := rfl
theorem part_head (s : Rm) (l : Nat) (x : It) : ∃ r, partW s l x = ((l : Int), x) :: r := by
  cases l with
  | zero => exact ⟨[], rfl⟩
  | succ l => exact ⟨_, rfl⟩
/-- What has come when a node's first items are through. -/
noncomputable def doneW (s : Rm) (l : Nat) (L : List It) (k : Nat) : List (Int × It) := (L.take k).flatMap (partW s l)
theorem done_zero (s : Rm) (l : Nat) (L : List It) : doneW s l L 0 = [] := by simp [doneW]
theorem done_all (s : Rm) (l : Nat) (L : List It) : doneW s l L L.length = L.flatMap (partW s l) := by simp [doneW]
theorem done_step (s : Rm) (l : Nat) {L : List It} {k : Nat} {x : It} (hx : L[k]? = some x) : doneW s l L (k + 1) = doneW s l L k ++ partW s l x := by
  unfold doneW
  rw [List.take_add_one, hx, Option.toList_some, List.flatMap_append]
  simp
theorem done_pre (s : Rm) (l : Nat) {L : List It} {k : Nat} {x : It} (hx : L[k]? = some x) : doneW s l L k ++ partW s l x <+: L.flatMap (partW s l) := by
  rw [← done_step s l hx]
  refine ⟨(L.drop (k + 1)).flatMap (partW s l), ?_⟩
  unfold doneW
  rw [← List.flatMap_append, List.take_append_drop]

/-! ### What a round is told -/
/-- A level, an item, and the value that it is. -/
abbrev Wk := Int × It × Value
def keyW (x : Wk) : Int × It := (x.1, x.2.1)
def encW (x : Wk) : Array Value := #[.int .i64 x.1, x.2.2]
/-- Cells of new memory that are not of the row. -/
def Fre (B : Nat) (q : Option Nat) (W : World) : Addr → Prop := fun p => New B W p ∧ q ≠ some p.block
def TellW (L : List (Int × It)) (B : Nat) (pre : List Wk) (x : Wk) (q : Option Nat) (W : World) : Prop := (pre ++ [x]).map keyW <+: L ∧ Itm (Fre B q W) W x.2.2 x.2.1
def EndT (L : List (Int × It)) (xs : List Wk) : Prop := xs.map keyW = L
/-- The blocks that must stay. -/
def StayW (n0 Bs Br : Nat) (k : Nat) : Prop := k < n0 ∨ k = Bs ∨ k = Br
theorem fre_kept {M : Nat → Prop} {B : Nat} {q q' : Option Nat} {W W' : World} {p : Addr} {v : Value} (hM : ∀ k, M k → k < B) (hk : Kept M q q' W W') (hp : Fre B q W p) (hc : W.cell? p = some v) : Fre B q' W' p ∧ W'.cell? p = some v := by
  obtain ⟨⟨h1, h2, h3⟩, h4⟩ := hp
  have hm : ¬ M p.block := fun e => by have := hM _ e; omega
  obtain ⟨e, n⟩ := hk.same p.block h2 hm h4
  exact ⟨⟨⟨h1, Nat.lt_of_lt_of_le h2 hk.size, (World.frozen?_of_block e).trans h3⟩, n⟩, (World.cell?_of_block e).trans hc⟩
/-- An iterator's steps leave what was told. -/
theorem fre_own {B B' : Nat} {q : Option Nat} {W W' : World} {row : Option Nat} {p : Addr} {v : Value} (hg : W.grownBy W' row) (hr : ∀ r, row = some r → B' ≤ r ∧ ∃ o : Obj, W.heap[r]? = some o ∧ o.isCells = false) (hp : Fre B q W p) (hc : W.cell? p = some v) : Fre B q W' p ∧ W'.cell? p = some v := by
  obtain ⟨⟨h1, h2, h3⟩, h4⟩ := hp
  have hk := cell_kept hc hg (fun r e => (hr r e).2)
  exact ⟨⟨⟨h1, Nat.lt_of_lt_of_le h2 hg.size, (frozen_kept hc hg (fun r e => (hr r e).2)).trans h3⟩, h4⟩, hk⟩
theorem tell_own (L : List (Int × It)) (B B' : Nat) (pre : List Wk) (x : Wk) (q : Option Nat) : OwnFrom B' (fun (_ : Unit) W => TellW L B pre x q W) := fun _ _ _ _ hs hg hr =>
  ⟨hs.1, hs.2.map fun _ _ hp hc => fre_own hg hr hp hc⟩

/-- Marks of rounds that ran no deferred call, at a function's end. -/
theorem leave_marks {P : Program} {fn : Func} {m : Nat} {tmps : Array Value} {R : Ending → World → Prop} {R' : World → Prop} {B : Nat} (hst : ∀ W D, B ≤ D → W.heap[D]? = some (.deferred (some [])) → R' W → R' (W.putObj D (.deferred none)))
    (hf : ∀ W, R' W → LeavesIn Fence.wide m P fn tmps R [] .returning W) : ∀ (Ds : List Nat) (W : World), Ds.Nodup → (∀ D ∈ Ds, B ≤ D ∧ W.heap[D]? = some (.deferred (some []))) → R' W → LeavesInM Fence.wide m P fn tmps R (Ds.map fun D => { target := .collected D, args := #[] }) .returning W
  | [], W, _, _, h => hf W h
  | D :: r, W, hn, hd, h => by
    obtain ⟨h1, h2⟩ := List.nodup_cons.1 hn
    obtain ⟨hB, hD⟩ := hd D (by simp)
    refine ⟨by simp, .inl ⟨_, _, rfl, run_takeDeferred hD, ?_⟩⟩
    refine leave_marks hst hf r _ h2 (fun E hE => ⟨(hd E (by simp [hE])).1, ?_⟩) (hst W D hB hD h)
    exact (World.putObj_heap_other (fun e => h1 (by rw [← e]; exact hE))).trans (hd E (by simp [hE])).2
/-- The same, where the function hands back nothing. -/
theorem leave_none {P : Program} {fn : Func} {m : Nat} {tmps : Array Value} {X : World → Prop} {B : Nat} (hfn : fn.results = #[]) (hX : ∀ W D, B ≤ D → W.heap[D]? = some (.deferred (some [])) → X W → X (W.putObj D (.deferred none))) {Ds : List Nat} {W : World} (hn : Ds.Nodup) (hd : ∀ D ∈ Ds, B ≤ D ∧ W.heap[D]? = some (.deferred (some []))) (hx : X W) :
    LeavesInM Fence.wide m P fn tmps (fun e W' => (∃ v, e = .returned v) ∧ X W') (Ds.map fun D => { target := .collected D, args := #[] }) .returning W :=
  leave_marks (R' := X) hX (fun _ h => ⟨_, results_none hfn _ _ _, ⟨_, rfl⟩, h⟩) Ds W hn hd hx
end Go.Proofs.YtdaidhbmfocodaaGreat

/-
  The keys of what a range over the items of a tree comes to, in order; what is picked of it; plain. Conditions: those that each lemma states.
-/
namespace Go.Proofs.YtdaidhbmfocodaaGreat
open Go.RowKit

/-- Items that do not fall, from a key on, ahead of a bound. -/
structure Wup (L : List (Int × It)) (k tb : Ky) (e : Bool) : Prop where
  up : L.Pairwise fun p q => LeK p.2.1 q.2.1
  ge : ∀ p ∈ L, LeK k p.2.1
  bound : e = true → ∀ p ∈ L, lessK p.2.1 tb = true
theorem up_wup {l : List It} {lv : Int} (h : Up l) : (l.flatMap fun x => [(lv, x)]).Pairwise fun p q => LeK p.2.1 q.2.1 := by
  rw [show (l.flatMap fun x => [(lv, x)]) = l.map fun x => (lv, x) by induction l with | nil => rfl | cons y r ih => rw [List.flatMap_cons, ih (List.pairwise_cons.1 h).2]; rfl]
  exact List.Pairwise.map _ (fun a b hab => .inr hab) h
theorem its_wup {f : Int → Ky → Ky → Bool → Bool} {g : Int → List (Int × It)} {lv : Int} (hf : ∀ a k tb e, f a k tb e = true → Wup (g a) k tb e) (hk : ∀ a k tb, f a k tb true = true → lessK k tb = true) : ∀ (L : List It) (x : It) (r : List It) (tb : Ky) (e : Bool), L = x :: r → itsO f L tb e = true →
    Wup (L.flatMap fun x => (lv, x) :: g x.2.1) x.1 tb e
  | [x], _, _, tb, e, rfl, h => by
    have h1 := hf _ _ _ _ h
    have e2 : ([x] : List It).flatMap (fun x => (lv, x) :: g x.2.1) = (lv, x) :: g x.2.1 := by simp
    rw [e2]
    refine ⟨List.pairwise_cons.2 ⟨h1.ge, h1.up⟩, fun p hp => ?_, fun he p hp => ?_⟩
    · rcases List.mem_cons.1 hp with rfl | hp
      · exact .inl rfl
      · exact h1.ge p hp
    · rcases List.mem_cons.1 hp with rfl | hp
      · subst he
        exact hk _ _ _ h
      · exact h1.bound he p hp
  | x :: y :: r, _, _, tb, e, rfl, h => by
    unfold itsO at h
    rw [Bool.and_eq_true] at h
    have h1 := hf _ _ _ _ h.1
    have hxy := hk _ _ _ h.1
    have h2 := its_wup (lv := lv) hf hk (y :: r) y r tb e rfl h.2
    have e2 : (x :: y :: r).flatMap (fun x => (lv, x) :: g x.2.1) = ((lv, x) :: g x.2.1) ++ (y :: r).flatMap fun x => (lv, x) :: g x.2.1 := List.flatMap_cons
    rw [e2]
    have hlt : ∀ p ∈ (lv, x) :: g x.2.1, lessK p.2.1 y.1 = true := fun p hp => by
      rcases List.mem_cons.1 hp with rfl | hp
      · exact hxy
      · exact h1.bound rfl p hp
    have hge : ∀ p ∈ (lv, x) :: g x.2.1, LeK x.1 p.2.1 := fun p hp => by
      rcases List.mem_cons.1 hp with rfl | hp
      · exact .inl rfl
      · exact h1.ge p hp
    refine ⟨List.pairwise_append.2 ⟨List.pairwise_cons.2 ⟨h1.ge, h1.up⟩, h2.up, fun p hp q hq => LeK.trans (.inr (hlt p hp)) (h2.ge q hq)⟩, fun p hp => ?_, fun he p hp => ?_⟩
    · rcases List.mem_append.1 hp with hp | hp
      · exact hge p hp
      · exact LeK.trans (.inr hxy) (h2.ge p hp)
    · rcases List.mem_append.1 hp with hp | hp
      · have hy : (lv, y) ∈ (y :: r).flatMap fun x => (lv, x) :: g x.2.1 := List.mem_flatMap.2 ⟨y, by simp, by simp⟩
        exact less_trans (hlt p hp) (h2.bound he _ hy)
      · exact h2.bound he p hp
theorem right_wup (s : Rm) : ∀ (l : Nat) (a : Int) (k tb : Ky) (e : Bool), rightO s l a k tb e = true → Wup (walkT s l a) k tb e
  | 0, a, k, tb, e, h => by
    obtain ⟨h1, _, h3, _⟩ := right_of h
    have hp := right_part s 0 a k tb e h
    have hu := up_may (rm_may h1).1
    refine ⟨up_wup hu, fun p hp' => ?_, fun he p hp' => ?_⟩
    · obtain ⟨x, hx, hm⟩ := List.mem_flatMap.1 hp'
      rw [List.mem_singleton] at hm
      subst hm
      rcases hp.ge x hx with e | e
      · exact .inl e.symm
      · exact .inr e
    · obtain ⟨x, hx, hm⟩ := List.mem_flatMap.1 hp'
      rw [List.mem_singleton] at hm
      subst hm
      exact hp.bound he x hx
  | l + 1, a, k, tb, e, h => by
    obtain ⟨_, _, h3, h4⟩ := right_of h
    obtain ⟨x, r, ex, ek, _⟩ := head_of h3
    have := its_wup (lv := ((l + 1 : Nat) : Int)) (right_wup s l) (fun a k tb h => by
      have hp := right_part s l a k tb true h
      obtain ⟨z, q, ez, kz⟩ := hp.first
      rw [← kz]
      exact hp.bound rfl z (by rw [ez]; simp)) (rmV s a).2 x r tb e ex h4
    rw [ek] at this
    exact this
/-- In a tree that may be the keys do not fall. -/
theorem tree_wup {s : Rm} {a : Int} (h : treeO s a = true) : (walkT s (rmV s a).1.toNat a).Pairwise fun p q => LeK p.2.1 q.2.1 := by
  obtain ⟨h1, _, hm, l0, _, hi⟩ := tree_of h
  unfold innerO at hi
  cases hl : (rmV s a).1.toNat with
  | zero => exact up_wup (up_may hm)
  | succ l =>
    rw [hl] at hi
    cases hL : (rmV s a).2 with
    | nil => simp [walkT, hL]
    | cons x r =>
      have := its_wup (lv := ((l + 1 : Nat) : Int)) (right_wup s l) (fun a k tb h => by
        have hp := right_part s l a k tb true h
        obtain ⟨z, q, ez, kz⟩ := hp.first
        rw [← kz]
        exact hp.bound rfl z (by rw [ez]; simp)) (rmV s a).2 x r keyZ false hL hi
      exact this.up
theorem walk_its (s : Rm) : ∀ (l : Nat) (a : Int), ((walkT s l a).filter fun p => decide (p.1 = 0)).map (·.2) = itsT s l a
  | 0, a => by
    unfold walkT itsT
    induction (rmV s a).2 with
    | nil => rfl
    | cons x r ih => simp [ih]
  | l + 1, a => by
    unfold walkT itsT
    induction (rmV s a).2 with
    | nil => rfl
    | cons x r ih =>
      rw [List.flatMap_cons, List.flatMap_cons, List.filter_append, List.map_append, ih, ← walk_its s l x.2.1, List.filter_cons_of_neg (by simp; omega)]
/-- What is picked of what has come: the leaves' items that are not ahead of a key. -/
def pickW (f : Ky) (M : List (Int × It)) : List It := (M.filter fun p => decide (p.1 = 0) && !lessK p.2.1 f).map (·.2)
theorem pick_yes {f : Ky} {M : List (Int × It)} {p : Int × It} (h0 : p.1 = 0) (h : lessK p.2.1 f = false) : pickW f (M ++ [p]) = pickW f M ++ [p.2] := by
  unfold pickW
  rw [List.filter_append, List.map_append, List.filter_cons_of_pos (by simp [h0, h])]
  rfl
theorem pick_no {f : Ky} {M : List (Int × It)} {p : Int × It} (h : p.1 ≠ 0 ∨ lessK p.2.1 f = true) : pickW f (M ++ [p]) = pickW f M := by
  unfold pickW
  rw [List.filter_append, List.map_append, List.filter_cons_of_neg (by rcases h with h | h <;> simp [h])]
  simp
theorem pick_betw {f t : Ky} {M : List (Int × It)} (h : ∀ p ∈ M, lessK t p.2.1 = false) : pickW f M = ((M.filter fun p => decide (p.1 = 0)).map (·.2)).filter (betw f t) := by
  unfold pickW
  rw [List.filter_map, List.filter_filter]
  congr 1
  refine List.filter_congr fun p hp => ?_
  show _ = (betw f t p.2 && decide (p.1 = 0))
  unfold betw
  rw [h p hp]
  cases decide (p.1 = 0) <;> cases lessK p.2.1 f <;> rfl
theorem pick_all {s : Rm} {a : Int} {f t : Ky} {M : List (Int × It)} (hM : M = walkT s (rmV s a).1.toNat a) (h : ∀ p ∈ M, lessK t p.2.1 = false) : pickW f M = rangeO s a f t := by
  rw [pick_betw h, hM, walk_its]
  rfl
theorem pick_stop {s : Rm} {a : Int} (ht : treeO s a = true) {f t : Ky} {M : List (Int × It)} {p : Int × It} (hM : M ++ [p] <+: walkT s (rmV s a).1.toNat a) (h : ∀ p ∈ M, lessK t p.2.1 = false) (hp : lessK t p.2.1 = true) : pickW f M = rangeO s a f t := by
  obtain ⟨r, hr⟩ := hM
  have hu := tree_wup ht
  rw [← hr, List.append_assoc] at hu
  have hlt : ∀ q ∈ [p] ++ r, lessK t q.2.1 = true := fun q hq => by
    rcases List.mem_cons.1 hq with rfl | hq
    · exact hp
    · have := (List.pairwise_cons.1 (List.pairwise_append.1 hu).2.1).1 q hq
      rcases this with e | e
      · rw [← e]; exact hp
      · exact less_trans hp e
  rw [pick_betw h]
  unfold rangeO allO
  rw [← walk_its, ← hr, List.append_assoc, List.filter_append, List.map_append, List.filter_append]
  rw [filter_none (L := (([p] ++ r).filter fun p => decide (p.1 = 0)).map (·.2)) fun x hx => by
    obtain ⟨q, hq, rfl⟩ := List.mem_map.1 hx
    have := hlt q (List.mem_filter.1 hq).1
    unfold betw
    rw [this]
    simp]
  rw [List.append_nil]
theorem pick_len {s : Rm} {a : Int} (ht : treeO s a = true) {f : Ky} {M : List (Int × It)} (hM : M <+: walkT s (rmV s a).1.toNat a) : (pickW f M).length ≤ 15625 := by
  obtain ⟨r, hr⟩ := hM
  have h1 := (tree_all ht).2.1
  have h2 : (allO s a).length = ((walkT s (rmV s a).1.toNat a).filter fun p => decide (p.1 = 0)).length := by
    unfold allO
    rw [← walk_its, List.length_map]
  rw [h2, ← hr, List.filter_append, List.length_append] at h1
  have h3 : (pickW f M).length ≤ (M.filter fun p => decide (p.1 = 0)).length := by
    unfold pickW
    rw [List.length_map]
    rw [← List.countP_eq_length_filter, ← List.countP_eq_length_filter]
    exact List.countP_mono_left fun p _ hp => by
      rw [Bool.and_eq_true] at hp
      exact hp.1
  omega
end Go.Proofs.YtdaidhbmfocodaaGreat

/-
  One more in a row of the call's own, and where the row lies then. Conditions: those that each lemma states.
-/
namespace Go.Proofs.YtdaidhbmfocodaaGreat
open Go.RowKit

section
variable {α : Type} {R : Rel α} {size : Nat} {t : TypeId} {lo : Nat} {w w' : World} {A : Option Addr} {c : Nat} {xs : List α}
theorem RowOf.push_at {P : Program} (hR : Stab R) (h : RowOf R size t lo w A c xs) (st ty : TypeId) (i : TypeInfo) (z : Value) (bytes : Nat) (ht : P.underlying st = some (.slice t)) (hi : P.info? t = some i) (hz : i.zero = some z)
    (hsize : i.size = size) (hby : i.bytes = bytes) (hzs : z.cells.size = size) (hsz : 0 < size) (ad : Addr) (m : Nat) (news : List Value) (x : α) (hl : news.length = size) (hnews : ∀ j u, news[j]? = some u → w.cell? (ad.add j) = some u) (h1 : ∀ u ∈ news, u.oneCell' = true)
    (h63 : xs.length + 1 ≤ maxLen) (hbytes : (xs.length + 1) * bytes ≤ 140737488355328) (hbase : lo ≤ w.heap.size) (hx : R (NewBut lo A w) w news x) :
    ∃ A' c' w', (Builtin.append_ #[st, st] ty #[.slice A xs.length c, .slice (some ad) 1 m]).run P w = .ok (.slice A' (xs.length + 1) c') w' ∧ RowOf R size t lo w' A' c' (xs ++ [x]) ∧ w.grownBy w' (A.map (·.block)) ∧ Below lo w w' ∧ (A'.map (·.block) = A.map (·.block) ∨ A'.map (·.block) = some w.heap.size) := by
  obtain ⟨cs, ho, hcs⟩ := h
  obtain ⟨A1, c1, e, _, _, e4, _⟩ := own_any ho
  cases e
  obtain ⟨v', w', hr, o1, g1, b1, k1⟩ := app_own (P := P) (w := w) lo st ty t i z size bytes ht hi hz hsize hby hzs hsz _ _ cs ho ad 1 m news (by omega) hnews h1 h63 hbytes hbase
  obtain ⟨A2, c2, rfl, _, _, e5, _⟩ := own_any o1
  rw [e4] at g1 k1
  rw [e5] at k1
  have mp : ∀ p v, NewBut lo A w p → w.cell? p = some v → NewBut lo A2 w' p ∧ w'.cell? p = some v := fun p v hp hc => by
    have hb := g1.block p.block hp.1.2.1 (fun e => hp.2 e.symm)
    refine ⟨⟨⟨hp.1.1, Nat.lt_of_lt_of_le hp.1.2.1 g1.size, (World.frozen?_of_block hb).trans hp.1.2.2⟩, fun e => ?_⟩, (World.cell?_of_block hb).trans hc⟩
    rcases k1 with k | k
    · exact hp.2 (k ▸ e)
    · rw [k] at e
      simp only [Option.some.injEq] at e
      have := hp.1.2.1
      omega
  refine ⟨A2, c2, w', hr, ⟨cs ++ news, by rw [List.length_append]; exact o1, fun j y hj => ?_⟩, g1, b1, k1⟩
  have hcl : cs.length = xs.length * size := ho.1
  rcases Nat.lt_or_ge j xs.length with hjl | hjl
  · rw [List.getElem?_append_left hjl] at hj
    obtain ⟨vs, e1, e2, e3⟩ := hcs j y hj
    refine ⟨vs, e1, fun k u hk => ?_, hR _ _ _ _ _ _ mp e3⟩
    have hcu := e2 k u hk
    rw [List.getElem?_append_left (List.getElem?_eq_some_iff.1 hcu).1]
    exact hcu
  · rw [List.getElem?_append_right hjl] at hj
    have hj0 : j = xs.length := by
      have := (List.getElem?_eq_some_iff.1 hj).1
      simp at this
      omega
    subst hj0
    simp at hj
    subst hj
    refine ⟨news, hl, fun k u hk => ?_, hR _ _ _ _ _ _ mp hx⟩
    rw [List.getElem?_append_right (by omega), hcl, Nat.add_sub_cancel_left]
    exact hk
/-- A step that turns no cells leaves the row. -/
theorem RowOf.own (hR : Stab R) (h : RowOf R size t lo w A c xs) {row : Option Nat} (hg : w.grownBy w' row) (hr : ∀ r, row = some r → ∃ o : Obj, w.heap[r]? = some o ∧ o.isCells = false) : RowOf R size t lo w' A c xs := by
  obtain ⟨cs, h1, h2⟩ := h
  refine ⟨cs, h1.kept hg ?_, fun i x hi => ?_⟩
  · rcases h1.2 with ⟨e, _⟩ | ⟨g, cap', cur, e, hb, hgb, _⟩
    · exact .inl (by rw [e]; rfl)
    · refine .inr fun e' => ?_
      rw [e] at e'
      obtain ⟨o, ho, hc⟩ := hr g e'.symm
      rw [hgb] at ho
      cases ho
      cases hc
  · obtain ⟨vs, e1, e2, e3⟩ := h2 i x hi
    exact ⟨vs, e1, e2, hR _ _ _ _ _ _ (fun p v hp hc => ⟨⟨⟨hp.1.1, Nat.lt_of_lt_of_le hp.1.2.1 hg.size, (frozen_kept hc hg hr).trans hp.1.2.2⟩, hp.2⟩, cell_kept hc hg hr⟩) e3⟩
end
theorem its_push_at {w : World} {lo : Nat} {A : Option Addr} {c : Nat} {xs : List It} (h : RowOf rIt 5 52 lo w A c xs) (g : Nat) (s : It) (d : Value) (m n : Nat) (hn : xs.length = n) (hg : w.heap[g]? = some (.cells #[.int .u8 (s.1.1.toNat : Int), .int .u32 s.1.2.1, .int .u32 s.1.2.2, .int .i64 s.2.1, d] 52 (0, 0))) (hs : n < 100000) (hbase : lo ≤ w.heap.size) (hin : InI s) (hx : rBy (NewBut lo A w) w [d] s.2.2) :
    ∃ A' c' w', (Builtin.append_ #[32, 32] 32 #[.slice A n c, .slice (some ⟨g, 0, none⟩) 1 m]).run Tryz.prog w = .ok (.slice A' (n + 1) c') w' ∧ RowOf rIt 5 52 lo w' A' c' (xs ++ [s]) ∧ w.grownBy w' (A.map (·.block)) ∧ Below lo w w' ∧ (A'.map (·.block) = A.map (·.block) ∨ A'.map (·.block) = some w.heap.size) := by
  subst hn
  obtain ⟨i0, hi, hz0, hz1, hz2⟩ := info_parts item_info0
  obtain ⟨E, ce, rfl, _⟩ := id (rBy_open hx)
  exact RowOf.push_at stab_it h 32 32 i0 (.agg #[.int .u8 0, .int .u32 0, .int .u32 0, .int .i64 0, .slice none 0 0]) 48 Tryz.underlying32 hi hz0 hz1 hz2 rfl (by decide) ⟨g, 0, none⟩ m _ s rfl (World.news_of_block (cs := #[.int .u8 (s.1.1.toNat : Int), .int .u32 s.1.2.1, .int .u32 s.1.2.2, .int .i64 s.2.1, .slice E s.2.2.length ce]) hg) (fun u hu => by
    simp at hu
    rcases hu with rfl | rfl | rfl | rfl | rfl <;> rfl) (by unfold maxLen; omega) (by omega) hbase (rIt_mk hin hx)
end Go.Proofs.YtdaidhbmfocodaaGreat

/-
  Package find: held. Conditions: those that each lemma states.
-/
namespace Go.Proofs.YtdaidhbmfocodaaGreat
open Go.RowKit

set_option maxRecDepth 100000 in
set_option maxHeartbeats 4000000 in
theorem held_any (v u : Value) (s : Rm) (hm : mayR s = true) (n : Nd) (hn : mayN n = true) (w : World) (h : Sto (Old w) w v s) (hu : Nod (Old w) w u n) :
    Calls Tryz.prog 75 #[v, u] w fun e w' => e = .returned (.bool (leafO s n.2)) ∧ Below w.heap.size w w' := by
  have hrf := Lib.hid (refs_may hn)
  have hls := Lib.hid (mayT_len (mayR_of hm).2.1)
  obtain ⟨A, ca, B, cb, N, cn, L, cl, rfl, _⟩ := id h.open
  obtain ⟨I, ci, rfl, -, -, -, hI⟩ := id hu.open
  obtain ⟨lw, hlw⟩ : ∃ q, n.1 = q := ⟨_, rfl⟩
  obtain ⟨l, hl⟩ : ∃ q, n.2 = q := ⟨_, rfl⟩
  obtain ⟨m, hlm⟩ : ∃ q, l.length = q := ⟨_, rfl⟩
  rw [hl] at hrf
  rw [hl, hlm] at hI
  rw [hl, hlw, hlm]
  have hm5 : m ≤ 5 := by
    have := (mayN_of hn).1.2.2.1
    rw [hl, hlm] at this
    exact this
  obtain ⟨ad, ld, rfl, rfl, -, -, -, -, had, -, hc⟩ := tables_at hm h.parts.2.1 h.parts.2.2
  have HG0 : Bag w [OldIs (.slice I m ci) l, OldR (.agg #[.slice A s.1.1.length ca, .slice B s.1.2.length cb, .slice (some ad) s.2.1.length cn, .slice (some ld) s.2.2.length cl]) s] := ((Bag.nil w).add (F := OldR _ s) h (lasts_oldR _ _)).add (F := OldIs _ l) hI (lasts_oldIs _ _)
  obtain ⟨w0, hw0, hg0, hB0, _, hs0⟩ := bag_four HG0 (Below.refl _ _) (.slice A s.1.1.length ca) (.slice B s.1.2.length cb) (.slice (some ad) s.2.1.length cn) (.slice (some ld) s.2.2.length cl) 29
  obtain ⟨w1, hw1, hg1, hB1, _, hs1⟩ := bag_node hg0 (Below.refl _ _) (.int .i64 lw) (.slice I m ci)
  have HG := Lib.hid hg1
  have BB := Lib.hid (hB0.trans (hB1.mono hB0.size))
  have cS : Hid (∀ j, j < 256 → ∀ W, Below w1.heap.size w1 W → W.cell? (ad.add j) = some (.int .u8 ((s.2.1[j]?.getD 0).toNat : Int))) := Lib.hid fun j hj W hW =>
    ((BB.out.trans (hW.mono BB.out.size)).cell (by rw [add_block]; exact had)).trans (hc j hj).1
  obtain ⟨y0, y1, _⟩ := hg1.at 0 rfl
  replace hs1 := Lib.hid hs1
  replace hs0 := Lib.hid hs0
  replace hlw := Lib.hid hlw
  replace hl := Lib.hid hl
  replace hlm := Lib.hid hlm
  clear HG0 hg1 hg0 h hu hB1 hB0 hc hI
  go_enter Tryz.func75, Tryz.ntmps75
  go_upto_region 1 with fail
  clear hw1 hw0
  go_wp2_with fail
  clear y0 y1
  go_loopw [10] (fun vi wr => ∃ k : Nat, k ≤ m ∧ vi = .int .i64 k ∧ leafO s (l.take k) = true ∧ Below w1.heap.size w1 wr) (fun vi _ => m - (intOf vi).toNat)
  case atStart => exact ⟨0, by omega, rfl, rfl, Below.refl _ _⟩
  case round =>
    obtain ⟨k, hk, rfl, hE, hbr⟩ := hrel
    have HR := Lib.hid (HG.out.below hbr)
    have BR := Lib.hid (BB.out.trans (hbr.mono BB.out.size))
    by_cases hlt : k < m
    case neg =>
      have hf : Hid (leafO s l = true) := Lib.hid (by rw [← hE, List.take_of_length_le (by rw [hlm.out]; omega)])
      clear hE hbr
      go_wp2_with fail
      go_ret
      exact ⟨ret_bool hf.out.symm, BR.out⟩
    obtain ⟨x, hx⟩ : ∃ x, l[k]? = some x := ⟨_, List.getElem?_eq_getElem (by rw [hlm.out]; exact hlt)⟩
    have hxr := hrf.out x (List.mem_of_getElem? hx)
    have hIt : rIts (Old wr) wr [.slice I m ci] l := HR.out.at 2 rfl
    obtain ⟨a5, E5, ce5, rfl, _, _, _, FX⟩ := its_old hIt hx
    obtain ⟨⟨z0, z1, z2, z3, z4⟩, _⟩ := FX wr (Below.refl _ _)
    obtain ⟨w2, hw2, r0, r1, r2, r3, r4, hs2, hB2, _⟩ := box_five wr (.int .u8 (x.1.1.toNat : Int)) (.int .u32 x.1.2.1) (.int .u32 x.1.2.2) (.int .i64 x.2.1) (.slice E5 x.2.2.length ce5) 52
    have B2 := Lib.hid (hbr.trans (hB2.mono hbr.size))
    have H2 := Lib.hid (HR.out.below hB2)
    have BF := Lib.hid (BB.out.trans (B2.out.mono BB.out.size))
    replace hs2 := Lib.hid hs2
    clear FX hIt hB2
    go_upto_region 4 with fail
    clear hw2 z0 z1 z2 z3 z4
    obtain ⟨k0, k1, k2, k3, _⟩ := H2.out.at 1 rfl
    rw [hls.out] at k2
    have i4 : (0 : Int) ≤ (k : Int) := by omega
    have i5 : (k : Int) < (m : Int) := by omega
    obtain ⟨z, hzz⟩ : ∃ z, x.2.1 = z := ⟨_, rfl⟩
    rw [hzz] at r3 hxr
    by_cases hz0 : z = 0
    · subst hz0
      have hst : Hid (leafO s (l.take (k + 1)) = true) := Lib.hid (by rw [leaf_none hx hzz, hE])
      replace hx := Lib.hid hx
      replace hzz := Lib.hid hzz
      clear hE hxr
      replace hbr := Lib.hid hbr
      go_wp2_with fail
      go_roundw
      case rel => exact ⟨k + 1, by omega, by go_num, hst.out, B2.out⟩
      case measure => simp [intOf]; omega
    · obtain ⟨r, hr, r8, r256⟩ : ∃ r : Nat, z = r ∧ 8 ≤ r ∧ r < 256 := ⟨z.toNat, by omega, by omega, by omega⟩
      subst hr
      have hcell := cS.out r r256 w2 B2.out
      obtain ⟨y, hy⟩ : ∃ y, s.2.1[r]?.getD 0 = y := ⟨_, rfl⟩
      have hst := leaf_ref hx hzz (by omega) hy
      rw [hE, Bool.true_and] at hst
      rw [hy] at hcell
      have j0 : (0 : Int) ≤ (r : Int) := by omega
      have j1 : r < 256 := r256
      have j2 : ¬ r = 0 := by omega
      replace hbr := Lib.hid hbr
      replace hzz := Lib.hid hzz
      replace hy := Lib.hid hy
      clear hE hxr hz0
      by_cases hy0 : y = 0
      · have t0 := byte_same (y := 0) (q := 0) rfl hy0
        have hf : Hid (leafO s l = false) := Lib.hid (leaf_bad (i := k + 1) (by rw [hst]; simp [hy0]))
        replace hx := Lib.hid hx
        clear hst hy0
        go_wp2_with fail
        go_ret
        exact ⟨ret_bool hf.out.symm, BF.out⟩
      · have t0 := byte_unlike (y := 0) (q := 0) rfl hy0
        replace hst : Hid (leafO s (l.take (k + 1)) = true) := Lib.hid (by rw [hst]; simpa using hy0)
        replace hx := Lib.hid hx
        clear hy0
        go_wp2_with fail
        go_roundw
        case rel => exact ⟨k + 1, by omega, by go_num, hst.out, B2.out⟩
        case measure => simp [intOf]; omega
end Go.Proofs.YtdaidhbmfocodaaGreat

/-
  Parts side by side, one behind the other, as package find goes; plain. Conditions: those that each lemma states.
-/
namespace Go.Proofs.YtdaidhbmfocodaaGreat
open Go.RowKit

/-- What is known behind k parts: their last key. -/
def StC (g : Int → Option (Ky × Ky)) (l : List It) (k : Nat) (t : Ky) : Prop := k = 0 ∨ ∃ f, chainO g (l.take k) = some (f, t)
section
variable {g : Int → Option (Ky × Ky)} {l : List It} {k : Nat} {x : It} {p : Ky × Ky} {t : Ky}
theorem chain_no1 (hx : l[k]? = some x) (h : g x.2.1 = none) : chainO g l = none := by
  refine chain_bad (k := k + 1) (by omega) ?_
  by_cases h0 : k = 0
  · subst h0
    rw [chain_one hx, h]
    rfl
  · rw [chain_take hx (by omega), h]
    cases chainO g (l.take k) <;> rfl
theorem chain_no2 (hx : l[k]? = some x) (h : g x.2.1 = some p) (hp : p.1 ≠ x.1) : chainO g l = none := by
  refine chain_bad (k := k + 1) (by omega) ?_
  by_cases h0 : k = 0
  · subst h0
    rw [chain_one hx, h]
    simp [hp]
  · rw [chain_take hx (by omega), h]
    cases chainO g (l.take k) <;> simp [hp]
theorem chain_no3 (hx : l[k]? = some x) (h0 : k ≠ 0) (hs : StC g l k t) (hl : lessK t x.1 = false) : chainO g l = none := by
  rcases hs with hs | ⟨f, hs⟩
  · exact absurd hs h0
  refine chain_bad (k := k + 1) (by omega) ?_
  rw [chain_take hx (by omega), hs]
  cases g x.2.1 <;> simp [hl]
theorem chain_yes (hx : l[k]? = some x) (hs : StC g l k t) (hl : k ≠ 0 → lessK t x.1 = true) (h : g x.2.1 = some p) (hp : p.1 = x.1) : StC g l (k + 1) p.2 := by
  refine .inr ?_
  by_cases h0 : k = 0
  · subst h0
    rw [chain_one hx, h]
    exact ⟨p.1, by
      show (if p.1 = x.1 then some p else none) = some (p.1, p.2)
      rw [if_pos hp]⟩
  · rcases hs with hs | ⟨f, hs⟩
    · exact absurd hs h0
    rw [chain_take hx (by omega), hs, h]
    exact ⟨f, by simp [hp, hl h0]⟩
end
theorem span_empty {s : Rm} {n : Nd} (h : n.2.length = 0) : spanN s n = none := by
  have e : n.2 = [] := List.eq_nil_of_length_eq_zero h
  unfold spanN
  rw [e]
  cases n.1.toNat with
  | zero => simp [leafO]
  | succ l => rfl
/-- A part that is none, by its node. -/
theorem span_no {s : Rm} {l : Nat} {a : Int} (h : ¬ (rmE s a = 0 ∧ (rmV s a).1 = (l : Int) ∧ (rmV s a).2.length ≠ 0)) : spanO s l a = none := by
  rw [span_node]
  by_cases h1 : rmE s a = 0 ∧ (rmV s a).1 = (l : Int)
  · rw [if_pos h1]
    by_cases h2 : (rmV s a).2.length = 0
    · exact span_empty h2
    · exact absurd ⟨h1.1, h1.2, h2⟩ h
  · rw [if_neg h1]
theorem span_yes {s : Rm} {l : Nat} {a : Int} (h1 : rmE s a = 0) (h2 : (rmV s a).1 = (l : Int)) : spanO s l a = spanN s (rmV s a) := by
  rw [span_node, if_pos ⟨h1, h2⟩]
end Go.Proofs.YtdaidhbmfocodaaGreat

/-
  Package find: the closure of stands that calls itself. Conditions: those that each lemma states.
-/
namespace Go.Proofs.YtdaidhbmfocodaaGreat
open Go.RowKit

/-- The closure, with what it captured. -/
abbrev cloE (Bs Be : Nat) : Value := .func (.func 74) #[] #[.pointer (some ⟨Bs, 0, none⟩), .pointer (some ⟨Be, 0, none⟩)]
def BoxF (g : Nat) (v : Value) : World → Prop := fun w => w.cell? ⟨g, 0, none⟩ = some v ∧ g < w.heap.size
theorem lasts_boxF (g : Nat) (v : Value) : Lasts (BoxF g v) := fun _ _ h hb => ⟨(hb.cell (p := ⟨g, 0, none⟩) h.2).trans h.1, Nat.lt_of_lt_of_le h.2 hb.size⟩
def EndsP (s : Rm) (n : Nd) (w : World) : Ending → World → Prop := fun e w' => ∃ f t ok, e = .returned (.tuple #[kyV f, kyV t, .bool ok]) ∧ spanN s n = (if ok = true then some (f, t) else none) ∧ Below w.heap.size w w'
theorem ends_ret {s : Rm} {n : Nd} {w w' : World} (f t : Ky) (ok : Bool) (h : spanN s n = if ok = true then some (f, t) else none) (hb : Below w.heap.size w w') : EndsP s n w (.returned (.tuple #[kyV f, kyV t, .bool ok])) w' := ⟨f, t, ok, rfl, h, hb⟩
/-- What a call of it tells, at a level. -/
def EndsIs (s : Rm) (l : Nat) : Prop := ∀ (u v0 v1 v2 v3 : Value) (n : Nd) (Bs Be : Nat) (w : World), mayN n = true → n.1 = (l : Int) → n.2.length ≠ 0 → Nod (Old w) w u n → Sto (Old w) w (.agg #[v0, v1, v2, v3]) s → Box4 Bs v0 v1 v2 v3 w → BoxF Be (cloE Bs Be) w →
    Calls Tryz.prog 74 #[u, .pointer (some ⟨Bs, 0, none⟩), .pointer (some ⟨Be, 0, none⟩)] w (EndsP s n w)

set_option maxRecDepth 100000 in
set_option maxHeartbeats 8000000 in
theorem ends_step (s : Rm) (hm : mayR s = true) (l0 : Nat) (hr0 : ∀ j, l0 = j + 1 → EndsIs s j) : EndsIs s l0 := by
  intro u v0 v1 v2 v3 n Bs Be w hmn0 hlv hne hu h hBs hBe
  have hmn := Lib.hid hmn0
  obtain ⟨I, ci, rfl, -, -, -, hI⟩ := id hu.open
  obtain ⟨lw, hlw⟩ : ∃ q, n.1 = q := ⟨_, rfl⟩
  obtain ⟨l, hl⟩ : ∃ q, n.2 = q := ⟨_, rfl⟩
  obtain ⟨m, hlm⟩ : ∃ q, l.length = q := ⟨_, rfl⟩
  obtain ⟨R, hR⟩ : ∃ R, spanN s n = R := ⟨_, rfl⟩
  have hR0 := Lib.hid (fun (x y : It) (j : Nat) (h1 : n.1 = 0) (h2 : n.2[0]? = some x) (h3 : n.2.length = j + 1) (h4 : n.2[j]? = some y) => span_zero (s := s) h1 h2 h3 h4)
  have hR1 := Lib.hid (fun (j : Nat) (hj : n.1 = ((j + 1 : Nat) : Int)) => span_succ (s := s) hj)
  rw [hR] at hR0 hR1
  have hu' := hu
  rw [hl, hlm] at hI
  rw [hlw, hl, hlm] at hu'
  rw [hlw, hl, hlm] at hR0
  rw [hlw, hl] at hR1
  rw [hl, hlw, hlm]
  rw [hlw] at hlv
  rw [hl, hlm] at hne
  have hm5 : m ≤ 5 := by
    have := (mayN_of hmn.out).1.2.2.1
    rw [hl, hlm] at this
    exact this
  have HG0 : Bag w [BoxF Be (cloE Bs Be), Box4 Bs v0 v1 v2 v3, OldN (.agg #[.int .i64 lw, .slice I m ci]) n, OldIs (.slice I m ci) l, OldR (.agg #[v0, v1, v2, v3]) s] :=
    (((((Bag.nil w).add (F := OldR _ s) h (lasts_oldR _ _)).add (F := OldIs _ l) hI (lasts_oldIs _ _)).add (F := OldN _ n) hu' (lasts_oldN _ _)).add (F := Box4 _ _ _ _ _) hBs (lasts_box4 _ _ _ _ _)).add (F := BoxF _ _) hBe (lasts_boxF _ _)
  obtain ⟨w0, hw0, b0, hs0, hB0⟩ := box_pair' w (.int .i64 lw) (.slice I m ci) 57
  obtain ⟨w1, hw1, _, _, _, hs1, hB1, b1⟩ := box_three w0 (.int .u8 0) (.int .u32 0) (.int .u32 0) 38
  obtain ⟨w2, hw2, _, _, _, hs2, hB2, b2⟩ := box_three w1 (.int .u8 0) (.int .u32 0) (.int .u32 0) 38
  have HG := Lib.hid HG0
  have BB := Lib.hid ((hB0.trans (hB1.mono hB0.size)).trans (hB2.mono (hB0.trans (hB1.mono hB0.size)).size))
  have G0 : BoxW w.heap.size #[.int .i64 lw, .slice I m ci] 57 w2 := lasts_boxW _ _ _ _ _ (lasts_boxW _ _ _ _ _ b0 hB1) hB2
  have G1 : BoxW w0.heap.size #[.int .u8 0, .int .u32 0, .int .u32 0] 38 w2 := lasts_boxW _ _ _ _ _ b1 hB2
  have G2 : BoxW w1.heap.size #[.int .u8 0, .int .u32 0, .int .u32 0] 38 w2 := b2
  have lo : Hid (w.heap.size < w0.heap.size ∧ w0.heap.size < w1.heap.size ∧ w1.heap.size < w2.heap.size) := Lib.hid ⟨by omega, by omega, by omega⟩
  obtain ⟨y0, y1, _⟩ := two_cells G0
  replace hs2 := Lib.hid hs2
  replace hs1 := Lib.hid hs1
  replace hs0 := Lib.hid hs0
  replace hlw := Lib.hid hlw
  replace hl := Lib.hid hl
  replace hlm := Lib.hid hlm
  replace hlv := Lib.hid hlv
  replace hR := Lib.hid hR
  replace G0 := Lib.hid G0
  replace G1 := Lib.hid G1
  replace G2 := Lib.hid G2
  clear HG0 h hu hu' hB2 hB1 hB0 hI hBs hBe b0 b1 b2 hmn0
  obtain ⟨m1, hm1⟩ : ∃ j, m = j + 1 := ⟨m - 1, by omega⟩
  obtain ⟨x0, hx0⟩ : ∃ x, l[0]? = some x := ⟨_, List.getElem?_eq_getElem (by rw [hlm.out]; omega)⟩
  obtain ⟨yl, hyl⟩ : ∃ x, l[m1]? = some x := ⟨_, List.getElem?_eq_getElem (by rw [hlm.out]; omega)⟩
  have hx0' := Lib.hid hx0
  have hyl' := Lib.hid hyl
  have HW2 := Lib.hid (HG.out.below BB.out)
  obtain ⟨ad, E0, ce0, rfl, _, FX0⟩ := its_first (HW2.out.at 3 rfl : rIts (Old w2) w2 [.slice I m ci] l) hx0
  have FX := Lib.hid (fun W (hW : Below w2.heap.size w2 W) => (FX0 W hW).1)
  have iz : 0 < m := by omega
  cases l0 with
  | zero =>
    obtain ⟨ad', E6, ce6, e6, _, _, _, FY0⟩ := its_old (HW2.out.at 3 rfl : rIts (Old w2) w2 [.slice (some ad) m ci] l) hyl
    cases e6
    have FY := Lib.hid (fun W (hW : Below w2.heap.size w2 W) => (FY0 W hW).1)
    have e0 : lw = 0 := hlv.out
    subst e0
    obtain ⟨b, hb⟩ : ∃ b, leafO s l = b := ⟨_, rfl⟩
    have hfin := Lib.hid (hR0.out x0 yl m1 rfl hx0 hm1 hyl)
    rw [hb] at hfin
    replace hb := Lib.hid hb
    have i6 : (m : Int) - 1 = (m1 : Int) := by omega
    have i7 : (m1 : Int) < (m : Int) := by omega
    have i8 : (0 : Int) ≤ (m1 : Int) := by omega
    have i9 : IntKind.i64.wrap (m1 : Int) = (m1 : Int) := IntWalk.i64_in _ (by omega)
    have i0 : (0 : Int) < (m : Int) := by omega
    replace hm1 := Lib.hid hm1
    clear hR0 hR1 hx0 hyl FX0 FY0
    go_enter Tryz.func74, Tryz.ntmps74
    go_upto_region 1 with fail
    clear hw0 hw1 hw2
    go_wp2_with fail
    clear y0 y1
    obtain ⟨o4, ho4⟩ : ∃ o, (Obj.cells #[.int .u8 (x0.1.1.toNat : Int), .int .u32 x0.1.2.1, .int .u32 x0.1.2.2] 38 (0, 0)) = o := ⟨_, rfl⟩
    obtain ⟨o5, ho5⟩ : ∃ o, (Obj.cells #[.int .u8 (yl.1.1.toNat : Int), .int .u32 yl.1.2.1, .int .u32 yl.1.2.2] 38 (0, 0)) = o := ⟨_, rfl⟩
    obtain ⟨fin, hfn⟩ : ∃ f, finTwo w0.heap.size o4 w1.heap.size o5 = f := ⟨_, rfl⟩
    have fn4 : Hid (fin w0.heap.size = some o4) := Lib.hid (by rw [← hfn]; exact finTwo_one _ _ _ _)
    have fn5 : Hid (fin w1.heap.size = some o5) := Lib.hid (by rw [← hfn]; exact finTwo_two (by have := lo.out; omega) _ _)
    have fnl : Hid (∀ k, k < w0.heap.size → fin k = none) := Lib.hid fun k hk => by rw [← hfn]; exact finTwo_none (by omega) (by have := lo.out; omega) _ _
    replace ho4 := Lib.hid ho4
    replace ho5 := Lib.hid ho5
    replace hfn := Lib.hid hfn
    have HW0 := Lib.hid (fun W (hK : KeepT fin w2 W) => BB.out.trans (hK.below BB.out.size (fun k hk => fnl.out k (by have := lo.out; omega))))
    have hcl : Hid (∀ W, KeepT fin w2 W → Calls Tryz.prog 75 #[.agg #[v0, v1, v2, v3], .agg #[.int .i64 0, .slice (some ad) m ci]] W fun e W' => e = .returned (.bool b) ∧ Below W.heap.size W W') := Lib.hid fun W hK => by
      have HW := HG.out.below (HW0.out W hK)
      have := held_any _ _ s hm n hmn.out W (HW.at 4 rfl) (HW.at 2 rfl)
      rw [hl.out, hb.out] at this
      exact this
    have FXK : Hid (∀ W, KeepT fin w2 W → ∃ d, At5 W ad x0 d) := Lib.hid fun W hK => by
      obtain ⟨_, _, _, e, _, F⟩ := its_first ((HG.out.below (HW0.out W hK)).at 3 rfl : rIts (Old W) W [.slice (some ad) m ci] l) hx0'.out
      cases e
      exact ⟨_, (F W (Below.refl _ _)).1⟩
    have FYK : Hid (∀ W, KeepT fin w2 W → ∃ d, At5 W (ad.add (m1 * 5)) yl d) := Lib.hid fun W hK => by
      obtain ⟨_, _, _, e, _, _, _, F⟩ := its_old ((HG.out.below (HW0.out W hK)).at 3 rfl : rIts (Old W) W [.slice (some ad) m ci] l) hyl'.out
      cases e
      exact ⟨_, (F W (Below.refl _ _)).1⟩
    have KS : Hid (∀ W, KeepT fin w2 W → W.heap[w.heap.size]? = some (.cells #[.int .i64 0, .slice (some ad) m ci] 57 (0, 0))) := Lib.hid fun W hK => hK.other (fnl.out _ lo.out.1) G0.out
    have K4 : Hid (∀ W, KeepT fin w2 W → ∃ a b c, W.heap[w0.heap.size]? = some (.cells #[a, b, c] 38 (0, 0))) := Lib.hid fun W hK => by
      rcases hK.box fn4.out G1.out with e | e
      · exact ⟨_, _, _, e⟩
      · rw [← ho4.out] at e; exact ⟨_, _, _, e⟩
    have K5 : Hid (∀ W, KeepT fin w2 W → ∃ a b c, W.heap[w1.heap.size]? = some (.cells #[a, b, c] 38 (0, 0))) := Lib.hid fun W hK => by
      rcases hK.box fn5.out G2.out with e | e
      · exact ⟨_, _, _, e⟩
      · rw [← ho5.out] at e; exact ⟨_, _, _, e⟩
    refine Rb.wp_region_fx (KeepT fin) (by kernel_rfl) (fun W => KeepT fin w2 W) (fun i => match i with
      | 17 => some (fun _ W => W.heap[w0.heap.size]? = some o4)
      | 18 => some (fun _ W => W.heap[w1.heap.size]? = some o5)
      | _ => none) (fun i => match i with
      | 16 => some (.bool b)
      | _ => none) (by kernel_rfl) (KeepT.refl _ _).drew (fun w w' h hb => h.trans hb) ?tst ?_
    case tst =>
      intro j φ x W W' hp hx hb
      match j, hp with
      | 17, hp => cases hp; exact hb.done fn4.out hx
      | 18, hp => cases hp; exact hb.done fn5.out hx
    repeat (first
      | (refine Rb.wpAs_skip rfl ?_; simp only [Act.put, List.setIfInBounds_toArray, List.set_cons_zero, List.set_cons_succ])
      | (refine Rb.wpAs_pure (v := ?_) rfl rfl ?_ ?_; rotate_left; (intro W hC hE; clear hE; (obtain ⟨y0, y1, _⟩ := two_cells (KS.out W hC); obtain ⟨_, z0, z1, z2, _, _⟩ := FXK.out W hC; obtain ⟨_, u0, u1, u2, _, _⟩ := FYK.out W hC; obtain ⟨k0, k1, k2, k3, _⟩ := (HG.out.below (HW0.out W hC)).at 1 rfl); clear hC; go_simp; done); simp only [Act.put, List.setIfInBounds_toArray, List.set_cons_zero, List.set_cons_succ])
      | (refine Rb.wpAs_pure (v := ?_) rfl rfl ?_ ?_; rotate_left; (intro W hC hE; clear hE; (obtain ⟨y0, y1, _⟩ := two_cells (KS.out W hC); obtain ⟨_, z0, z1, z2, _, _⟩ := FXK.out W hC; obtain ⟨_, u0, u1, u2, _, _⟩ := FYK.out W hC; obtain ⟨k0, k1, k2, k3, _⟩ := (HG.out.below (HW0.out W hC)).at 1 rfl); clear hC; go_simp; with_reducible rfl); simp only [Act.put, List.setIfInBounds_toArray, List.set_cons_zero, List.set_cons_succ]))
    refine Rb.wpAs_fixed rfl rfl rfl ?_ ?_
    · intro W hC hE
      clear hE
      refine Rb.does_enter (f := 75) (args := #[.agg #[v0, v1, v2, v3], .agg #[.int .i64 0, .slice (some ad) m ci]]) ?_ ?_
      · go_simp
      · refine (hcl.out W hC).mono ?_
        rintro e W' ⟨rfl, hg⟩
        exact ⟨_, rfl, rfl, KeepT.of_below hg⟩
    simp only [Act.put, List.setIfInBounds_toArray, List.set_cons_zero, List.set_cons_succ]
    refine Rb.wpAs_act rfl rfl ?_ ?_
    · intro W hC hE
      clear hE
      obtain ⟨a, b, c, G⟩ := K4.out W hC
      obtain ⟨q0, q1, q2, q3, _⟩ := three_cells G
      obtain ⟨W1, hW1, g1, gr1, _⟩ := put_three (a' := .int .u8 (x0.1.1.toNat : Int)) (b' := .int .u32 x0.1.2.1) (c' := .int .u32 x0.1.2.2) G
      rw [ho4.out] at g1
      have hk := Lib.hid (KeepT.of_grown gr1 fn4.out g1)
      replace g1 := Lib.hid g1
      clear gr1 G hC
      go_simp
      exact ⟨g1.out, hk.out⟩
    simp only [Act.put, Rb.envAdd]
    intro _
    refine Rb.wpAs_act rfl rfl ?_ ?_
    · intro W hC hE
      clear hE
      obtain ⟨a, b, c, G⟩ := K5.out W hC
      obtain ⟨q0, q1, q2, q3, _⟩ := three_cells G
      obtain ⟨W1, hW1, g1, gr1, _⟩ := put_three (a' := .int .u8 (yl.1.1.toNat : Int)) (b' := .int .u32 yl.1.2.1) (c' := .int .u32 yl.1.2.2) G
      rw [ho5.out] at g1
      have hk := Lib.hid (KeepT.of_grown gr1 fn5.out g1)
      replace g1 := Lib.hid g1
      clear gr1 G hC
      go_simp
      exact ⟨g1.out, hk.out⟩
    simp only [Act.put, Rb.envAdd]
    intro _
    repeat (first
      | (refine Rb.wpAs_skip rfl ?_; simp only [Act.put, List.setIfInBounds_toArray, List.set_cons_zero, List.set_cons_succ])
      | (refine Rb.wpAs_pure (v := ?_) rfl rfl ?_ ?_; rotate_left; (intro W hC hE; clear hE; skip; clear hC; go_simp; done); simp only [Act.put, List.setIfInBounds_toArray, List.set_cons_zero, List.set_cons_succ])
      | (refine Rb.wpAs_pure (v := ?_) rfl rfl ?_ ?_; rotate_left; (intro W hC hE; clear hE; skip; clear hC; go_simp; with_reducible rfl); simp only [Act.put, List.setIfInBounds_toArray, List.set_cons_zero, List.set_cons_succ]))
    refine Rb.wpAs_end fun W hC hE => ?_
    have e5 := hE.1
    have e4 := hE.2.1
    have hB9 := Lib.hid (HW0.out W hC)
    rw [← ho4.out] at e4
    rw [← ho5.out] at e5
    obtain ⟨n0, n1, n2, _⟩ := three_cells e4
    obtain ⟨q0, q1, q2, _⟩ := three_cells e5
    replace e4 := Lib.hid e4
    replace e5 := Lib.hid e5
    clear hE hC
    go_wp2_with fail
    refine bodyPost_ret (v := .tuple #[kyV x0.1, kyV yl.1, .bool b]) (by simp [results, go_sem, n0, n1, n2, q0, q1, q2]) rfl ?_
    exact ends_ret (x0.1) (yl.1) b (hR.out.trans hfin.out) hB9.out
  | succ l1 =>
    have hrec := Lib.hid (hr0 l1 rfl)
    have c0 : (lw == 0) = false := by have := hlv.out; simp; omega
    have c1 : lw - 1 = (l1 : Int) := by have := hlv.out; omega
    have c2 : IntKind.i64.wrap (l1 : Int) = (l1 : Int) := by
      have := (mayN_of hmn.out).1.2.1
      rw [hlw.out, hlv.out] at this
      exact IntWalk.i64_in _ (by omega)
    have hRC : Hid (R = chainO (spanO s l1) l) := Lib.hid (hR1.out l1 hlv.out)
    replace hm1 := Lib.hid hm1
    clear hR0 hR1 hx0 hyl FX0
    go_enter Tryz.func74, Tryz.ntmps74
    go_upto_region 1 with fail
    clear hw0 hw1 hw2
    go_wp2_with fail
    clear y0 y1
    go_loopw [37] (fun vi wr => ∃ (k : Nat) (t : Ky), k ≤ m ∧ vi = .int .i64 k ∧ StC (spanO s l1) l k t ∧ Below w.heap.size w wr ∧ w2.heap.size ≤ wr.heap.size ∧ BoxW w.heap.size #[.int .i64 lw, .slice (some ad) m ci] 57 wr ∧ BoxW w0.heap.size #[.int .u8 0, .int .u32 0, .int .u32 0] 38 wr ∧ BoxW w1.heap.size #[.int .u8 (t.1.toNat : Int), .int .u32 t.2.1, .int .u32 t.2.2] 38 wr) (fun vi _ => m - (intOf vi).toNat)
    case atStart => exact ⟨0, keyZ, by omega, rfl, .inl rfl, BB.out, Nat.le_refl _, G0.out, G1.out, G2.out⟩
    case round =>
      obtain ⟨k, t, hk, rfl, hst, hbr, hsz, g0, g1, g2⟩ := hrel
      have HR := Lib.hid (HG.out.below hbr)
      have BR := Lib.hid hbr
      have SZ := Lib.hid hsz
      clear hbr hsz
      by_cases hlt : k < m
      case neg =>
        have hkm : k = m := by omega
        have hf : Hid (R = some (x0.1, t)) := Lib.hid (by
          subst hkm
          rcases hst with e | ⟨f, e⟩
          · omega
          · have e1 := chain_key hx0'.out (by omega) (by rw [hlm.out]; omega) e
            rw [List.take_of_length_le (by rw [hlm.out]; omega)] at e
            rw [hRC.out, e, ← e1])
        have i0 : (0 : Int) < (m : Int) := by omega
        have FXr := Lib.hid (fun W (hW : Below wr.heap.size wr W) => (its_first (HR.out.at 3 rfl : rIts (Old wr) wr [.slice (some ad) m ci] l) hx0'.out))
        obtain ⟨ad', E6, ce6, e6, _, FZ⟩ := its_first (HR.out.at 3 rfl : rIts (Old wr) wr [.slice (some ad) m ci] l) hx0'.out
        cases e6
        have FZ' := Lib.hid (fun W (hW : Below wr.heap.size wr W) => (FZ W hW).1)
        replace hst := Lib.hid hst
        replace g0 := Lib.hid g0
        replace g1 := Lib.hid g1
        replace g2 := Lib.hid g2
        clear FXr FZ hkm
        go_upto_region 14 with fail
        obtain ⟨y0, y1, _⟩ := two_cells g0.out
        obtain ⟨z0, z1, z2, _, _⟩ := FZ'.out wr (Below.refl _ _)
        have G4 : wr.heap[w0.heap.size]? = _ := g1.out
        have G5 : wr.heap[w1.heap.size]? = _ := g2.out
        obtain ⟨q0, q1, q2, q3, _⟩ := three_cells G5
        have BW := Lib.hid BR.out
        obtain ⟨W8, hW8, g8, gr8, gs8⟩ := put_three (a' := .int .u8 ((x0.1).1.toNat : Int)) (b' := .int .u32 (x0.1).2.1) (c' := .int .u32 (x0.1).2.2) G4
        have G8 : W8.heap[w1.heap.size]? = _ := (gr8.block w1.heap.size (Array.getElem?_eq_some_iff.1 G5).1 (by simp; have := lo.out; omega)).trans G5
        obtain ⟨W9, hW9, g9, gr9, gs9⟩ := put_three (a' := .int .u8 ((t).1.toNat : Int)) (b' := .int .u32 (t).2.1) (c' := .int .u32 (t).2.2) G8
        have g8' : W9.heap[w0.heap.size]? = _ := (gr9.block w0.heap.size (Array.getElem?_eq_some_iff.1 g8).1 (by simp; have := lo.out; omega)).trans g8
        obtain ⟨f4, f5, f6, f7, _⟩ := three_cells G4
        obtain ⟨j4, j5, j6, j7, _⟩ := three_cells G8
        obtain ⟨n0, n1, n2, _, _⟩ := three_cells g8'
        obtain ⟨o0, o1, o2, _, _⟩ := three_cells g9
        have hB9 := Lib.hid ((BW.out.grown gr8 BW.out.size (fun q e => by cases e; have := lo.out; omega)).grown gr9 (Nat.le_trans BW.out.size gr8.size) (fun q e => by cases e; have := lo.out; omega))
        replace G4 := Lib.hid G4
        replace G5 := Lib.hid G5
        replace G8 := Lib.hid G8
        replace g8 := Lib.hid g8
        replace g8' := Lib.hid g8'
        replace g9 := Lib.hid g9
        clear gr8 gr9 gs8 gs9
        go_region
        all_goals
          go_wp2_with fail
          refine bodyPost_ret (v := .tuple #[kyV x0.1, kyV t, .bool true]) (by simp [results, go_sem, n0, n1, n2, o0, o1, o2]) rfl ?_
          exact ends_ret (x0.1) (t) true (hR.out.trans hf.out) (below_drewN hB9.out _)
      obtain ⟨x, hx⟩ : ∃ x, l[k]? = some x := ⟨_, List.getElem?_eq_getElem (by rw [hlm.out]; exact hlt)⟩
      obtain ⟨ad', E5, ce5, e5, _, _, _, FZ⟩ := its_old (HR.out.at 3 rfl : rIts (Old wr) wr [.slice (some ad) m ci] l) hx
      cases e5
      obtain ⟨⟨z0, z1, z2, z3, z4⟩, _⟩ := FZ wr (Below.refl _ _)
      have hno1 := Lib.hid (fun h1 => hRC.out.trans (chain_no1 (g := spanO s l1) hx h1))
      have hno2 := Lib.hid (fun p h1 h2 => hRC.out.trans (chain_no2 (g := spanO s l1) (p := p) hx h1 h2))
      have hno3 := Lib.hid (fun h1 h2 => hRC.out.trans (chain_no3 (g := spanO s l1) hx h1 hst h2))
      have hyes := Lib.hid (fun p h1 h2 h3 => chain_yes (g := spanO s l1) (p := p) hx hst h1 h2 h3)
      have i4 : (0 : Int) ≤ (k : Int) := by omega
      have i5 : (k : Int) < (m : Int) := by omega
      replace hst := Lib.hid hst
      replace hx := Lib.hid hx
      obtain ⟨w3, hw3, hg3, hB3, -, hs3⟩ := bag_item (((HR.out.add (F := BoxW _ _ _) g2 (lasts_boxW _ _ _)).add (F := BoxW _ _ _) g1 (lasts_boxW _ _ _)).add (F := BoxW _ _ _) g0 (lasts_boxW _ _ _)) (Below.refl _ _) (.int .u8 (x.1.1.toNat : Int)) (.int .u32 x.1.2.1) (.int .u32 x.1.2.2) (.int .i64 x.2.1) (.slice E5 x.2.2.length ce5)
      have H3 := Lib.hid hg3
      have B3 := Lib.hid (BR.out.trans (hB3.mono BR.out.size))
      have S3 := Lib.hid (Nat.le_trans SZ.out hB3.size)
      replace hs3 := Lib.hid hs3
      clear FZ hg3 hB3 g0 g1 g2 HR BR SZ
      go_upto_region 6 with fail
      clear hw3 z0 z1 z2 z3 z4
      obtain ⟨k0, k1, k2, k3, _⟩ := H3.out.at 5 rfl
      obtain ⟨r0, r1, r2, r3, r4, _⟩ := H3.out.at 0 rfl
      have hNd := Lib.hid (fun v W hW => nodeR_open v s x.2.1 W hW)
      have hmy := Lib.hid (fun hh => (rm_may (s := s) (a := x.2.1) hh).1)
      have hsn := Lib.hid (fun hh => hno1.out (span_no (s := s) (l := l1) (a := x.2.1) hh))
      have hsy := Lib.hid (fun h1 h2 => span_yes (s := s) (l := l1) (a := x.2.1) h1 h2)
      obtain ⟨nb, hnb⟩ : ∃ q, rmV s x.2.1 = q := ⟨_, rfl⟩
      obtain ⟨eb, heb⟩ : ∃ q, rmE s x.2.1 = q := ⟨_, rfl⟩
      rw [hnb, heb] at hNd hsn hsy
      rw [hnb, heb] at hmy
      obtain ⟨lb, hlb⟩ : ∃ q, nb.1 = q := ⟨_, rfl⟩
      obtain ⟨mb, hmb⟩ : ∃ q, nb.2.length = q := ⟨_, rfl⟩
      rw [hlb, hmb] at hNd hsn
      rw [hlb] at hsy
      replace hnb := Lib.hid hnb
      replace heb := Lib.hid heb
      replace hlb := Lib.hid hlb
      replace hmb := Lib.hid hmb
      go_wp2_with fail
      with_reducible refine (hNd.out _ _ (H3.out.at 8 rfl)).mono ?_
      rintro e w4 ⟨Z, zc, rfl, -, h4n, hb4⟩
      obtain ⟨w5, hw5, hg5, hB5, -, hs5⟩ := bag_node ((H3.out.below hb4).add (F := OldN _ nb) h4n.drop (lasts_oldN _ _)) (Below.refl _ _) (.int .i64 lb) (.slice Z mb zc)
      have H5 := Lib.hid hg5
      have B5 := Lib.hid (B3.out.trans ((hb4.trans (hB5.mono hb4.size)).mono B3.out.size))
      have S5 := Lib.hid (Nat.le_trans S3.out (hb4.trans (hB5.mono hb4.size)).size)
      replace hs5 := Lib.hid hs5
      clear k0 k1 k2 k3 r0 r1 r2 r3 r4 hg5 hB5 hb4 h4n H3 B3 S3 hNd
      go_upto_region 7 with fail
      clear hw5
      obtain ⟨y0, y1, _⟩ := H5.out.at 0 rfl
      obtain ⟨f0, f1, _⟩ := two_cells (H5.out.at 3 rfl)
      by_cases he : eb = 0
      case neg =>
        have e1 : (eb != 0) = true := by simpa using he
        have hf := Lib.hid (hsn.out (fun hh => he hh.1))
        clear he
        have G4 : w5.heap[w0.heap.size]? = _ := H5.out.at 4 rfl
        have G5 : w5.heap[w1.heap.size]? = _ := H5.out.at 5 rfl
        have BW := Lib.hid B5.out
        obtain ⟨W8, hW8, g8, gr8, gs8⟩ := put_three (a' := .int .u8 0) (b' := .int .u32 0) (c' := .int .u32 0) G4
        have G8 : W8.heap[w1.heap.size]? = _ := (gr8.block w1.heap.size (Array.getElem?_eq_some_iff.1 G5).1 (by simp; have := lo.out; omega)).trans G5
        obtain ⟨W9, hW9, g9, gr9, gs9⟩ := put_three (a' := .int .u8 0) (b' := .int .u32 0) (c' := .int .u32 0) G8
        have g8' : W9.heap[w0.heap.size]? = _ := (gr9.block w0.heap.size (Array.getElem?_eq_some_iff.1 g8).1 (by simp; have := lo.out; omega)).trans g8
        obtain ⟨f4, f5, f6, f7, _⟩ := three_cells G4
        obtain ⟨j4, j5, j6, j7, _⟩ := three_cells G8
        obtain ⟨n0, n1, n2, _, _⟩ := three_cells g8'
        obtain ⟨o0, o1, o2, _, _⟩ := three_cells g9
        have hB9 := Lib.hid ((BW.out.grown gr8 BW.out.size (fun q e => by cases e; have := lo.out; omega)).grown gr9 (Nat.le_trans BW.out.size gr8.size) (fun q e => by cases e; have := lo.out; omega))
        replace G4 := Lib.hid G4
        replace G5 := Lib.hid G5
        replace G8 := Lib.hid G8
        replace g8 := Lib.hid g8
        replace g8' := Lib.hid g8'
        replace g9 := Lib.hid g9
        clear gr8 gr9 gs8 gs9
        go_wp2_with fail
        refine bodyPost_ret (v := .tuple #[.agg #[.int .u8 0, .int .u32 0, .int .u32 0], .agg #[.int .u8 0, .int .u32 0, .int .u32 0], .bool false]) (by simp [results, go_sem, n0, n1, n2, o0, o1, o2]) rfl ?_
        exact ends_ret (keyZ) (keyZ) false (hR.out.trans hf.out) hB9.out
      subst he
      by_cases hv : lb = (l1 : Int)
      case neg =>
        have e1 : (lb != (l1 : Int)) = true := by simpa using hv
        have hf := Lib.hid (hsn.out (fun hh => hv hh.2.1))
        clear hv
        have G4 : w5.heap[w0.heap.size]? = _ := H5.out.at 4 rfl
        have G5 : w5.heap[w1.heap.size]? = _ := H5.out.at 5 rfl
        have BW := Lib.hid B5.out
        obtain ⟨W8, hW8, g8, gr8, gs8⟩ := put_three (a' := .int .u8 0) (b' := .int .u32 0) (c' := .int .u32 0) G4
        have G8 : W8.heap[w1.heap.size]? = _ := (gr8.block w1.heap.size (Array.getElem?_eq_some_iff.1 G5).1 (by simp; have := lo.out; omega)).trans G5
        obtain ⟨W9, hW9, g9, gr9, gs9⟩ := put_three (a' := .int .u8 0) (b' := .int .u32 0) (c' := .int .u32 0) G8
        have g8' : W9.heap[w0.heap.size]? = _ := (gr9.block w0.heap.size (Array.getElem?_eq_some_iff.1 g8).1 (by simp; have := lo.out; omega)).trans g8
        obtain ⟨f4, f5, f6, f7, _⟩ := three_cells G4
        obtain ⟨j4, j5, j6, j7, _⟩ := three_cells G8
        obtain ⟨n0, n1, n2, _, _⟩ := three_cells g8'
        obtain ⟨o0, o1, o2, _, _⟩ := three_cells g9
        have hB9 := Lib.hid ((BW.out.grown gr8 BW.out.size (fun q e => by cases e; have := lo.out; omega)).grown gr9 (Nat.le_trans BW.out.size gr8.size) (fun q e => by cases e; have := lo.out; omega))
        replace G4 := Lib.hid G4
        replace G5 := Lib.hid G5
        replace G8 := Lib.hid G8
        replace g8 := Lib.hid g8
        replace g8' := Lib.hid g8'
        replace g9 := Lib.hid g9
        clear gr8 gr9 gs8 gs9
        go_wp2_with fail
        refine bodyPost_ret (v := .tuple #[.agg #[.int .u8 0, .int .u32 0, .int .u32 0], .agg #[.int .u8 0, .int .u32 0, .int .u32 0], .bool false]) (by simp [results, go_sem, n0, n1, n2, o0, o1, o2]) rfl ?_
        exact ends_ret (keyZ) (keyZ) false (hR.out.trans hf.out) hB9.out
      have e1 : (lb != (l1 : Int)) = false := by simp [hv]
      replace hv := Lib.hid hv
      by_cases hz : mb = 0
      · have e2 : ((mb : Int) == 0) = true := by simp [hz]
        have hf := Lib.hid (hsn.out (fun hh => hh.2.2 hz))
        replace hz := Lib.hid hz
        have G4 : w5.heap[w0.heap.size]? = _ := H5.out.at 4 rfl
        have G5 : w5.heap[w1.heap.size]? = _ := H5.out.at 5 rfl
        have BW := Lib.hid B5.out
        obtain ⟨W8, hW8, g8, gr8, gs8⟩ := put_three (a' := .int .u8 0) (b' := .int .u32 0) (c' := .int .u32 0) G4
        have G8 : W8.heap[w1.heap.size]? = _ := (gr8.block w1.heap.size (Array.getElem?_eq_some_iff.1 G5).1 (by simp; have := lo.out; omega)).trans G5
        obtain ⟨W9, hW9, g9, gr9, gs9⟩ := put_three (a' := .int .u8 0) (b' := .int .u32 0) (c' := .int .u32 0) G8
        have g8' : W9.heap[w0.heap.size]? = _ := (gr9.block w0.heap.size (Array.getElem?_eq_some_iff.1 g8).1 (by simp; have := lo.out; omega)).trans g8
        obtain ⟨f4, f5, f6, f7, _⟩ := three_cells G4
        obtain ⟨j4, j5, j6, j7, _⟩ := three_cells G8
        obtain ⟨n0, n1, n2, _, _⟩ := three_cells g8'
        obtain ⟨o0, o1, o2, _, _⟩ := three_cells g9
        have hB9 := Lib.hid ((BW.out.grown gr8 BW.out.size (fun q e => by cases e; have := lo.out; omega)).grown gr9 (Nat.le_trans BW.out.size gr8.size) (fun q e => by cases e; have := lo.out; omega))
        replace G4 := Lib.hid G4
        replace G5 := Lib.hid G5
        replace G8 := Lib.hid G8
        replace g8 := Lib.hid g8
        replace g8' := Lib.hid g8'
        replace g9 := Lib.hid g9
        clear gr8 gr9 gs8 gs9
        go_wp2_with fail
        refine bodyPost_ret (v := .tuple #[.agg #[.int .u8 0, .int .u32 0, .int .u32 0], .agg #[.int .u8 0, .int .u32 0, .int .u32 0], .bool false]) (by simp [results, go_sem, n0, n1, n2, o0, o1, o2]) rfl ?_
        exact ends_ret (keyZ) (keyZ) false (hR.out.trans hf.out) hB9.out
      have e2 : ((mb : Int) == 0) = false := by simpa using hz
      replace hz := Lib.hid hz
      have hspan := Lib.hid (hsy.out rfl hv.out)
      have hmb' := Lib.hid (hmy.out rfl)
      obtain ⟨c3, c4⟩ := (H5.out.at 6 rfl : BoxF Be (cloE Bs Be) w5)
      have hcall := Lib.hid (hrec.out (.agg #[.int .i64 lb, .slice Z mb zc]) v0 v1 v2 v3 nb Bs Be w5 hmb'.out (by rw [hlb.out, hv.out]) (by rw [hmb.out]; exact hz.out) (H5.out.at 1 rfl) (H5.out.at 10 rfl) (H5.out.at 7 rfl) (H5.out.at 6 rfl))
      clear hsn hsy hmy
      go_upto_region 9 with fail
      clear e1 e2 f0 f1
      go_wp2_with fail
      with_reducible refine hcall.out.mono ?_
      rintro e w6 ⟨f', t', ok, rfl, hsp, hb6⟩
      obtain ⟨w7, hw7, p0, p1, p2, hs7, hB7, _⟩ := box_three w6 (.int .u8 (f'.1.toNat : Int)) (.int .u32 f'.2.1) (.int .u32 f'.2.2) 38
      have hg7 := ((H5.out.below hb6).below hB7).add (F := Box3 w6.heap.size _ _ _) ⟨p0, p1, p2, by omega⟩ (lasts_box3 _ _ _ _)
      obtain ⟨w8, hw8, hg8, hB8, hB8', hs8⟩ := bag_key hg7 (Below.refl _ _) (.int .u8 (t'.1.toNat : Int)) (.int .u32 t'.2.1) (.int .u32 t'.2.2)
      have H8 := Lib.hid hg8
      have hb8 := hb6.trans ((hB7.trans (hB8.mono hB7.size)).mono hb6.size)
      have B8 := Lib.hid (B5.out.trans (hb8.mono B5.out.size))
      have S8 := Lib.hid (Nat.le_trans S5.out hb8.size)
      replace hs8 := Lib.hid hs8
      clear p0 p1 p2 hg7 hg8 hB7 hB8 hB8' hb6 hb8 y0 y1 c3 c4 hcall H5 B5 S5
      go_upto_region 10 with fail
      clear hw7 hw8
      obtain ⟨p0, p1, p2, _⟩ := H8.out.at 1 rfl
      obtain ⟨q0, q1, q2, _⟩ := H8.out.at 0 rfl
      rw [hs7] at q0 q1 q2
      replace hs7 := Lib.hid hs7
      obtain ⟨r0, r1, r2, r3, r4, _⟩ := H8.out.at 4 rfl
      have hg2 : w8.heap[w1.heap.size]? = _ := H8.out.at 7 rfl
      obtain ⟨d0, d1, d2, d3, _⟩ := three_cells hg2
      have G4 : w8.heap[w0.heap.size]? = _ := H8.out.at 6 rfl
      have G5 : w8.heap[w1.heap.size]? = _ := H8.out.at 7 rfl
      have BW := Lib.hid B8.out
      replace hg2 := Lib.hid hg2
      cases ok with
      | false =>
        have hf := Lib.hid (hno1.out (hspan.out.trans hsp))
        clear d3 hno2 hno3 hyes
        obtain ⟨W8, hW8, g8, gr8, gs8⟩ := put_three (a' := .int .u8 0) (b' := .int .u32 0) (c' := .int .u32 0) G4
        have G8 : W8.heap[w1.heap.size]? = _ := (gr8.block w1.heap.size (Array.getElem?_eq_some_iff.1 G5).1 (by simp; have := lo.out; omega)).trans G5
        obtain ⟨W9, hW9, g9, gr9, gs9⟩ := put_three (a' := .int .u8 0) (b' := .int .u32 0) (c' := .int .u32 0) G8
        have g8' : W9.heap[w0.heap.size]? = _ := (gr9.block w0.heap.size (Array.getElem?_eq_some_iff.1 g8).1 (by simp; have := lo.out; omega)).trans g8
        obtain ⟨f4, f5, f6, f7, _⟩ := three_cells G4
        obtain ⟨j4, j5, j6, j7, _⟩ := three_cells G8
        obtain ⟨n0, n1, n2, _, _⟩ := three_cells g8'
        obtain ⟨o0, o1, o2, _, _⟩ := three_cells g9
        have hB9 := Lib.hid ((BW.out.grown gr8 BW.out.size (fun q e => by cases e; have := lo.out; omega)).grown gr9 (Nat.le_trans BW.out.size gr8.size) (fun q e => by cases e; have := lo.out; omega))
        replace G4 := Lib.hid G4
        replace G5 := Lib.hid G5
        replace G8 := Lib.hid G8
        replace g8 := Lib.hid g8
        replace g8' := Lib.hid g8'
        replace g9 := Lib.hid g9
        clear gr8 gr9 gs8 gs9
        go_wp2_with fail
        refine bodyPost_ret (v := .tuple #[.agg #[.int .u8 0, .int .u32 0, .int .u32 0], .agg #[.int .u8 0, .int .u32 0, .int .u32 0], .bool false]) (by simp [results, go_sem, n0, n1, n2, o0, o1, o2]) rfl ?_
        exact ends_ret (keyZ) (keyZ) false (hR.out.trans hf.out) hB9.out
      | true =>
      have hsp' := Lib.hid (hspan.out.trans (hsp.trans (if_pos rfl)))
      have hke := key_eq f' x.1
      have hkg := key_guard
      unfold kyV at hke
      by_cases hkk : f' = x.1
      case neg =>
        have g3 : decide (f' = x.1) = false := by simpa using hkk
        rw [g3] at hke
        have hf := Lib.hid (hno2.out _ hsp'.out hkk)
        clear d3 hkk hno1 hno2 hno3 hyes
        obtain ⟨W8, hW8, g8, gr8, gs8⟩ := put_three (a' := .int .u8 0) (b' := .int .u32 0) (c' := .int .u32 0) G4
        have G8 : W8.heap[w1.heap.size]? = _ := (gr8.block w1.heap.size (Array.getElem?_eq_some_iff.1 G5).1 (by simp; have := lo.out; omega)).trans G5
        obtain ⟨W9, hW9, g9, gr9, gs9⟩ := put_three (a' := .int .u8 0) (b' := .int .u32 0) (c' := .int .u32 0) G8
        have g8' : W9.heap[w0.heap.size]? = _ := (gr9.block w0.heap.size (Array.getElem?_eq_some_iff.1 g8).1 (by simp; have := lo.out; omega)).trans g8
        obtain ⟨f4, f5, f6, f7, _⟩ := three_cells G4
        obtain ⟨j4, j5, j6, j7, _⟩ := three_cells G8
        obtain ⟨n0, n1, n2, _, _⟩ := three_cells g8'
        obtain ⟨o0, o1, o2, _, _⟩ := three_cells g9
        have hB9 := Lib.hid ((BW.out.grown gr8 BW.out.size (fun q e => by cases e; have := lo.out; omega)).grown gr9 (Nat.le_trans BW.out.size gr8.size) (fun q e => by cases e; have := lo.out; omega))
        replace G4 := Lib.hid G4
        replace G5 := Lib.hid G5
        replace G8 := Lib.hid G8
        replace g8 := Lib.hid g8
        replace g8' := Lib.hid g8'
        replace g9 := Lib.hid g9
        clear gr8 gr9 gs8 gs9
        go_wp2_with fail
        refine bodyPost_ret (v := .tuple #[.agg #[.int .u8 0, .int .u32 0, .int .u32 0], .agg #[.int .u8 0, .int .u32 0, .int .u32 0], .bool false]) (by simp [results, go_sem, n0, n1, n2, o0, o1, o2]) rfl ?_
        exact ends_ret (keyZ) (keyZ) false (hR.out.trans hf.out) hB9.out
      have g3 : decide (f' = x.1) = true := by simpa using hkk
      rw [g3] at hke
      have hkk' := Lib.hid hkk
      clear hkk hno1 hno2 hsp
      by_cases hk0 : k = 0
      · have i0 : ¬ (0 : Int) < (k : Int) := by omega
        have hn := Lib.hid (hyes.out (f', t') (fun hh => absurd hk0 hh) hsp'.out hkk'.out)
        have hk0' := Lib.hid hk0
        clear hk0
        obtain ⟨W9, hW9, g9, gr9, gs9⟩ := put_three (a' := .int .u8 (t'.1.toNat : Int)) (b' := .int .u32 t'.2.1) (c' := .int .u32 t'.2.2) hg2.out
        have hB9 := Lib.hid (BW.out.grown gr9 BW.out.size (fun q e => by cases e; have := lo.out; omega))
        have S9 := Lib.hid (Nat.le_trans S8.out gr9.size)
        have b9 := Lib.hid ((gr9.block w.heap.size (by have := lo.out; have := S8.out; omega) (by simp; have := lo.out; omega)).trans (H8.out.at 5 rfl))
        have c9 := Lib.hid ((gr9.block w0.heap.size (by have := lo.out; have := S8.out; omega) (by simp; have := lo.out; omega)).trans (H8.out.at 6 rfl))
        replace g9 := Lib.hid g9
        clear gr9 gs9
        go_wp2_with fail
        go_roundw
        case rel => exact ⟨k + 1, t', by omega, by go_num, hn.out, hB9.out, S9.out, b9.out, c9.out, g9.out⟩
        case measure => simp [intOf]; omega
      · have i0 : (0 : Int) < (k : Int) := by omega
        obtain ⟨q, hq⟩ : ∃ q, lessK t x.1 = q := ⟨_, rfl⟩
        have hls := Lib.hid (less_any t x.1 w8)
        rw [hq] at hls
        go_wp2_with fail
        with_reducible refine hls.out.mono ?_
        rintro e w9 ⟨rfl, hb9⟩
        cases q with
        | false =>
          have hf := Lib.hid (hno3.out hk0 hq)
          replace G4 := (hb9.block w0.heap.size (by have := lo.out; have := S8.out; omega)).trans G4
          replace G5 := (hb9.block w1.heap.size (by have := lo.out; have := S8.out; omega)).trans G5
          replace BW := Lib.hid (B8.out.trans (hb9.mono B8.out.size))
          replace hq := Lib.hid hq
          clear d0 d1 d2 d3 hb9 hno3 hyes hk0
          obtain ⟨W8, hW8, g8, gr8, gs8⟩ := put_three (a' := .int .u8 0) (b' := .int .u32 0) (c' := .int .u32 0) G4
          have G8 : W8.heap[w1.heap.size]? = _ := (gr8.block w1.heap.size (Array.getElem?_eq_some_iff.1 G5).1 (by simp; have := lo.out; omega)).trans G5
          obtain ⟨W9, hW9, g9, gr9, gs9⟩ := put_three (a' := .int .u8 0) (b' := .int .u32 0) (c' := .int .u32 0) G8
          have g8' : W9.heap[w0.heap.size]? = _ := (gr9.block w0.heap.size (Array.getElem?_eq_some_iff.1 g8).1 (by simp; have := lo.out; omega)).trans g8
          obtain ⟨f4, f5, f6, f7, _⟩ := three_cells G4
          obtain ⟨j4, j5, j6, j7, _⟩ := three_cells G8
          obtain ⟨n0, n1, n2, _, _⟩ := three_cells g8'
          obtain ⟨o0, o1, o2, _, _⟩ := three_cells g9
          have hB9 := Lib.hid ((BW.out.grown gr8 BW.out.size (fun q e => by cases e; have := lo.out; omega)).grown gr9 (Nat.le_trans BW.out.size gr8.size) (fun q e => by cases e; have := lo.out; omega))
          replace G4 := Lib.hid G4
          replace G5 := Lib.hid G5
          replace G8 := Lib.hid G8
          replace g8 := Lib.hid g8
          replace g8' := Lib.hid g8'
          replace g9 := Lib.hid g9
          clear gr8 gr9 gs8 gs9
          go_wp2_with fail
          refine bodyPost_ret (v := .tuple #[.agg #[.int .u8 0, .int .u32 0, .int .u32 0], .agg #[.int .u8 0, .int .u32 0, .int .u32 0], .bool false]) (by simp [results, go_sem, n0, n1, n2, o0, o1, o2]) rfl ?_
          exact ends_ret (keyZ) (keyZ) false (hR.out.trans hf.out) hB9.out
        | true =>
          have hn := Lib.hid (hyes.out (f', t') (fun _ => hq) hsp'.out hkk'.out)
          replace H8 := Lib.hid (H8.out.below hb9)
          replace B8 := Lib.hid (B8.out.trans (hb9.mono B8.out.size))
          replace S8 := Lib.hid (Nat.le_trans S8.out hb9.size)
          replace BW := Lib.hid B8.out
          replace hq := Lib.hid hq
          replace hg2 : Hid (w9.heap[w1.heap.size]? = _) := Lib.hid (H8.out.at 7 rfl)
          clear hb9 p0 p1 p2 q0 q1 q2 r0 r1 r2 r3 r4 d0 d1 d2 d3 G4 G5 hno3 hyes hk0
          obtain ⟨q0, q1, q2, _⟩ := H8.out.at 0 rfl
          rw [hs7.out] at q0 q1 q2
          obtain ⟨d0, d1, d2, d3, _⟩ := three_cells hg2.out
          obtain ⟨W9, hW9, g9, gr9, gs9⟩ := put_three (a' := .int .u8 (t'.1.toNat : Int)) (b' := .int .u32 t'.2.1) (c' := .int .u32 t'.2.2) hg2.out
          have hB9 := Lib.hid (BW.out.grown gr9 BW.out.size (fun q e => by cases e; have := lo.out; omega))
          have S9 := Lib.hid (Nat.le_trans S8.out gr9.size)
          have b9 := Lib.hid ((gr9.block w.heap.size (by have := lo.out; have := S8.out; omega) (by simp; have := lo.out; omega)).trans (H8.out.at 5 rfl))
          have c9 := Lib.hid ((gr9.block w0.heap.size (by have := lo.out; have := S8.out; omega) (by simp; have := lo.out; omega)).trans (H8.out.at 6 rfl))
          replace g9 := Lib.hid g9
          clear gr9 gs9
          go_wp2_with fail
          go_roundw
          case rel => exact ⟨k + 1, t', by omega, by go_num, hn.out, hB9.out, S9.out, b9.out, c9.out, g9.out⟩
          case measure => simp [intOf]; omega
theorem ends_any (s : Rm) (hm : mayR s = true) : ∀ l : Nat, EndsIs s l := by
  intro l
  induction l using Nat.strongRecOn with
  | ind l ih => exact ends_step s hm l fun j hj => ih j (by omega)
end Go.Proofs.YtdaidhbmfocodaaGreat

/-
  Package find: stands, Check. Conditions: those that each lemma states.
-/
namespace Go.Proofs.YtdaidhbmfocodaaGreat
open Go.RowKit

theorem reN_eight {b : List UInt8} (h : b.length = 128) (hr : reN b ≠ 0) : reN b = 8 := by
  by_cases ho : oe b = 0
  · cases h1 : rdN (ob b) with
    | false => exact (reN_bad ho h1).1
    | true => exact absurd (reN_good ho h1).1 hr
  · have h8 : oe b = 8 := by
      unfold oe at ho ⊢
      rw [if_pos h] at ho ⊢
      split at ho
      · exact absurd rfl ho
      · rename_i hf
        rw [if_neg hf]
    rw [(reN_open ho).1, h8]
theorem box_one (w : World) (v : Value) (t : TypeId) : ∃ w1, w.alloc (.cells #[v] t) = w1 ∧ w1.cell? ⟨w.heap.size, 0, none⟩ = some v ∧ w1.heap.size = w.heap.size + 1 ∧ Below w.heap.size w w1 :=
  ⟨_, rfl, by simp, by simp, (Below.refl _ _).alloc (Nat.le_refl _) _⟩

set_option maxRecDepth 100000 in
set_option maxHeartbeats 8000000 in
theorem stands_any (v u : Value) (s : Rm) (hm : mayR s = true) (n : Nd) (hn : mayN n = true) (w : World) (h : Sto (Old w) w v s) (hu : Nod (Old w) w u n) :
    Calls Tryz.prog 49 #[v, u] w fun e w' => e = .returned (.bool (standsN s n)) ∧ Below w.heap.size w w' := by
  have hmf : ∀ (fn : Fn) (first cap : Array Value) (w : World), (Instr.makeFunc fn first cap).run Tryz.prog w = .ok (.func fn first cap) w := fun _ _ _ _ => rfl
  have hsf : ∀ (a : Addr) (fn : Fn) (x y : Array Value) (w : World), (store a (.func fn x y)).run Tryz.prog w = stored Tryz.prog w a (.func fn x y) .plain := fun _ _ _ _ _ => run_store _ _ _ _ _ rfl
  obtain ⟨A, ca, B, cb, N, cn, L, cl, rfl, _⟩ := id h.open
  obtain ⟨I, ci, rfl, -, -, -, hI⟩ := id hu.open
  obtain ⟨lw, hlw⟩ : ∃ q, n.1 = q := ⟨_, rfl⟩
  obtain ⟨m, hlm⟩ : ∃ q, n.2.length = q := ⟨_, rfl⟩
  have hlv : 0 ≤ lw := by rw [← hlw]; exact (mayN_of hn).1.1
  have hst : standsN s n = (decide (m = 0) || (spanN s n).isSome) := by rw [standsN, hlm]
  have hu' := hu
  rw [hlw, hlm] at hu'
  rw [hlw, hlm, hst]
  clear hI hst
  have HG0 : Bag w [OldN (.agg #[.int .i64 lw, .slice I m ci]) n, OldR (.agg #[.slice A s.1.1.length ca, .slice B s.1.2.length cb, .slice N s.2.1.length cn, .slice L s.2.2.length cl]) s] := ((Bag.nil w).add (F := OldR _ s) h (lasts_oldR _ _)).add (F := OldN _ n) hu' (lasts_oldN _ _)
  obtain ⟨w0, hw0, hg0, hB0, _, hs0⟩ := bag_four HG0 (Below.refl _ _) (.slice A s.1.1.length ca) (.slice B s.1.2.length cb) (.slice N s.2.1.length cn) (.slice L s.2.2.length cl) 29
  obtain ⟨w1, hw1, hg1, hB1, _, hs1⟩ := bag_node hg0 (Below.refl _ _) (.int .i64 lw) (.slice I m ci)
  obtain ⟨w2, hw2, q0, hs2, hB2⟩ := box_one w1 (cloE w.heap.size w1.heap.size) 129
  have HG := Lib.hid ((hg1.below hB2).add (F := BoxF w1.heap.size (cloE w.heap.size w1.heap.size)) ⟨q0, by omega⟩ (lasts_boxF _ _))
  have BB := Lib.hid ((hB0.trans (hB1.mono hB0.size)).trans (hB2.mono (hB0.trans (hB1.mono hB0.size)).size))
  replace hs2 := Lib.hid hs2
  replace hs1 := Lib.hid hs1
  replace hs0 := Lib.hid hs0
  replace hlw := Lib.hid hlw
  replace hlm := Lib.hid hlm
  clear HG0 hg1 hg0 h hu hu' hB2 hB1 hB0 q0
  go_enter Tryz.func49, Tryz.ntmps49
  go_upto_region 3 with fail
  clear hw0 hw1 hw2
  obtain ⟨q0, _⟩ := HG.out.at 0 rfl
  obtain ⟨y0, y1, _⟩ := HG.out.at 1 rfl
  by_cases hm0 : m = 0
  · have c0 : ((m : Int) == 0) = true := by simp [hm0]
    have hf : Hid ((decide (m = 0) || (spanN s n).isSome) = true) := Lib.hid (by simp [hm0])
    replace hm0 := Lib.hid hm0
    go_wp2_with fail
    go_ret
    exact ⟨ret_bool hf.out.symm, BB.out⟩
  have c0 : ((m : Int) == 0) = false := by simpa using hm0
  have hf : Hid ((decide (m = 0) || (spanN s n).isSome) = (spanN s n).isSome) := Lib.hid (by simp [hm0])
  have hcall := Lib.hid (ends_any s hm lw.toNat (.agg #[.int .i64 lw, .slice I m ci]) _ _ _ _ n w.heap.size w1.heap.size w2 hn (by rw [hlw.out]; omega) (by rw [hlm.out]; exact hm0) (HG.out.at 3 rfl) (HG.out.at 4 rfl) (HG.out.at 2 rfl) (HG.out.at 0 rfl))
  replace hm0 := Lib.hid hm0
  go_wp2_with fail
  with_reducible refine hcall.out.mono ?_
  rintro e w3 ⟨f, t, ok, rfl, hsp, hb3⟩
  have B3 := Lib.hid (BB.out.trans (hb3.mono BB.out.size))
  obtain ⟨w4, hw4, p0, p1, p2, hs4, hB4, _⟩ := box_three w3 (.int .u8 (f.1.toNat : Int)) (.int .u32 f.2.1) (.int .u32 f.2.2) 38
  obtain ⟨w5, hw5, r0, r1, r2, hs5, hB5, _⟩ := box_three w4 (.int .u8 (t.1.toNat : Int)) (.int .u32 t.2.1) (.int .u32 t.2.2) 38
  have B5 := Lib.hid (B3.out.trans ((hB4.trans (hB5.mono hB4.size)).mono B3.out.size))
  have hfin : Hid ((spanN s n).isSome = ok) := Lib.hid (by rw [hsp]; cases ok <;> rfl)
  replace hsp := Lib.hid hsp
  replace hs5 := Lib.hid hs5
  clear hB4 hB5 hb3 p0 p1 p2 r0 r1 r2
  go_upto_region 6 with fail
  clear hw4 hw5
  go_wp2_with fail
  go_ret
  exact ⟨ret_bool (by rw [hf.out, hfin.out]), B5.out⟩

set_option maxRecDepth 100000 in
set_option maxHeartbeats 8000000 in
theorem findCheck_any (v : Value) (s : Rm) (a : Int) (w : World) (h : Sto (Old w) w v s) :
    Calls Tryz.prog 24 #[v, .int .i64 a] w fun e w' => e = .returned (.tuple #[.int .i64 (ckH s a), .int .i64 (ckE s a)]) ∧ Below w.heap.size w w' := by
  obtain ⟨A, ca, B, cb, N, cn, L, cl, rfl, _⟩ := id h.open
  have hNd := Lib.hid (fun v W hW => nodeR_open v s a W hW)
  have hway : Hid ((rmE s a ≠ 0 ∧ ckE s a = rmE s a ∧ ckH s a = 0) ∨ (rmE s a = 0 ∧ mayR s = true ∧ mayN (rmV s a) = true ∧ 0 ≤ (rmV s a).1 ∧ (rmV s a).1 < 6 ∧ standsN s (rmV s a) = false ∧ ckE s a = 8 ∧ ckH s a = 0) ∨
      (rmE s a = 0 ∧ mayR s = true ∧ mayN (rmV s a) = true ∧ 0 ≤ (rmV s a).1 ∧ (rmV s a).1 < 6 ∧ standsN s (rmV s a) = true ∧ ckE s a = 0 ∧ ckH s a = (rmV s a).1 + 1)) := Lib.hid (by
    by_cases ha : asE s a = 0
    · by_cases hr : rmE s a = 0
      · obtain ⟨hmn, _⟩ := rm_may hr
        have hst := stands_tree hr
        obtain ⟨k, _, hm, _⟩ := as_read ha
        have hsh := (mayN_of hmn).1
        cases ht : treeO s a with
        | false => exact .inr (.inl ⟨hr, hm, hmn, hsh.1, hsh.2.1, hst.trans ht, (ck_bad ha ht).1, (ck_bad ha ht).2⟩)
        | true => exact .inr (.inr ⟨hr, hm, hmn, hsh.1, hsh.2.1, hst.trans ht, (ck_ok ha ht).1, (ck_ok ha ht).2⟩)
      · obtain ⟨k, _, hm, _, h256, _, _, hE, _, _⟩ := as_read ha
        have h8 : rmE s a = 8 := by
          rw [hE] at hr ⊢
          exact reN_eight (seen_128 (mayR_of hm).1 h256) hr
        obtain ⟨h1, h2⟩ := ck_bad ha (tree_no hr)
        exact .inl ⟨hr, h1.trans h8.symm, h2⟩
    · obtain ⟨hE, _⟩ := rm_bad ha
      obtain ⟨h1, h2⟩ := ck_no ha
      exact .inl ⟨by rw [hE]; exact ha, h1.trans hE.symm, h2⟩)
  obtain ⟨nd, hnd⟩ : ∃ q, rmV s a = q := ⟨_, rfl⟩
  obtain ⟨E0, hE0⟩ : ∃ q, rmE s a = q := ⟨_, rfl⟩
  obtain ⟨cE, hcE⟩ : ∃ q, ckE s a = q := ⟨_, rfl⟩
  obtain ⟨cH, hcH⟩ : ∃ q, ckH s a = q := ⟨_, rfl⟩
  rw [hnd, hE0] at hNd hway
  rw [hcE, hcH] at hway ⊢
  obtain ⟨lw, hlw⟩ : ∃ q, nd.1 = q := ⟨_, rfl⟩
  obtain ⟨m, hlm⟩ : ∃ q, nd.2.length = q := ⟨_, rfl⟩
  rw [hlw, hlm] at hNd
  rw [hlw] at hway
  have HG0 : Bag w [OldR (.agg #[.slice A s.1.1.length ca, .slice B s.1.2.length cb, .slice N s.2.1.length cn, .slice L s.2.2.length cl]) s] := (Bag.nil w).add (F := OldR _ s) h (lasts_oldR _ _)
  obtain ⟨w0, hw0, hg0, hB0, _, hs0⟩ := bag_four HG0 (Below.refl _ _) (.slice A s.1.1.length ca) (.slice B s.1.2.length cb) (.slice N s.2.1.length cn) (.slice L s.2.2.length cl) 29
  have HG := Lib.hid hg0
  have BB := Lib.hid hB0
  obtain ⟨s0, s1, s2, s3, _⟩ := HG.out.at 0 rfl
  replace hs0 := Lib.hid hs0
  replace hnd := Lib.hid hnd
  replace hE0 := Lib.hid hE0
  replace hcE := Lib.hid hcE
  replace hcH := Lib.hid hcH
  replace hlw := Lib.hid hlw
  replace hlm := Lib.hid hlm
  clear HG0 hg0 h hB0
  go_enter Tryz.func24, Tryz.ntmps24
  go_upto_region 1 with fail
  clear hw0
  go_wp2_with fail
  with_reducible refine (hNd.out _ _ (HG.out.at 1 rfl)).mono ?_
  rintro e w3 ⟨Z, zc, rfl, -, h3n, hb3⟩
  obtain ⟨w4, hw4, hg4, hb4, -, hs4⟩ := bag_node ((HG.out.below hb3).add (F := OldN _ nd) h3n.drop (lasts_oldN _ _)) (Below.refl _ _) (.int .i64 lw) (.slice Z m zc)
  replace HG := Lib.hid hg4
  replace BB := Lib.hid (BB.out.trans ((hb3.trans (hb4.mono hb3.size)).mono BB.out.size))
  replace hs4 := Lib.hid hs4
  clear hg4 hb4 hb3 h3n s0 s1 s2 s3 hNd
  go_upto_region 2 with fail
  clear hw4
  rcases hway.out with ⟨he, h1, h2⟩ | ⟨he, hm, hmn, l0, l6, hst, h1, h2⟩ | ⟨he, hm, hmn, l0, l6, hst, h1, h2⟩
  · have e1 : (E0 != 0) = true := by simpa using he
    replace h1 := Lib.hid h1
    replace h2 := Lib.hid h2
    clear he hway
    go_wp2_with fail
    go_ret2
    exact ⟨by rw [h1.out, h2.out]; rfl, BB.out⟩
  · have hcall := Lib.hid (stands_any _ _ s hm nd hmn w4 (HG.out.at 3 rfl) (HG.out.at 1 rfl))
    rw [hst] at hcall
    subst he
    obtain ⟨y0, y1, _⟩ := HG.out.at 0 rfl
    obtain ⟨s0, s1, s2, s3, _⟩ := HG.out.at 2 rfl
    replace h1 := Lib.hid h1
    replace h2 := Lib.hid h2
    clear hway hst hm hmn l0 l6
    go_wp2_with fail
    with_reducible refine hcall.out.mono ?_
    rintro e w5 ⟨rfl, hb5⟩
    have B5 := Lib.hid (BB.out.trans (hb5.mono BB.out.size))
    clear hb5
    go_wp2_with fail
    go_ret2
    exact ⟨by rw [h1.out, h2.out]; rfl, B5.out⟩
  · have hcall := Lib.hid (stands_any _ _ s hm nd hmn w4 (HG.out.at 3 rfl) (HG.out.at 1 rfl))
    rw [hst] at hcall
    subst he
    obtain ⟨y0, y1, _⟩ := HG.out.at 0 rfl
    obtain ⟨s0, s1, s2, s3, _⟩ := HG.out.at 2 rfl
    have i9 : IntKind.i64.wrap (lw + 1) = lw + 1 := IntWalk.i64_in _ (by omega)
    replace h1 := Lib.hid h1
    replace h2 := Lib.hid h2
    clear hway hst hm hmn l0 l6
    go_wp2_with fail
    with_reducible refine hcall.out.mono ?_
    rintro e w5 ⟨rfl, hb5⟩
    have B5 := Lib.hid (BB.out.trans (hb5.mono BB.out.size))
    have HG5 := HG.out.below hb5
    clear hb5 y0 y1
    obtain ⟨y0, y1, _⟩ := HG5.at 0 rfl
    clear HG5
    go_wp2_with fail
    go_ret2
    exact ⟨by rw [h1.out, h2.out]; rfl, B5.out⟩
end Go.Proofs.YtdaidhbmfocodaaGreat

/-
  Package walk: the function that items hands back, which ranges over itself. Conditions: those that each lemma states.
-/
namespace Go.Proofs.YtdaidhbmfocodaaGreat
open Go.RowKit Go.Shelf
attribute [local go_sem] Oper.semAt_some

/-- What it tells, at a level. -/
def ItemsTold (s : Rm) (l : Nat) : Prop := ∀ (a : Int), AtT s l a → ∀ (n0 Bs Br : Nat) (v0 v1 v2 v3 : Value) (w : World), n0 ≤ w.heap.size → Box4 Bs v0 v1 v2 v3 w → BoxF Br (.int .i64 a) w → Sto (fun p => p.block < n0) w (.agg #[v0, v1, v2, v3]) s →
    Told Tryz.prog 50 #[.pointer (some ⟨Bs, 0, none⟩), .pointer (some ⟨Br, 0, none⟩)] encW (TellW (walkT s l a)) (EndT (walkT s l a)) (StayW n0 Bs Br) w
theorem low_kept {n0 : Nat} {A B : World} (h : ∀ k, k < n0 → B.heap[k]? = A.heap[k]?) {p : Addr} {v : Value} (hp : p.block < n0) (hc : A.cell? p = some v) : p.block < n0 ∧ B.cell? p = some v := ⟨hp, (World.cell?_of_block (h _ hp)).trans hc⟩
theorem low_old {n0 : Nat} {A : World} (hn : n0 ≤ A.heap.size) {p : Addr} {v : Value} (hp : p.block < n0) (hc : A.cell? p = some v) : Old A p ∧ A.cell? p = some v := ⟨Nat.lt_of_lt_of_le hp hn, hc⟩

theorem items_any (v0 v1 v2 v3 : Value) (a : Int) (w : World) : Calls Tryz.prog 25 #[.agg #[v0, v1, v2, v3], .int .i64 a] w fun e w' => e = .returned (.func (.func 50) #[] #[.pointer (some ⟨w.heap.size, 0, none⟩), .pointer (some ⟨w.heap.size + 1, 0, none⟩)]) ∧
    w' = (w.alloc (.cells #[v0, v1, v2, v3] 29)).alloc (.cells #[.int .i64 a] 3) := by
  have hmf : ∀ (fn : Fn) (first cap : Array Value) (w : World), (Instr.makeFunc fn first cap).run Tryz.prog w = .ok (.func fn first cap) w := fun _ _ _ _ => rfl
  go_enter Tryz.func25, Tryz.ntmps25
  go_wp2_with fail
  go_ret
  exact ⟨rfl, rfl⟩

set_option maxRecDepth 100000 in
set_option maxHeartbeats 8000000 in
theorem items_step (s : Rm) (l0 : Nat) (hr0 : ∀ j, l0 = j + 1 → ItemsTold s j) : ItemsTold s l0 := by
  intro a hat n0 Bs Br v0 v1 v2 v3 w hn0 hBs hBr hS l M J Jx o W hW hJ hJx hM hJs hZ hY h0
  have hnW : n0 ≤ W.heap.size := Nat.le_trans hn0 hW.size
  have hBsW := lasts_box4 _ _ _ _ _ _ _ hBs hW
  have hBrW := lasts_boxF _ _ _ _ hBr hW
  have hSW : Sto (fun p => p.block < n0) W (.agg #[v0, v1, v2, v3]) s := hS.map fun p v hp hc => low_kept (fun k hk => hW.block k (by omega)) hp hc
  have hNd := Lib.hid (fun v W hW => nodeR_open v s a W hW)
  have hok := hat.ok
  have hmn := Lib.hid hat.may
  have hlv := hat.lvl
  have hdn := Lib.hid (fun (j : Nat) (hj : l0 = j + 1) (x : It) (hx : x ∈ (rmV s a).2) => (by subst hj; exact hat.down hx : AtT s j x.2.1))
  have hL := walk_part s l0 a
  obtain ⟨nd, hnd⟩ : ∃ q, rmV s a = q := ⟨_, rfl⟩
  rw [hok, hnd] at hNd
  rw [hnd] at hmn hlv hdn hL
  obtain ⟨lw, hlw⟩ : ∃ q, nd.1 = q := ⟨_, rfl⟩
  obtain ⟨ll, hl⟩ : ∃ q, nd.2 = q := ⟨_, rfl⟩
  obtain ⟨m, hlm⟩ : ∃ q, ll.length = q := ⟨_, rfl⟩
  rw [hlw, hl, hlm] at hNd
  rw [hl] at hdn hL
  rw [hlw] at hlv
  have hm5 : m ≤ 5 := by
    have := (mayN_of hmn.out).1.2.2.1
    rw [hl, hlm] at this
    exact this
  rw [hL] at hY ⊢
  obtain ⟨w1, hw1, b1, hs1, hB1⟩ := box_one W (.func (.yield l) #[] #[]) 100
  have BS1 := lasts_box4 _ _ _ _ _ _ _ hBsW hB1
  have BR1 := lasts_boxF _ _ _ _ hBrW hB1
  have S1 : Hid (Sto (Old w1) w1 (.agg #[v0, v1, v2, v3]) s) := Lib.hid (hSW.map fun p v hp hc => low_old (by omega) (low_kept (fun k hk => hB1.block k (by omega)) hp hc).1 (low_kept (fun k hk => hB1.block k (by omega)) hp hc).2)
  obtain ⟨s0, s1, s2, s3, _⟩ := BS1
  obtain ⟨r0, _⟩ := BR1
  replace hs1 := Lib.hid hs1
  replace hB1 := Lib.hid hB1
  replace hlw := Lib.hid hlw
  replace hl := Lib.hid hl
  replace hlm := Lib.hid hlm
  replace hnd := Lib.hid hnd
  replace hlv := Lib.hid hlv
  replace hY := Lib.hid hY
  replace hL := Lib.hid hL
  replace hZ := Lib.hid hZ
  replace hM := Lib.hid hM
  replace hJs := Lib.hid hJs
  clear hS hBs hBr hat
  refine callsIn_wide.1 (callsIn_of_wp_marks (n := 5) Tryz.func50 rfl trivial ?_ rfl)
  simp only [Tryz.ntmps50, List.size_toArray, List.length_cons, List.length_nil, Nat.reduceAdd, Nat.reduceSub, Array.replicate_succ, Array.replicate_zero, List.push_toArray, List.append_toArray, List.nil_append, List.cons_append]
  gi_wp2_with fail
  refine ⟨trivial, ?_⟩
  gi_at_call 19
  refine (callsIn_wide.2 (hNd.out (.agg #[v0, v1, v2, v3]) w1 S1.out)).mono ?_
  rintro e w2 ⟨Z, zc, rfl, -, hN2, hB2⟩
  obtain ⟨w3, hw3, b3, hs3, hB3⟩ := box_pair' w2 (.int .i64 lw) (.slice Z m zc) 57
  obtain ⟨y0, y1, _⟩ := two_cells b3
  replace hs3 := Lib.hid hs3
  replace b3 := Lib.hid b3
  gi_wp2_with fail
  have B3 := Lib.hid ((hB1.out.trans (hB2.mono hB1.out.size)).trans (hB3.mono (hB1.out.trans (hB2.mono hB1.out.size)).size))
  have sz := Lib.hid (show W.heap.size < w1.heap.size ∧ w1.heap.size ≤ w2.heap.size ∧ w2.heap.size < w3.heap.size from ⟨by have := hs1.out; omega, hB2.size, by have := hs3.out; omega⟩)
  have ho := Lib.hid (fun k (e : o = some k) => (hJs.out _ _ h0).2 k e)
  have N3 : Hid (rIts (Fre W.heap.size o w3) w3 [.slice Z m zc] ll) := Lib.hid (by
    obtain ⟨_, e, _, h⟩ := hN2
    cases e
    rw [hl.out] at h
    refine stab_its _ _ _ _ _ _ (fun p v hp hc => ?_) (stab_its.new h (Nat.le_refl _) (hB3.mono (Nat.le_refl _)))
    exact ⟨⟨⟨Nat.le_trans (Nat.le_of_lt sz.out.1) hp.1, hp.2⟩, fun e => by have := ho.out _ e; have := hp.1; have := sz.out.1; omega⟩, hc⟩)
  have J3 := Lib.hid (hJ _ _ _ none h0 (below_grown B3.out) (by simp))
  have b3' : Hid (w3.cell? ⟨W.heap.size, 0, none⟩ = some (.func (.yield l) #[] #[])) := Lib.hid (((hB2.trans (hB3.mono hB2.size)).cell (p := ⟨W.heap.size, 0, none⟩) sz.out.1).trans b1)
  obtain ⟨Inv, hInv⟩ : ∃ Inv : Act → World → Prop, Inv = fun a' wr => ∃ (k : Nat) (pre : List Wk) (q : Option Nat) (Ds : List Nat) (x7 x8 x9 x21 x22 x23 x24 x25 x26 x27 x28 x29 x30 x31 x32 x33 x34 x35 x36 x37 x38 x39 x40 x41 x42 x43 x44 x45 : Value),
      (k ≤ m ∧ x21 = .int .i64 (k : Int) ∧ pre.map keyW = doneW s l0 ll k ∧ J (pre, q) wr ∧ Kept M o q w3 wr ∧ Ds.Nodup ∧ ∀ D ∈ Ds, w3.heap.size ≤ D ∧ D < wr.heap.size ∧ wr.heap[D]? = some (.deferred (some [])) ∧ q ≠ some D) ∧
      a' = { tmps := #[.func (.yield l) #[] #[], .pointer (some ⟨Bs, 0, none⟩), .pointer (some ⟨Br, 0, none⟩), .pointer (some ⟨W.heap.size, 0, none⟩), .pointer (some ⟨w2.heap.size, 0, none⟩), .int .i64 0, undef, x7, x8, x9,
        .tuple #[.agg #[.int .i64 lw, .slice Z m zc], .int .i64 0], .agg #[v0, v1, v2, v3], .int .i64 a, .tuple #[.agg #[.int .i64 lw, .slice Z m zc], .int .i64 0], .agg #[.int .i64 lw, .slice Z m zc], .int .i64 0, .int .i64 0, .bool false, .pointer (some ⟨w2.heap.size, 1, none⟩), .slice Z m zc,
        .int .i64 m, x21, x22, x23, x24, x25, x26, x27, x28, x29, x30, x31, x32, x33, x34, x35, x36, x37, x38, x39, x40, x41, x42, x43, x44, x45], defers := Ds.map fun D => { target := .collected D, args := #[] } } := ⟨_, rfl⟩
  clear h0 hN2 hB2 hB3 b1 y0 y1 hw1 hw3 s0 s1 s2 s3 r0 hNd S1 hs3 hs1
  refine wpIn_loop Inv (fun a' _ => 6 - (intOf (a'.tmps.getD 21 undef)).toNat) ?_ ?_
  · rw [hInv]
    exact ⟨0, [], o, [], undef, undef, undef, _, undef, undef, undef, undef, undef, undef, undef, undef, undef, undef, undef, undef, undef, undef, undef, undef, undef, undef, undef, undef, undef, undef, undef, undef, ⟨Nat.zero_le _, rfl, (done_zero _ _ _).symm, J3.out, Kept.refl _ _ _, List.nodup_nil, by simp⟩, rfl⟩
  intro a' wr hrel
  rw [hInv] at hrel
  obtain ⟨k, pre, q, Ds, x7, x8, x9, x21, x22, x23, x24, x25, x26, x27, x28, x29, x30, x31, x32, x33, x34, x35, x36, x37, x38, x39, x40, x41, x42, x43, x44, x45, ⟨hk, rfl, hpre, hJr, hKr, hDn, hDs⟩, rfl⟩ := hrel
  replace hInv := Lib.hid hInv
  replace hpre := Lib.hid hpre
  replace hJr := Lib.hid hJr
  replace hKr := Lib.hid hKr
  replace hDn := Lib.hid hDn
  replace hDs := Lib.hid hDs
  by_cases hlt : k < m
  case neg =>
    have hc0 : ¬ ((k : Int) < (m : Int)) := by omega
    gi_wp2_with fail
    refine leave_none (B := W.heap.size) rfl (fun W4 D hD hd hx => ?_) hDn.out (fun D hD => ⟨Nat.le_trans (Nat.le_trans B3.out.size (Nat.le_refl _)) (hDs.out D hD).1, (hDs.out D hD).2.2.1⟩) ?_
    · rcases hx with ⟨xs, he, q', hj⟩ | ⟨xs, q', hj⟩
      · exact .inl ⟨xs, he, q', hJ.putObj _ hj hD hd rfl⟩
      · exact .inr ⟨xs, q', hJx.putObj _ hj hD hd rfl⟩
    · refine .inl ⟨pre, ?_, q, hJr.out⟩
      unfold EndT
      rw [hpre.out, show k = ll.length from (by have := hlm.out; omega), done_all]
  have hc0 : ((k : Int) < (m : Int)) := by omega
  obtain ⟨x, hx⟩ : ∃ x, ll[k]? = some x := ⟨_, List.getElem?_eq_getElem (by rw [hlm.out]; exact hlt)⟩
  have NR : Hid (rIts (Fre W.heap.size q wr) wr [.slice Z m zc] ll) := Lib.hid (stab_its _ _ _ _ _ _ (fun p v hp hc => fre_kept hM.out hKr.out hp hc) N3.out)
  obtain ⟨ad, E, ce, rfl, _, ⟨z0, z1, z2, z3, z4⟩, hit, _⟩ := its_at NR.out hx
  have bq := Lib.hid (hJs.out _ _ hJr.out)
  have hq3 : Hid (∀ k, W.heap.size ≤ k → k < w3.heap.size → wr.heap[k]? = w3.heap[k]? ∧ q ≠ some k) := Lib.hid fun k h1 h2 => hKr.out.same k h2 (fun e => by have := hM.out _ e; omega) (fun e => by have := ho.out _ e; omega)
  obtain ⟨y0, y1, _⟩ := two_cells ((hq3.out w2.heap.size (Nat.le_of_lt (Nat.lt_of_lt_of_le sz.out.1 sz.out.2.1)) sz.out.2.2).1.trans b3.out)
  have c1 : wr.cell? ⟨W.heap.size, 0, none⟩ = some (.func (.yield l) #[] #[]) := (World.cell?_of_block (hq3.out W.heap.size (Nat.le_refl _) (by have := sz.out; omega)).1).trans b3'.out
  obtain ⟨w4, hw4, u0, u1, u2, u3, u4, hs4, hB4, g4⟩ := box_five wr (.int .u8 (x.1.1.toNat : Int)) (.int .u32 x.1.2.1) (.int .u32 x.1.2.2) (.int .i64 x.2.1) (.slice E x.2.2.length ce) 52
  have J4 := hJ _ _ _ none hJr.out (below_grown hB4) (by simp)
  have hit4 : Itm (Fre W.heap.size q w4) w4 (itV x (.slice E x.2.2.length ce)) x := hit.map fun p v hp hc => fre_kept hM.out (Kept.below hB4) hp hc
  have hY4 := hY.out pre q (lw, x, itV x (.slice E x.2.2.length ce)) w4 J4 ⟨by
    rw [List.map_append, hpre.out]
    obtain ⟨r, hr⟩ := part_head s l0 x
    refine (List.IsPrefix.trans ⟨r, ?_⟩ (done_pre s l0 hx))
    rw [hr]
    simp [keyW, hlv.out], hit4⟩
  obtain ⟨fn, tmps, assign, body, hy, hR⟩ := hY4
  replace hR := Lib.hid hR
  replace J4 := Lib.hid J4
  replace hit4 := Lib.hid hit4
  replace hs4 := Lib.hid hs4
  replace g4 := Lib.hid g4
  replace hx := Lib.hid hx
  have i4 : (0 : Int) ≤ (k : Int) := by omega
  replace hB4' := Lib.hid hB4
  have y0' := (hB4.cell (p := ⟨w2.heap.size, 0, none⟩) (by show w2.heap.size < wr.heap.size; have := hKr.out.size; have := sz.out; omega)).trans y0
  have c1' := (hB4.cell (p := ⟨W.heap.size, 0, none⟩) (by show W.heap.size < wr.heap.size; have := hKr.out.size; have := sz.out; omega)).trans c1
  clear hit c1 y0 y1 hB4
  replace hy : Sem.run Tryz.prog (Instr.yield l #[.int .i64 lw, .agg #[.int .u8 (x.1.1.toNat : Int), .int .u32 x.1.2.1, .int .u32 x.1.2.2, .int .i64 x.2.1, .slice E x.2.2.length ce]]) w4 = .ok (.round l fn tmps assign body) w4 := hy
  gi_wp2_with fail
  refine (round_wide hR.out).mono ?_
  clear hR hy y0' c1' u0 u1 u2 u3 u4 z0 z1 z2 z3 z4
  rintro e w5 ⟨q5, hk5, ⟨rfl, J5⟩ | ⟨rfl, J5⟩⟩
  case inr =>
    have D5 : Hid (∀ D ∈ Ds, W.heap.size ≤ D ∧ w5.heap[D]? = some (.deferred (some []))) := Lib.hid fun D hD => by
      obtain ⟨h1, h2, h3, h4⟩ := hDs.out D hD
      have h5 := hB4'.out.block D h2
      have h6 : W.heap.size < D := by have := sz.out; omega
      exact ⟨by omega, (hk5.same D (by have := hs4.out; omega) (fun e => by have := hM.out _ e; omega) h4).1.trans (h5.trans h3)⟩
    replace J5 := Lib.hid J5
    clear hk5 hw4
    gi_wp2_with fail
    refine leave_none (B := W.heap.size) rfl (fun W4 D hD hd hx => ?_) hDn.out D5.out (.inr ⟨_, _, J5.out⟩)
    rcases hx with ⟨xs, he, q', hj⟩ | ⟨xs, q', hj⟩
    · exact .inl ⟨xs, he, q', hJ.putObj _ hj hD hd rfl⟩
    · exact .inr ⟨xs, q', hJx.putObj _ hj hD hd rfl⟩
  have hk5' := Lib.hid ((hKr.out.grown (below_grown hB4'.out) (by simp)).trans hk5)
  have h54 : Hid (∀ k, W.heap.size ≤ k → k < w4.heap.size → q ≠ some k → w5.heap[k]? = w4.heap[k]? ∧ q5 ≠ some k) := Lib.hid fun k h1 h2 h3 => hk5.same k h2 (fun e => by have := hM.out _ e; omega) h3
  have D5 : Hid (∀ D ∈ Ds, w3.heap.size ≤ D ∧ D < w5.heap.size ∧ w5.heap[D]? = some (.deferred (some [])) ∧ q5 ≠ some D) := Lib.hid fun D hD => by
    obtain ⟨h1, h2, h3, h4⟩ := hDs.out D hD
    have h5 := hB4'.out.block D h2
    have h6 : W.heap.size < D := by have := sz.out; omega
    have h7 := h54.out D (by omega) (by have := hs4.out; omega) h4
    exact ⟨h1, Nat.lt_of_lt_of_le h2 (Nat.le_trans hB4'.out.size hk5.size), h7.1.trans (h5.trans h3), h7.2⟩
  have g5 := Lib.hid ((h54.out wr.heap.size (by have := bq.out.1; omega) (by have := hs4.out; omega) (fun e => by have := bq.out.2 _ e; omega)).1.trans g4.out)
  have hq5 : Hid (∀ k, W.heap.size ≤ k → k < w3.heap.size → w5.heap[k]? = w3.heap[k]? ∧ q5 ≠ some k) := Lib.hid fun k h1 h2 => hk5'.out.same k h2 (fun e => by have := hM.out _ e; omega) (fun e => by have := ho.out _ e; omega)
  obtain ⟨y0, y1, _⟩ := two_cells ((hq5.out w2.heap.size (by have := sz.out; omega) sz.out.2.2).1.trans b3.out)
  have bq5 := Lib.hid (hJs.out _ _ J5)
  have hp5 : Hid ((pre ++ [(lw, x, itV x (.slice E x.2.2.length ce))]).map keyW = doneW s l0 ll k ++ [((l0 : Int), x)]) := Lib.hid (by
    rw [List.map_append, hpre.out]
    simp [keyW, hlv.out])
  obtain ⟨pre1, hpre1⟩ : ∃ p, pre ++ [(lw, x, itV x (.slice E x.2.2.length ce))] = p := ⟨_, rfl⟩
  rw [hpre1] at J5 hp5
  replace J5 := Lib.hid J5
  replace hpre1 := Lib.hid hpre1
  clear hk5 h54 g4 hw4 J4 hit4 hB4' hs4 hDs hJr hKr bq hpre NR
  cases l0 with
  | zero =>
    have c0 : (lw == 0) = true := by rw [hlv.out]; rfl
    have i9 : IntKind.i64.wrap ((k : Int) + 1) = ((k + 1 : Nat) : Int) := by rw [IntKind.wrap_i64]; omega
    gi_wp2_with fail
    rw [hInv.out]
    refine ⟨⟨k + 1, pre1, q5, Ds, _, _, _, _, _, _, _, _, _, _, _, _, _, _, _, _, _, _, _, _, _, _, _, _, _, _, _, _, ⟨by omega, by go_num, ?_, J5.out, hk5'.out, hDn.out, D5.out⟩, rfl⟩, ?_⟩
    · rw [hp5.out, done_step s 0 hx.out, part_zero]
      rfl
    · simp [intOf]
      omega
  | succ l1 =>
    have c0 : (lw == 0) = false := by have := hlv.out; simp; omega
    have BS3 := lasts_box4 _ _ _ _ _ _ _ hBsW B3.out
    have hkB : w5.heap[Bs]? = w3.heap[Bs]? := (hk5'.out.same Bs BS3.2.2.2.2 (hZ.out Bs (.inr (.inl rfl))).1 (hZ.out Bs (.inr (.inl rfl))).2).1
    obtain ⟨s0, s1, s2, s3, _⟩ := BS3
    have s0' := (World.cell?_of_block (a := ⟨Bs, 0, none⟩) hkB).trans s0
    have s1' := (World.cell?_of_block (a := ⟨Bs, 1, none⟩) hkB).trans s1
    have s2' := (World.cell?_of_block (a := ⟨Bs, 2, none⟩) hkB).trans s2
    have s3' := (World.cell?_of_block (a := ⟨Bs, 3, none⟩) hkB).trans s3
    obtain ⟨f0, f1, f2, f3, f4, _⟩ := five_cells g5.out
    have hAT := Lib.hid (hdn.out l1 rfl x (List.mem_of_getElem? hx.out))
    obtain ⟨w6, hw6, g6, b6, hs6, hB6⟩ : ∃ w6, (w5.alloc (.cells #[v0, v1, v2, v3] 29)).alloc (.cells #[.int .i64 x.2.1] 3) = w6 ∧ Box4 w5.heap.size v0 v1 v2 v3 w6 ∧ BoxF (w5.heap.size + 1) (.int .i64 x.2.1) w6 ∧ w6.heap.size = w5.heap.size + 2 ∧ Below w5.heap.size w5 w6 := by
      obtain ⟨wa, ha, ga, sa, ba⟩ := box_4 w5 v0 v1 v2 v3 29
      obtain ⟨wb, hb, gb, sb, bb⟩ := box_one wa (.int .i64 x.2.1) 3
      obtain ⟨k0, k1, k2, k3, _⟩ := four_cells ga
      exact ⟨wb, by rw [ha, hb], lasts_box4 _ _ _ _ _ _ _ ⟨k0, k1, k2, k3, by omega⟩ bb, ⟨by rw [← sa]; exact gb, by omega⟩, by omega, ba.trans (bb.mono ba.size)⟩
    have hIt := Lib.hid (items_any v0 v1 v2 v3 x.2.1 w5)
    rw [hw6] at hIt
    clear s0 s1 s2 s3 hkB hw6
    gi_wp2_with fail
    refine ⟨trivial, ?_⟩
    gi_at_call 25
    refine (callsIn_wide.2 hIt.out).mono ?_
    rintro e w6 ⟨rfl, rfl⟩
    gi_wp2_with fail
    have Z6 : Hid (∀ k, StayW n0 w5.heap.size (w5.heap.size + 1) k → k < w6.heap.size ∧ ¬ M k ∧ q5 ≠ some k) := Lib.hid fun k hk => by
      rcases hk with h | rfl | rfl
      · have h1 := hZ.out k (.inl h)
        have h2 : k < w3.heap.size := by have := sz.out; omega
        exact ⟨by have := hk5'.out.size; omega, h1.1, (hk5'.out.same k h2 h1.1 h1.2).2⟩
      · exact ⟨by omega, fun e => by have := hM.out _ e; have := bq5.out.1; omega, fun e => by have := bq5.out.2 _ e; omega⟩
      · exact ⟨by omega, fun e => by have := hM.out _ e; have := bq5.out.1; omega, fun e => by have := bq5.out.2 _ e; omega⟩
    have S6 : Sto (fun p => p.block < n0) w6 (.agg #[v0, v1, v2, v3]) s := hSW.map fun p v hp hc => low_kept (fun k hk => by
      have h1 := hZ.out k (.inl hk)
      rw [hB6.block k (by have := bq5.out.1; omega), (hk5'.out.same k (by have := sz.out; omega) h1.1 h1.2).1]
      exact B3.out.block k (by omega)) hp hc
    have c6 : Hid (w6.cell? ⟨W.heap.size, 0, none⟩ = some (.func (.yield l) #[] #[]) ∧ W.heap.size < w6.heap.size ∧ ¬ M W.heap.size ∧ q5 ≠ some W.heap.size) := Lib.hid (by
      obtain ⟨h1, h2⟩ := hq5.out W.heap.size (Nat.le_refl _) (by have := sz.out; omega)
      have h3 : W.heap.size < w5.heap.size := by have := hk5'.out.size; have := sz.out; omega
      exact ⟨(World.cell?_of_block (a := ⟨W.heap.size, 0, none⟩) ((hB6.block _ h3).trans h1)).trans b3'.out, by omega, fun e => by have := hM.out _ e; omega, h2⟩)
    have J6 := hJ _ _ _ none J5.out (below_grown hB6) (by simp)
    have k6 : Hid (Kept M o q5 w3 w6) := Lib.hid (hk5'.out.grown (below_grown hB6) (by simp))
    have D6 : Hid (∀ D ∈ Ds, w3.heap.size ≤ D ∧ D < w6.heap.size ∧ w6.heap[D]? = some (.deferred (some [])) ∧ ¬ M D ∧ q5 ≠ some D) := Lib.hid fun D hD => by
      obtain ⟨h1, h2, h3, h4⟩ := D5.out D hD
      exact ⟨h1, by omega, (hB6.block D h2).trans h3, fun e => by have := hM.out _ e; have := sz.out; omega, h4⟩
    have hW6 : W.heap.size ≤ w6.heap.size := by have := bq5.out.1; omega
    have hpre6 : Hid (∀ (r : List Wk) (y : Wk), (r ++ [y]).map keyW <+: walkT s l1 x.2.1 → ((pre1 ++ r) ++ [y]).map keyW <+: ll.flatMap (partW s (l1 + 1))) := Lib.hid fun r y hr => by
      refine List.IsPrefix.trans ?_ (done_pre s (l1 + 1) hx.out)
      rw [List.append_assoc, List.map_append, hp5.out, List.append_assoc, part_succ]
      exact (List.prefix_append_right_inj _).2 ((List.prefix_append_right_inj [(((l1 + 1 : Nat) : Int), x)]).2 hr)
    have hfin6 : Hid (∀ xs : List Wk, xs.map keyW = walkT s l1 x.2.1 → (pre1 ++ xs).map keyW = doneW s (l1 + 1) ll (k + 1)) := Lib.hid fun xs hxs => by
      rw [List.map_append, hp5.out, hxs, done_step s (l1 + 1) hx.out, part_succ, List.append_assoc]
      rfl
    have hr1 := hr0 l1 rfl x.2.1 hAT.out n0 w5.heap.size (w5.heap.size + 1) v0 v1 v2 v3 w6 (by omega) g6 b6 S6
    clear y0 y1 s0' s1' s2' s3' f0 f1 f2 f3 f4 g5 g6 b6 S6 hIt hr0 D5 hq5 hSW
    refine range_told (m := 5) (gf := 50) (lb := #[.pointer (some ⟨w5.heap.size, 0, none⟩), .pointer (some ⟨w5.heap.size + 1, 0, none⟩)]) rfl (enters_of Tryz.func50 (by kernel_rfl) rfl) hr1 (fun _ => rfl) M (fun k e => by have := hM.out k e; omega) q5 Z6.out
      (fun r V => J (pre1 ++ r.1, r.2) V ∧ Kept M q5 r.2 w6 V) (fun c r V => (c = .ret ∧ Jx (pre1 ++ r.1, r.2) V) ∧ Kept M q5 r.2 w6 V)
      (OwnFrom.and (fun r A B row hs hg hr => hJ _ A B row hs hg fun r e => ⟨by have := (hr r e).1; omega, (hr r e).2⟩) (ownFrom_kept (Nat.le_refl _)))
      (fun c => OwnFrom.and (fun r A B row hs hg hr => ⟨hs.1, hJx _ A B row hs.2 hg fun r e => ⟨by have := (hr r e).1; omega, (hr r e).2⟩⟩) (ownFrom_kept (Nat.le_refl _)))
      (fun r V hr => (hJs.out _ _ hr.1).2) ⟨by rw [List.append_nil]; exact J6, Kept.refl _ _ _⟩
      (fun y a' V => ∃ (g : Nat) (d : Value), a' = { tmps := #[.func (.yield l) #[] #[], .pointer (some ⟨Bs, 0, none⟩), .pointer (some ⟨Br, 0, none⟩), .pointer (some ⟨W.heap.size, 0, none⟩), .pointer (some ⟨w2.heap.size, 0, none⟩), .int .i64 0, undef, .pointer (some ⟨wr.heap.size, 0, none⟩), .int .i64 y.1, .pointer (some ⟨g, 0, none⟩),
        .tuple #[.agg #[.int .i64 lw, .slice (some ad) m zc], .int .i64 0], .agg #[v0, v1, v2, v3], .int .i64 a, .tuple #[.agg #[.int .i64 lw, .slice (some ad) m zc], .int .i64 0], .agg #[.int .i64 lw, .slice (some ad) m zc], .int .i64 0, .int .i64 0, .bool false, .pointer (some ⟨w2.heap.size, 1, none⟩), .slice (some ad) m zc,
        .int .i64 m, .int .i64 k, .bool true, .pointer (some (ad.add (k * 5))), .agg #[.int .u8 (x.1.1.toNat : Int), .int .u32 x.1.2.1, .int .u32 x.1.2.2, .int .i64 x.2.1, .slice E x.2.2.length ce], .func (.yield l) #[] #[], .pointer (some ⟨w2.heap.size, 0, none⟩), .int .i64 lw,
        .agg #[.int .u8 (x.1.1.toNat : Int), .int .u32 x.1.2.1, .int .u32 x.1.2.2, .int .i64 x.2.1, .slice E x.2.2.length ce], .bool true, .bool false, .pointer (some ⟨w2.heap.size, 0, none⟩), .int .i64 lw, .bool false, .agg #[v0, v1, v2, v3], .pointer (some ⟨wr.heap.size, 3, none⟩), .int .i64 x.2.1,
        .func (.func 50) #[] #[.pointer (some ⟨w5.heap.size, 0, none⟩), .pointer (some ⟨w5.heap.size + 1, 0, none⟩)], .int .i64 y.1, .agg #[.int .u8 (y.2.1.1.1.toNat : Int), .int .u32 y.2.1.1.2.1, .int .u32 y.2.1.1.2.2, .int .i64 y.2.1.2.1, d], x40, x41, x42, x43, x44, x45], defers := [] } ∧ y.2.2 = itV y.2.1 d ∧
        V.cell? ⟨g, 0, none⟩ = some (.int .u8 (y.2.1.1.1.toNat : Int)) ∧ V.cell? ⟨g, 1, none⟩ = some (.int .u32 y.2.1.1.2.1) ∧ V.cell? ⟨g, 2, none⟩ = some (.int .u32 y.2.1.1.2.2) ∧ V.cell? ⟨g, 3, none⟩ = some (.int .i64 y.2.1.2.1) ∧ V.cell? ⟨g, 4, none⟩ = some d)
      (fun y a' _ A B row hs hg hr => by
        obtain ⟨g, d, e1, e2, h0, h1, h2, h3, h4⟩ := hs
        have hn := fun r e => (hr r e).2
        exact ⟨g, d, e1, e2, cell_kept h0 hg hn, cell_kept h1 hg hn, cell_kept h2 hg hn, cell_kept h3 hg hn, cell_kept h4 hg hn⟩)
      (fun pre x q => tell_own _ _ _ _ _ _) ?assign ?body ?done ?stop
    case assign =>
      rintro l' pre' q' ⟨lv', it', val'⟩ V K hi ⟨_, hit⟩ hK
      obtain ⟨A', c', hd, -⟩ := hit.open
      dsimp only at hd
      subst hd
      obtain ⟨V1, hV1, v0', v1', v2', v3', v4', hVs, hVB, _⟩ := box_five V (.int .u8 (it'.1.1.toNat : Int)) (.int .u32 it'.1.2.1) (.int .u32 it'.1.2.2) (.int .i64 it'.2.1) (.slice A' it'.2.2.length c') 52
      replace hVs := Lib.hid hVs
      clear hit hi
      simp only [encW, itV]
      gi_wp2_with fail
      exact hK _ _ (below_grown hVB) ⟨V.heap.size, _, rfl, rfl, v0', v1', v2', v3', v4'⟩
    case body =>
      rintro l' pre' q' ⟨lv', it', val'⟩ a' V hVs ⟨hj, hkV⟩ ⟨g, d, rfl, hd, v0', v1', v2', v3', v4'⟩ ⟨hpf, hit⟩
      dsimp only at hd hit v0' v1' v2' v3' v4'
      subst hd
      have c7 : V.cell? ⟨W.heap.size, 0, none⟩ = some (.func (.yield l) #[] #[]) := (World.cell?_of_block (a := ⟨W.heap.size, 0, none⟩) (hkV.same _ c6.out.2.1 c6.out.2.2.1 c6.out.2.2.2).1).trans c6.out.1
      obtain ⟨fn, tmps, assign, body, hy, hR⟩ := hY.out (pre1 ++ pre') q' (lv', it', itV it' d) V hj ⟨hpre6.out _ _ hpf, hit.map fun p v hp hc => ⟨⟨⟨Nat.le_trans (by omega) hp.1.1, hp.1.2⟩, hp.2⟩, hc⟩⟩
      replace hy : Sem.run Tryz.prog (Instr.yield l #[.int .i64 lv', .agg #[.int .u8 (it'.1.1.toNat : Int), .int .u32 it'.1.2.1, .int .u32 it'.1.2.2, .int .i64 it'.2.1, d]]) V = .ok (.round l fn tmps assign body) V := hy
      replace hR := Lib.hid hR
      replace hkV := Lib.hid hkV
      clear hpf hit hj
      gi_wp2_with fail
      refine ⟨rfl, (round_any hR.out).mono ?_⟩
      clear hR hy c7 v0' v1' v2' v3' v4'
      rintro e V1 ⟨q1, hk1, ⟨rfl, J1⟩ | ⟨rfl, J1⟩⟩
      · rw [List.append_assoc] at J1
        have hk2 := Lib.hid (hkV.out.trans hk1)
        replace hk1 := Lib.hid hk1
        replace J1 := Lib.hid J1
        gi_wp2_with fail
        exact ⟨q1, hk1.out, J1.out, hk2.out⟩
      · rw [List.append_assoc] at J1
        have hk2 := Lib.hid (hkV.out.trans hk1)
        replace hk1 := Lib.hid hk1
        replace J1 := Lib.hid J1
        gi_wp2_with fail
        exact ⟨q1, hk1.out, ⟨rfl, J1.out⟩, hk2.out⟩
    case done =>
      rintro xs q' V hVs hE ⟨hj, hkV⟩ hDV hqV
      have D7 : Hid (∀ D ∈ w6.heap.size :: Ds, w3.heap.size ≤ D ∧ D < V.heap.size ∧ V.heap[D]? = some (.deferred (some [])) ∧ q' ≠ some D) := Lib.hid fun D hD => by
        rcases List.mem_cons.1 hD with rfl | hD
        · exact ⟨k6.out.size, hVs, hDV, hqV⟩
        · obtain ⟨h1, h2, h3, h4, h5⟩ := D6.out D hD
          obtain ⟨h6, h7⟩ := hkV.same D h2 h4 h5
          exact ⟨h1, by omega, h6.trans h3, h7⟩
      have hN7 : Hid ((w6.heap.size :: Ds).Nodup) := Lib.hid (List.nodup_cons.2 ⟨fun h => by have := (D6.out _ h).2.1; omega, hDn.out⟩)
      have hk7 := Lib.hid (k6.out.trans hkV)
      have hp7 := Lib.hid (hfin6.out xs hE)
      replace hj := Lib.hid hj
      replace hs6 := Lib.hid hs6
      clear hVs hDV hqV hkV
      gi_wp2_with fail
      rw [hInv.out]
      refine ⟨⟨k + 1, pre1 ++ xs, q', w6.heap.size :: Ds, .pointer (some ⟨wr.heap.size, 0, none⟩), x8, x9, .int .i64 ((k : Int) + 1), .bool true, .pointer (some (ad.add (k * 5))), .agg #[.int .u8 (x.1.1.toNat : Int), .int .u32 x.1.2.1, .int .u32 x.1.2.2, .int .i64 x.2.1, .slice E x.2.2.length ce], .func (.yield l) #[] #[],
        .pointer (some ⟨w2.heap.size, 0, none⟩), .int .i64 lw, .agg #[.int .u8 (x.1.1.toNat : Int), .int .u32 x.1.2.1, .int .u32 x.1.2.2, .int .i64 x.2.1, .slice E x.2.2.length ce], .bool true, .bool false, .pointer (some ⟨w2.heap.size, 0, none⟩), .int .i64 lw, .bool false, .agg #[v0, v1, v2, v3], .pointer (some ⟨wr.heap.size, 3, none⟩), .int .i64 x.2.1,
        .func (.func 50) #[] #[.pointer (some ⟨w5.heap.size, 0, none⟩), .pointer (some ⟨w5.heap.size + 1, 0, none⟩)], x38, x39, x40, x41, x42, x43, x44, .int .i64 ((k : Int) + 1), ⟨by omega, by go_num, hp7.out, hj.out, hk7.out, hN7.out, D7.out⟩, ?_⟩, ?_⟩
      · rfl
      simp [intOf]
      omega
    case stop =>
      rintro c pre' q' V hVs ⟨⟨rfl, hj⟩, hkV⟩ hDV hqV
      have D7 : Hid (∀ D ∈ w6.heap.size :: Ds, W.heap.size ≤ D ∧ V.heap[D]? = some (.deferred (some []))) := Lib.hid fun D hD => by
        rcases List.mem_cons.1 hD with rfl | hD
        · exact ⟨hW6, hDV⟩
        · obtain ⟨h1, h2, h3, h4, h5⟩ := D6.out D hD
          obtain ⟨h6, h7⟩ := hkV.same D h2 h4 h5
          exact ⟨by have := sz.out; omega, h6.trans h3⟩
      have hN7 : Hid ((w6.heap.size :: Ds).Nodup) := Lib.hid (List.nodup_cons.2 ⟨fun h => by have := (D6.out _ h).2.1; omega, hDn.out⟩)
      replace hj := Lib.hid hj
      replace hs6 := Lib.hid hs6
      clear hVs hDV hqV hkV
      gi_wp2_with fail
      refine leave_none (Ds := w6.heap.size :: Ds) (B := W.heap.size) rfl (fun W4 D hD hd hx => ?_) hN7.out D7.out (.inr ⟨_, _, hj.out⟩)
      rcases hx with ⟨xs, he, q', hj⟩ | ⟨xs, q', hj⟩
      · exact .inl ⟨xs, he, q', hJ.putObj _ hj hD hd rfl⟩
      · exact .inr ⟨xs, q', hJx.putObj _ hj hD hd rfl⟩
theorem items_told (s : Rm) : ∀ l : Nat, ItemsTold s l
  | 0 => items_step s 0 fun j h => by omega
  | l + 1 => items_step s (l + 1) fun j h => by cases h; exact items_told s l
end Go.Proofs.YtdaidhbmfocodaaGreat

/-
  Package walk: Range. Conditions: those that each lemma states.
-/
namespace Go.Proofs.YtdaidhbmfocodaaGreat
open Go.RowKit Go.Shelf
attribute [local go_sem] Oper.semAt_some

/-- What Range hands back. -/
def RangeR (s : Rm) (a : Int) (f t : Ky) (w : World) : Ending → World → Prop := fun e w' => ∃ u c, e = .returned (.tuple #[.slice u (raV s a f t).length c, .int .i64 (ckE s a)]) ∧ rIts (New w.heap.size w') w' [.slice u (raV s a f t).length c] (raV s a f t) ∧ Below w.heap.size w w'
theorem raV_bad {s : Rm} {a : Int} {f t : Ky} (h : ckE s a ≠ 0) : raV s a f t = [] := if_neg h
theorem raV_ok {s : Rm} {a : Int} {f t : Ky} (h : ckE s a = 0) : raV s a f t = rangeO s a f t := if_pos h

/-- append, of which is known what it does. -/
theorem app_runIn {F : Fence} {n : Nat} {P : Program} {w : World} {ops : Array Oper} {rest : List Oper} {o : Oper} {a : Act} {Q : Exit → Act → World → Prop} (hg : o.guard = none) (s x : Operand) (t : TypeId)
    (hop : o.op = Op.call { callee := Callee.builtin Builtin.append, args := #[s, x], argTypes := #[t, t] }) {v u v' : Value} {w' : World} (hs : a.eval s = v) (hx : a.eval x = u)
    (hrun : (Builtin.append_ #[t, t] o.type #[v, u]).run P w = .ok v' w') (h : wpListIn F n P ops Q rest (a.put o.dst v') w') : wpListIn F n P ops Q (o :: rest) a w := by
  refine wpListIn_plain hg fun K hK' => ?_
  unfold Oper.wpIn
  refine ⟨?_, ?_⟩
  · simp [Oper.about, hop, resolve, Target.leads, Sem.run_pure]
  · rw [Oper.semAt_plain F _ _ (by rw [hop]; intro c hc'; cases hc')]
    simp [execOp, hop, resolve, invoke, builtin, hs, hx, hrun, Result.andThen]
    exact hK' _ _ h
/-- The row in its box. -/
def RowIn (bb lo : Nat) (L : List It) (q : Option Nat) (V : World) : Prop := ∃ A c, Boxed V bb 32 (.slice A L.length c) ∧ RowOf rIt 5 52 lo V A c L ∧ q = A.map (·.block)
/-- Between two rounds: the bounds' boxes, and what is picked so far. -/
def RgI (n0 : World) (b1 b2 bb lo lo' : Nat) (f t : Ky) (r : List Wk × Option Nat) (V : World) : Prop :=
  (Below n0.heap.size n0 V ∧ lo' ≤ V.heap.size) ∧ (∀ p ∈ r.1, lessK t p.2.1.1 = false) ∧ (BoxW b1 #[.int .u8 (f.1.toNat : Int), .int .u32 f.2.1, .int .u32 f.2.2] 38 V ∧ BoxW b2 #[.int .u8 (t.1.toNat : Int), .int .u32 t.2.1, .int .u32 t.2.2] 38 V) ∧ RowIn bb lo (pickW f (r.1.map keyW)) r.2 V
def RgX (n0 : World) (bb lo lo' : Nat) (L : List It) (c : Code) (r : List Wk × Option Nat) (V : World) : Prop := c = .exit 0 ∧ (Below n0.heap.size n0 V ∧ lo' ≤ V.heap.size) ∧ RowIn bb lo L r.2 V
theorem rowIn_own {bb lo : Nat} {L : List It} {q : Option Nat} {V V' : World} {row : Option Nat} (h : RowIn bb lo L q V) (hg : V.grownBy V' row) (hr : ∀ r, row = some r → ∃ o : Obj, V.heap[r]? = some o ∧ o.isCells = false) : RowIn bb lo L q V' := by
  obtain ⟨A, c, h1, h2, h3⟩ := h
  exact ⟨A, c, block_kept h1 hg hr, h2.own stab_it hg hr, h3⟩
theorem rowIn_lt {bb lo : Nat} {L : List It} {q : Option Nat} {V : World} (h : RowIn bb lo L q V) : ∀ k, q = some k → lo ≤ k ∧ k < V.heap.size := fun k e => by
  obtain ⟨A, c, _, h2, h3⟩ := h
  obtain ⟨_, _, e4, _⟩ := h2.form
  obtain ⟨cs, h5, _⟩ := h2
  have := h5.lt k (by rw [e4, ← h3, e])
  exact ⟨this.1, this.2⟩
theorem rgI_own {n0 : World} {b1 b2 bb lo lo' : Nat} {f t : Ky} {B : Nat} (hB : n0.heap.size ≤ B) : OwnFrom B (RgI n0 b1 b2 bb lo lo' f t) := fun r V V' row hs hg hr => by
  obtain ⟨⟨h1, h2⟩, h3, ⟨h4, h5⟩, h6⟩ := hs
  have hn := fun r e => (hr r e).2
  exact ⟨⟨ownFrom_below (Nat.le_refl _) hB () V V' row h1 hg hr, Nat.le_trans h2 hg.size⟩, h3, ⟨block_kept h4 hg hn, block_kept h5 hg hn⟩, rowIn_own h6 hg hn⟩
theorem rgX_own {n0 : World} {bb lo lo' : Nat} {L : List It} {c : Code} {B : Nat} (hB : n0.heap.size ≤ B) : OwnFrom B (RgX n0 bb lo lo' L c) := fun r V V' row hs hg hr => by
  obtain ⟨h0, ⟨h1, h2⟩, h6⟩ := hs
  exact ⟨h0, ⟨ownFrom_below (Nat.le_refl _) hB () V V' row h1 hg hr, Nat.le_trans h2 hg.size⟩, rowIn_own h6 hg fun r e => (hr r e).2⟩
/-- What was told lies apart from the row. -/
theorem fre_but {B lo : Nat} {A : Option Addr} {V : World} {p : Addr} {v : Value} (hB : lo ≤ B) (hp : Fre B (A.map (·.block)) V p) (hc : V.cell? p = some v) : NewBut lo A V p ∧ V.cell? p = some v := ⟨⟨⟨Nat.le_trans hB hp.1.1, hp.1.2⟩, hp.2⟩, hc⟩
theorem range_end {s : Rm} {a : Int} {f t : Ky} {w V : World} {bb lo : Nat} {q : Option Nat} (he : ckE s a = 0) (hlo : w.heap.size ≤ lo) (hb : Below w.heap.size w V) (hr : RowIn bb lo (rangeO s a f t) q V) {A : Option Addr} {n c : Nat} (hbx : Boxed V bb 32 (.slice A n c)) : RangeR s a f t w (.returned (.tuple #[.slice A n c, .int .i64 0])) V := by
  obtain ⟨A', c', h1, h2, _⟩ := hr
  unfold Boxed at hbx h1
  rw [hbx] at h1
  cases h1
  refine ⟨A, c, by rw [raV_ok he, he], ?_, hb⟩
  rw [raV_ok he]
  exact stab_its.mono (RowOf.rel stab_it h2) hlo

set_option maxRecDepth 100000 in
set_option maxHeartbeats 8000000 in
theorem walkRange_any (v : Value) (s : Rm) (a : Int) (f t : Ky) (w : World) (h : Sto (Old w) w v s) :
    Calls Tryz.prog 9 #[v, .int .i64 a, kyV f, kyV t] w (RangeR s a f t w) := by
  obtain ⟨A, ca, B, cb, N, cn, L, cl, rfl, _⟩ := id h.open
  obtain ⟨v0, hv0⟩ : ∃ q, (Value.slice A s.1.1.length ca) = q := ⟨_, rfl⟩
  obtain ⟨v1, hv1⟩ : ∃ q, (Value.slice B s.1.2.length cb) = q := ⟨_, rfl⟩
  obtain ⟨v2, hv2⟩ : ∃ q, (Value.slice N s.2.1.length cn) = q := ⟨_, rfl⟩
  obtain ⟨v3, hv3⟩ : ∃ q, (Value.slice L s.2.2.length cl) = q := ⟨_, rfl⟩
  rw [hv0, hv1, hv2, hv3] at h ⊢
  replace hv0 := Lib.hid hv0
  replace hv1 := Lib.hid hv1
  replace hv2 := Lib.hid hv2
  replace hv3 := Lib.hid hv3
  obtain ⟨w1, hw1, k1, hs1, hB1⟩ := box_4 w v0 v1 v2 v3 29
  obtain ⟨w2, hw2, _, _, _, hs2, hB2, k2⟩ := box_three w1 (.int .u8 (f.1.toNat : Int)) (.int .u32 f.2.1) (.int .u32 f.2.2) 38
  obtain ⟨w3, hw3, _, _, _, hs3, hB3, k3⟩ := box_three w2 (.int .u8 (t.1.toNat : Int)) (.int .u32 t.2.1) (.int .u32 t.2.2) 38
  have hB23 := hB2.trans (hB3.mono hB2.size)
  have K1 : Hid (BoxW w.heap.size #[v0, v1, v2, v3] 29 w3) := Lib.hid (lasts_boxW _ _ _ _ _ k1 hB23)
  have K2 : Hid (BoxW w1.heap.size #[.int .u8 (f.1.toNat : Int), .int .u32 f.2.1, .int .u32 f.2.2] 38 w3) := Lib.hid (lasts_boxW _ _ _ _ _ k2 hB3)
  have K3 : Hid (BoxW w2.heap.size #[.int .u8 (t.1.toNat : Int), .int .u32 t.2.1, .int .u32 t.2.2] 38 w3) := Lib.hid k3
  have B3 : Hid (Below w.heap.size w w3) := Lib.hid (hB1.trans (hB23.mono hB1.size))
  have sz : Hid (w1.heap.size = w.heap.size + 1 ∧ w2.heap.size = w.heap.size + 2 ∧ w3.heap.size = w.heap.size + 3) := Lib.hid ⟨hs1, by omega, by omega⟩
  have hck := Lib.hid (findCheck_any (.agg #[v0, v1, v2, v3]) s a w3 (h.below B3.out))
  obtain ⟨E0, hE0⟩ : ∃ q, ckE s a = q := ⟨_, rfl⟩
  obtain ⟨H0, hH0⟩ : ∃ q, ckH s a = q := ⟨_, rfl⟩
  rw [hE0, hH0] at hck
  obtain ⟨s0, s1, s2, s3, _⟩ := four_cells K1.out
  replace h := Lib.hid h
  replace hE0 := Lib.hid hE0
  replace hs1 := Lib.hid hs1
  replace hs2 := Lib.hid hs2
  replace hs3 := Lib.hid hs3
  clear k1 k2 k3 hB1 hB2 hB3 hB23
  unfold kyV
  refine callsIn_wide.1 (callsIn_of_wp_marks (n := 5) Tryz.func9 rfl trivial ?_ rfl)
  simp only [Tryz.ntmps9, List.size_toArray, List.length_cons, List.length_nil, Nat.reduceAdd, Nat.reduceSub, Array.replicate_succ, Array.replicate_zero, List.push_toArray, List.append_toArray, List.nil_append, List.cons_append]
  gi_wp2_with fail
  refine ⟨trivial, ?_⟩
  gi_at_call 24
  refine (callsIn_wide.2 hck.out).mono ?_
  rintro e w4 ⟨rfl, hB4⟩
  have B4 := Lib.hid (B3.out.trans (hB4.mono B3.out.size))
  replace K1 : Hid (BoxW w.heap.size #[v0, v1, v2, v3] 29 w4) := Lib.hid (lasts_boxW _ _ _ _ _ K1.out hB4)
  replace K2 : Hid (BoxW w1.heap.size #[.int .u8 (f.1.toNat : Int), .int .u32 f.2.1, .int .u32 f.2.2] 38 w4) := Lib.hid (lasts_boxW _ _ _ _ _ K2.out hB4)
  replace K3 : Hid (BoxW w2.heap.size #[.int .u8 (t.1.toNat : Int), .int .u32 t.2.1, .int .u32 t.2.2] 38 w4) := Lib.hid (lasts_boxW _ _ _ _ _ K3.out hB4)
  have l34 := Lib.hid hB4.size
  clear hw1 hw2 hw3 s0 s1 s2 s3 hck hB4
  by_cases he : E0 = 0
  case neg =>
    have e1 : (E0 != 0) = true := by simpa using he
    have hne : Hid (ckE s a ≠ 0) := Lib.hid (by rw [hE0.out]; exact he)
    clear he
    gi_wp2_with fail
    refine ⟨_, results_tmp2 rfl _ _ _, none, 0, ?_, ?_, B4.out⟩
    · rw [raV_bad hne.out, hE0.out]
      rfl
    · rw [raV_bad hne.out]
      exact its_nil _ _
  subst he
  obtain ⟨s0, s1, s2, s3, _⟩ := four_cells K1.out
  obtain ⟨w5, hw5, K5, hs5, hB5⟩ : ∃ w5, w4.alloc (.cells #[.slice none 0 0] 32) = w5 ∧ Boxed w5 w4.heap.size 32 (.slice none 0 0) ∧ w5.heap.size = w4.heap.size + 1 ∧ Below w4.heap.size w4 w5 := ⟨_, rfl, Boxed.new _ _ _, by simp, (Below.refl _ _).alloc (Nat.le_refl _) _⟩
  have hIt := Lib.hid (items_any v0 v1 v2 v3 a w5)
  have s0' := (hB5.cell (p := ⟨w.heap.size, 0, none⟩) (by show w.heap.size < w4.heap.size; have := sz.out; have := l34.out; omega)).trans s0
  have s1' := (hB5.cell (p := ⟨w.heap.size, 1, none⟩) (by show w.heap.size < w4.heap.size; have := sz.out; have := l34.out; omega)).trans s1
  have s2' := (hB5.cell (p := ⟨w.heap.size, 2, none⟩) (by show w.heap.size < w4.heap.size; have := sz.out; have := l34.out; omega)).trans s2
  have s3' := (hB5.cell (p := ⟨w.heap.size, 3, none⟩) (by show w.heap.size < w4.heap.size; have := sz.out; have := l34.out; omega)).trans s3
  obtain ⟨w6, hw6, g6, b6, hs6, hB6⟩ : ∃ w6, (w5.alloc (.cells #[v0, v1, v2, v3] 29)).alloc (.cells #[.int .i64 a] 3) = w6 ∧ Box4 w5.heap.size v0 v1 v2 v3 w6 ∧ BoxF (w5.heap.size + 1) (.int .i64 a) w6 ∧ w6.heap.size = w5.heap.size + 2 ∧ Below w5.heap.size w5 w6 := by
    obtain ⟨wa, ha, ga, sa, ba⟩ := box_4 w5 v0 v1 v2 v3 29
    obtain ⟨wb, hb, gb, sb, bb⟩ := box_one wa (.int .i64 a) 3
    obtain ⟨k0, k1, k2, k3, _⟩ := four_cells ga
    exact ⟨wb, by rw [ha, hb], lasts_box4 _ _ _ _ _ _ _ ⟨k0, k1, k2, k3, by omega⟩ bb, ⟨by rw [← sa]; exact gb, by omega⟩, by omega, ba.trans (bb.mono ba.size)⟩
  rw [hw6] at hIt
  replace hs5 := Lib.hid hs5
  replace K5 := Lib.hid K5
  clear s0 s1 s2 s3 hw6
  gi_wp2_with fail
  refine ⟨trivial, ?_⟩
  gi_at_call 25
  refine (callsIn_wide.2 hIt.out).mono ?_
  rintro e w6 ⟨rfl, rfl⟩
  gi_wp2_with fail
  obtain ⟨htree, _, _⟩ := ck_of hE0.out
  have l46 : Hid (w.heap.size < w4.heap.size ∧ w2.heap.size < w4.heap.size ∧ w4.heap.size < w5.heap.size ∧ w6.heap.size = w5.heap.size + 2) := Lib.hid ⟨by have := sz.out; have := l34.out; omega, by have := sz.out; have := l34.out; omega, by have := hs5.out; omega, hs6⟩
  have hB46 := Lib.hid (hB5.trans (hB6.mono hB5.size))
  have B6 : Hid (Below w.heap.size w w6) := Lib.hid (B4.out.trans (hB46.out.mono (Nat.le_of_lt l46.out.1)))
  have K26 : BoxW w1.heap.size _ _ w6 := lasts_boxW _ _ _ _ _ K2.out hB46.out
  have K36 : BoxW w2.heap.size _ _ w6 := lasts_boxW _ _ _ _ _ K3.out hB46.out
  have K56 : Boxed w6 w4.heap.size 32 (.slice none 0 0) := (hB6.block _ (by have := l46.out; omega)).trans K5.out
  have hI0 : RgI w w1.heap.size w2.heap.size w4.heap.size w5.heap.size w6.heap.size f t ([], none) w6 := ⟨⟨B6.out, Nat.le_refl _⟩, by simp, ⟨K26, K36⟩, none, 0, K56, RowOf.nil _ _ _ _ _, rfl⟩
  have S6 : Sto (fun p => p.block < w.heap.size) w6 (.agg #[v0, v1, v2, v3]) s := h.out.map fun p v hp hc => low_kept (fun k hk => B6.out.block k hk) hp hc
  have hit6 := items_told s (rmV s a).1.toNat a (tree_at htree) w.heap.size w5.heap.size (w5.heap.size + 1) v0 v1 v2 v3 w6 (by have := l46.out; omega) g6 b6 S6
  have hstop6 := Lib.hid (fun (M : List (Int × It)) (p : Int × It) hM h1 h2 => pick_stop (f := f) (t := t) (M := M) (p := p) htree hM h1 h2)
  have hall6 := Lib.hid (fun (M : List (Int × It)) hM h1 => pick_all (s := s) (a := a) (f := f) (t := t) (M := M) hM h1)
  have hlen6 := Lib.hid (fun (M : List (Int × It)) hM => pick_len (f := f) (M := M) htree hM)
  obtain ⟨LL, hLL⟩ : ∃ q, walkT s (rmV s a).1.toNat a = q := ⟨_, rfl⟩
  rw [hLL] at hit6 hstop6 hall6 hlen6
  obtain ⟨RR, hRR⟩ : ∃ q, rangeO s a f t = q := ⟨_, rfl⟩
  rw [hRR] at hstop6 hall6
  replace hs6 := Lib.hid hs6
  replace hLL := Lib.hid hLL
  replace hRR := Lib.hid hRR
  replace htree := Lib.hid htree
  clear s0' s1' s2' s3' g6 b6 S6 hIt hB5 hB6 K26 K36 K56
  refine range_told (m := 5) (gf := 50) (lb := #[.pointer (some ⟨w5.heap.size, 0, none⟩), .pointer (some ⟨w5.heap.size + 1, 0, none⟩)]) rfl (enters_of Tryz.func50 (by kernel_rfl) rfl) hit6 (fun _ => rfl) (fun k => k = w4.heap.size) (fun k e => by have := l46.out; omega) none (fun k hk => by
      rcases hk with h | rfl | rfl
      · exact ⟨by have := l46.out; omega, by have := l46.out; omega, by simp⟩
      · exact ⟨by have := l46.out; omega, by have := l46.out; omega, by simp⟩
      · exact ⟨by have := l46.out; omega, by have := l46.out; omega, by simp⟩)
    (RgI w w1.heap.size w2.heap.size w4.heap.size w5.heap.size w6.heap.size f t) (RgX w w4.heap.size w5.heap.size w6.heap.size RR)
    (rgI_own (by have := l46.out; omega)) (fun c => rgX_own (by have := l46.out; omega))
    (fun r V hr k e => (rowIn_lt hr.2.2.2 k e).2) hI0
    (fun y a' V => ∃ (g : Nat) (d : Value), a' = { tmps := #[.agg #[v0, v1, v2, v3], .int .i64 a, .agg #[.int .u8 (f.1.toNat : Int), .int .u32 f.2.1, .int .u32 f.2.2], .agg #[.int .u8 (t.1.toNat : Int), .int .u32 t.2.1, .int .u32 t.2.2], .pointer (some ⟨w.heap.size, 0, none⟩), undef, .pointer (some ⟨w1.heap.size, 0, none⟩), .pointer (some ⟨w2.heap.size, 0, none⟩), .slice none 0 0, .int .i64 0, .int .i64 H0, .int .i64 0, .pointer (some ⟨w4.heap.size, 0, none⟩),
        .int .i64 y.1, .pointer (some ⟨g, 0, none⟩), .tuple #[.int .i64 H0, .int .i64 0], .agg #[v0, v1, v2, v3], .int .i64 a, .tuple #[.int .i64 H0, .int .i64 0], .int .i64 H0, .int .i64 0, .int .i64 0, .bool false, undef, .agg #[v0, v1, v2, v3], .int .i64 a,
        .func (.func 50) #[] #[.pointer (some ⟨w5.heap.size, 0, none⟩), .pointer (some ⟨w5.heap.size + 1, 0, none⟩)], .int .i64 y.1, .agg #[.int .u8 (y.2.1.1.1.toNat : Int), .int .u32 y.2.1.1.2.1, .int .u32 y.2.1.1.2.2, .int .i64 y.2.1.2.1, d], undef, undef, undef, undef, undef, undef, undef, undef, undef, undef, undef, undef, undef, undef, undef, undef, undef, undef], defers := [] } ∧ y.2.2 = itV y.2.1 d ∧
      BoxW g #[.int .u8 (y.2.1.1.1.toNat : Int), .int .u32 y.2.1.1.2.1, .int .u32 y.2.1.1.2.2, .int .i64 y.2.1.2.1, d] 52 V)
    (fun y a' _ A B row hs hg hr => by
      obtain ⟨g, d, e1, e2, h0⟩ := hs
      exact ⟨g, d, e1, e2, block_kept h0 hg fun r e => (hr r e).2⟩)
    (fun pre x q => tell_own _ _ _ _ _ _) ?assign ?body ?done ?stop
  case assign =>
    rintro l' pre' q' ⟨lv', it', val'⟩ V K hi ⟨_, hit⟩ hK
    obtain ⟨A', c', hd, -⟩ := hit.open
    dsimp only at hd
    subst hd
    obtain ⟨V1, hV1, v0', v1', v2', v3', v4', hVs, hVB, hVg⟩ := box_five V (.int .u8 (it'.1.1.toNat : Int)) (.int .u32 it'.1.2.1) (.int .u32 it'.1.2.2) (.int .i64 it'.2.1) (.slice A' it'.2.2.length c') 52
    replace hVs := Lib.hid hVs
    clear hit hi hI0
    simp only [encW, itV]
    gi_wp2_with fail
    exact hK _ _ (below_grown hVB) ⟨V.heap.size, _, rfl, rfl, hVg⟩
  case body =>
    rintro l' pre' q' ⟨lv', it', val'⟩ a' V hVs hI ⟨g, d, rfl, hd, hg⟩ ⟨hpf, hit⟩
    dsimp only at hd hit hg
    subst hd
    obtain ⟨v0', v1', v2', v3', v4', _⟩ := five_cells hg
    obtain ⟨⟨hIb, hIs⟩, hIp, ⟨hI1, hI2⟩, hIr⟩ := id hI
    obtain ⟨u0, u1, u2, _⟩ := three_cells hI2
    have hless := Lib.hid (less_any t it'.1 V)
    unfold kyV at hless
    obtain ⟨b1, hb1⟩ : ∃ b, lessK t it'.1 = b := ⟨_, rfl⟩
    rw [hb1] at hless
    replace hb1 := Lib.hid hb1
    replace hI := Lib.hid hI
    replace hIb := Lib.hid hIb
    replace hIs := Lib.hid hIs
    replace hIp := Lib.hid hIp
    replace hI1 := Lib.hid hI1
    replace hI2 := Lib.hid hI2
    replace hIr := Lib.hid hIr
    replace hg := Lib.hid hg
    replace hpf := Lib.hid hpf
    replace hit := Lib.hid hit
    clear hI0
    gi_wp2_with fail
    refine ⟨trivial, rfl, ?_⟩
    gi_at_call 20
    refine (CallsIn.inRound l' (callsIn_wide.2 hless.out)).mono ?_
    rintro e V1 ⟨rfl, hB1⟩
    have hg1 := lasts_boxW _ _ _ _ _ hg.out hB1
    have hI1' := lasts_boxW _ _ _ _ _ hI1.out hB1
    have hI2' := lasts_boxW _ _ _ _ _ hI2.out hB1
    have hIr1 := Lib.hid (rowIn_own hIr.out (below_grown hB1) (by simp))
    have hIb1 := Lib.hid (hIb.out.trans (hB1.mono hIb.out.size))
    have hIs1 := Lib.hid (Nat.le_trans hIs.out hB1.size)
    have hit1 := Lib.hid (hit.out.map fun p v hp hc => fre_own (B' := 0) (below_grown hB1) (by simp) hp hc : Itm (Fre (w6.heap.size + 2) q' V1) V1 (itV it' d) it')
    have hk1 : Hid (Kept (fun k => k = w4.heap.size) q' q' V V1) := Lib.hid (Kept.below hB1)
    clear v0' v1' v2' v3' v4' u0 u1 u2 hless hB1
    cases b1 with
    | true =>
      have hfin := Lib.hid (hstop6.out (pre'.map keyW) (lv', it') (by have := hpf.out; rw [List.map_append] at this; exact this) (fun p hp => by
        obtain ⟨y, hy, rfl⟩ := List.mem_map.1 hp
        exact hIp.out y hy) hb1.out)
      replace hg1 := Lib.hid hg1
      replace hI1' := Lib.hid hI1'
      replace hI2' := Lib.hid hI2'
      gi_wp2_with fail
      have := hIr1.out
      rw [hfin.out] at this
      exact ⟨q', hk1.out, rfl, ⟨hIb1.out, hIs1.out⟩, this⟩
    | false =>
      have hIp1 : Hid (∀ p ∈ pre' ++ [((lv', it', itV it' d) : Wk)], lessK t p.2.1.1 = false) := Lib.hid fun p hp => by
        rcases List.mem_append.1 hp with hp | hp
        · exact hIp.out p hp
        · rw [List.mem_singleton] at hp
          subst hp
          exact hb1.out
      have hm1 : Hid ((pre' ++ [((lv', it', itV it' d) : Wk)]).map keyW = pre'.map keyW ++ [(lv', it')]) := Lib.hid (by rw [List.map_append]; rfl)
      by_cases hlv : lv' = 0
      case neg =>
        have c0 : (lv' == 0) = false := by simpa using hlv
        have hpk : Hid (pickW f ((pre' ++ [((lv', it', itV it' d) : Wk)]).map keyW) = pickW f (pre'.map keyW)) := Lib.hid (by rw [hm1.out]; exact pick_no (.inl hlv))
        have hI9 : Hid (RgI w w1.heap.size w2.heap.size w4.heap.size w5.heap.size w6.heap.size f t (pre' ++ [((lv', it', itV it' d) : Wk)], q') V1) := Lib.hid ⟨⟨hIb1.out, hIs1.out⟩, hIp1.out, ⟨hI1', hI2'⟩, by
          show RowIn _ _ (pickW f ((pre' ++ [((lv', it', itV it' d) : Wk)]).map keyW)) _ _
          rw [hpk.out]
          exact hIr1.out⟩
        clear hlv hg1 hI1' hI2'
        gi_wp2_with fail
        refine ⟨trivial, ?_⟩
        gi_wp2_with fail
        exact ⟨q', hk1.out, hI9.out⟩
      subst hlv
      obtain ⟨v0', v1', v2', v3', v4', _⟩ := five_cells hg1
      obtain ⟨u0, u1, u2, _⟩ := three_cells hI1'
      have hless2 := Lib.hid (less_any it'.1 f V1)
      unfold kyV at hless2
      obtain ⟨b2, hb2⟩ : ∃ b, lessK it'.1 f = b := ⟨_, rfl⟩
      rw [hb2] at hless2
      replace hb2 := Lib.hid hb2
      replace hg1 := Lib.hid hg1
      replace hI1' := Lib.hid hI1'
      replace hI2' := Lib.hid hI2'
      gi_wp2_with fail
      refine ⟨trivial, rfl, ?_⟩
      gi_at_call 20
      refine (CallsIn.inRound l' (callsIn_wide.2 hless2.out)).mono ?_
      rintro e V2 ⟨rfl, hB2⟩
      have hg2 := lasts_boxW _ _ _ _ _ hg1.out hB2
      have hI1'' := Lib.hid (lasts_boxW _ _ _ _ _ hI1'.out hB2)
      have hI2'' := Lib.hid (lasts_boxW _ _ _ _ _ hI2'.out hB2)
      have hIr2 := Lib.hid (rowIn_own hIr1.out (below_grown hB2) (by simp))
      have hIb2 := Lib.hid (hIb1.out.trans (hB2.mono hIb1.out.size))
      have hIs2 := Lib.hid (Nat.le_trans hIs1.out hB2.size)
      have hit2 := Lib.hid (hit1.out.map fun p v hp hc => fre_own (B' := 0) (below_grown hB2) (by simp) hp hc : Itm (Fre (w6.heap.size + 2) q' V2) V2 (itV it' d) it')
      have hk2 : Hid (Kept (fun k => k = w4.heap.size) q' q' V V2) := Lib.hid (hk1.out.trans (Kept.below hB2))
      clear v0' v1' v2' v3' v4' u0 u1 u2 hless2 hB2 hg1 hI1' hI2' hIr1 hIb1 hIs1 hit1 hk1
      cases b2 with
      | true =>
        have hpk : Hid (pickW f ((pre' ++ [(((0 : Int), it', itV it' d) : Wk)]).map keyW) = pickW f (pre'.map keyW)) := Lib.hid (by rw [hm1.out]; exact pick_no (.inr hb2.out))
        have hI9 : Hid (RgI w w1.heap.size w2.heap.size w4.heap.size w5.heap.size w6.heap.size f t (pre' ++ [(((0 : Int), it', itV it' d) : Wk)], q') V2) := Lib.hid ⟨⟨hIb2.out, hIs2.out⟩, hIp1.out, ⟨hI1''.out, hI2''.out⟩, by
          show RowIn _ _ (pickW f ((pre' ++ [(((0 : Int), it', itV it' d) : Wk)]).map keyW)) _ _
          rw [hpk.out]
          exact hIr2.out⟩
        clear hg2
        gi_wp2_with fail
        exact ⟨q', hk2.out, hI9.out⟩
      | false =>
        have hpk : Hid (pickW f ((pre' ++ [(((0 : Int), it', itV it' d) : Wk)]).map keyW) = pickW f (pre'.map keyW) ++ [it']) := Lib.hid (by rw [hm1.out]; exact pick_yes rfl hb2.out)
        have hln := Lib.hid (hlen6.out (pre'.map keyW) (by have := hpf.out; rw [List.map_append] at this; exact (List.prefix_append _ _).trans this))
        obtain ⟨PP, hPP⟩ : ∃ q, pickW f (pre'.map keyW) = q := ⟨_, rfl⟩
        rw [hPP] at hpk hIr2 hln
        obtain ⟨n, hn⟩ : ∃ q, PP.length = q := ⟨_, rfl⟩
        have hlt2 := Lib.hid (rowIn_lt hIr2.out)
        obtain ⟨A, c, hbx, hrow, hq⟩ := hIr2.out
        rw [hn] at hbx hln
        have hbc := hbx.cell
        obtain ⟨v0', v1', v2', v3', v4', _⟩ := five_cells hg2
        obtain ⟨V3, hV3, _, _, _, _, _, hVs3, hB3, hg3⟩ := box_five V2 (.int .u8 (it'.1.1.toNat : Int)) (.int .u32 it'.1.2.1) (.int .u32 it'.1.2.2) (.int .i64 it'.2.1) d 52
        have hrow3 := hrow.below stab_it hB3
        have hit3 : Itm (NewBut w5.heap.size A V3) V3 (itV it' d) it' := hit2.out.map fun p v hp hc => by
          have h1 := fre_own (below_grown hB3) (B' := 0) (by simp) hp hc
          rw [hq] at h1
          exact fre_but (by have := l46.out; omega) h1.1 h1.2
        obtain ⟨d', hd', hin, hby⟩ := hit3
        obtain rfl : d = d' := by
          unfold itV at hd'
          simp at hd'
          exact hd'
        obtain ⟨A9, c9, V9, hrun, hrow9, hgr9, hB9, hk9⟩ := its_push_at hrow3 V2.heap.size it' d 1 n hn hg3 (by have := hln.out; omega) (by have := l46.out; have := hIs2.out; omega) hin hby
        have hbx3 : Boxed V3 w4.heap.size 32 (.slice A n c) := (hB3.block _ hbx.lt).trans hbx
        have hne9 : ∀ k, k < w5.heap.size → V9.heap[k]? = V3.heap[k]? := fun k hk => hB9.block k hk
        have hbx9 : Boxed V9 w4.heap.size 32 (.slice A n c) := (hne9 _ (by have := l46.out; omega)).trans hbx3
        have hbc9 := hbx9.cell
        have hbf9 := hbx9.frozen
        have hbx10 := hbx9.set (.slice A9 (n + 1) c9)
        have hgs := grownBy_setCell' V9 w4.heap.size (.slice A9 (n + 1) c9)
        have hrow10 := hrow9.grown stab_it hgs (fun r e => by cases e; have := l46.out; omega)
        have hk10 : Hid (Kept (fun k => k = w4.heap.size) q' (A9.map (·.block)) V (V9.setCell ⟨w4.heap.size, 0, none⟩ (.slice A9 (n + 1) c9))) := Lib.hid (((hk2.out.trans (Kept.below hB3)).trans (Kept.row hgr9 (fun r e => .inl (by rw [hq, e])) (fun r e => by
          rcases hk9 with h9 | h9
          · exact .inl (by rw [hq, ← h9, e])
          · rw [e] at h9
            simp only [Option.some.injEq] at h9
            exact .inr (.inr (by omega))))).grown hgs (fun r e => by cases e; exact .inr rfl))
        have hI9 : Hid (RgI w w1.heap.size w2.heap.size w4.heap.size w5.heap.size w6.heap.size f t (pre' ++ [(((0 : Int), it', itV it' d) : Wk)], A9.map (·.block)) (V9.setCell ⟨w4.heap.size, 0, none⟩ (.slice A9 (n + 1) c9))) := Lib.hid (by
          have h29 : ∀ k, k < w4.heap.size → (V9.setCell ⟨w4.heap.size, 0, none⟩ (.slice A9 (n + 1) c9)).heap[k]? = V2.heap[k]? := fun k hk => by
            rw [Below.heap_setCell V9 ⟨w4.heap.size, 0, none⟩ _ k (by show k ≠ w4.heap.size; omega), hne9 k (by have := l46.out; omega), hB3.block k (by have := l46.out; have := hIs2.out; omega)]
          refine ⟨⟨?_, ?_⟩, hIp1.out, ⟨(h29 _ (by have := l46.out; have := sz.out; omega)).trans hI1''.out, (h29 _ (by have := l46.out; omega)).trans hI2''.out⟩, ?_⟩
          · have h5 : w.heap.size ≤ w5.heap.size := by have := l46.out; omega
            exact (((hIb2.out.trans (hB3.mono hIb2.out.size)).trans (hB9.mono h5)).grown hgs (by have := hIs2.out; have := l46.out; have := hB3.size; have := hB9.size; omega) (fun k e => by cases e; have := l46.out; omega))
          · have := hgs.size
            have := hB9.size
            have := hB3.size
            have := hIs2.out
            omega
          · refine ⟨A9, c9, ?_, ?_, rfl⟩
            · show Boxed _ _ _ (.slice A9 (pickW f ((pre' ++ [(((0 : Int), it', itV it' d) : Wk)]).map keyW)).length c9)
              rw [hpk.out, List.length_append, hn]
              exact hbx10
            · show RowOf _ _ _ _ _ _ _ (pickW f ((pre' ++ [(((0 : Int), it', itV it' d) : Wk)]).map keyW))
              rw [hpk.out]
              exact hrow10)
        replace hn := Lib.hid hn
        replace hVs3 := Lib.hid hVs3
        have H9 := Lib.hid hrun
        clear hq hbx hrow hrow3 hbx3 hne9 hbx9 hbx10 hgs hrow10 hgr9 hB9 hk9 hin hby hd' hit2 hg2 hB3 hrun hrow9 hg3
        gi_wp2_with (gi_at_builtin; refine app_runIn rfl _ _ _ rfl rfl rfl H9.out ?_; clear H9)
        exact ⟨_, hk10.out, hI9.out⟩
  case done =>
    rintro xs q' V hVs hE ⟨⟨hb, _⟩, hp, _, hr⟩ hDV hqV
    have hfin := hall6.out (xs.map keyW) hE (fun p hp' => by
      obtain ⟨y, hy, rfl⟩ := List.mem_map.1 hp'
      exact hp y hy)
    rw [hfin] at hr
    obtain ⟨A, c, hbx, hrow, hq⟩ := id hr
    obtain ⟨n, hn⟩ : ∃ q, RR.length = q := ⟨_, rfl⟩
    rw [hn] at hbx
    have hbc := hbx.cell
    rw [← hRR.out] at hr
    have hD1 := Lib.hid hDV
    replace hr := Lib.hid hr
    replace hb := Lib.hid hb
    replace hbx := Lib.hid hbx
    replace hs6 := hs6
    clear hp hq hrow hn hDV hqV hVs hfin hI0
    gi_wp2_with fail
    refine ⟨by simp, .inl ⟨_, _, rfl, run_takeDeferred hD1.out, _, results_tmp2 rfl _ _ _, ?_⟩⟩
    have hgp := grownBy_putObj' V w6.heap.size (.deferred none)
    have hnp : ∀ r, some w6.heap.size = some r → ∃ o : Obj, V.heap[r]? = some o ∧ o.isCells = false := fun r e => by cases e; exact ⟨_, hD1.out, rfl⟩
    exact range_end hE0.out (by have := l46.out; omega : w.heap.size ≤ w5.heap.size) (hb.out.grown hgp hb.out.size (fun k e => by cases e; have := l46.out; omega)) (rowIn_own hr.out hgp hnp) (block_kept hbx.out hgp hnp)
  case stop =>
    rintro c pre' q' V hVs ⟨rfl, ⟨hb, _⟩, hr⟩ hDV hqV
    obtain ⟨A, c, hbx, hrow, hq⟩ := id hr
    obtain ⟨n, hn⟩ : ∃ q, RR.length = q := ⟨_, rfl⟩
    rw [hn] at hbx
    have hbc := hbx.cell
    rw [← hRR.out] at hr
    have hD1 := Lib.hid hDV
    replace hr := Lib.hid hr
    replace hb := Lib.hid hb
    replace hbx := Lib.hid hbx
    clear hq hrow hn hDV hqV hVs hI0
    gi_wp2_with fail
    refine ⟨by simp, .inl ⟨_, _, rfl, run_takeDeferred hD1.out, _, results_tmp2 rfl _ _ _, ?_⟩⟩
    have hgp := grownBy_putObj' V w6.heap.size (.deferred none)
    have hnp : ∀ r, some w6.heap.size = some r → ∃ o : Obj, V.heap[r]? = some o ∧ o.isCells = false := fun r e => by cases e; exact ⟨_, hD1.out, rfl⟩
    exact range_end hE0.out (by have := l46.out; omega : w.heap.size ≤ w5.heap.size) (hb.out.grown hgp hb.out.size (fun k e => by cases e; have := l46.out; omega)) (rowIn_own hr.out hgp hnp) (block_kept hbx.out hgp hnp)
end Go.Proofs.YtdaidhbmfocodaaGreat

/-
  The library's Keys, Sorted and Sort at ints: their bodies are those of the shelf. No condition.
-/
namespace Go.Proofs.YtdaidhbmfocodaaGreat
open Go.Shelf Go.RowKit Go.Lib Go.Sort

def keysA_ren : Go.Shelf.Ren := ⟨fun | 7 => 52 | 10 => 78 | n => n, fun | 23 => 74 | 26 => 3 | 3 => 72 | 28 => 103 | 0 => 0 | 27 => 102 | 33 => 111 | 4 => 4 | n => n, fun | n => n⟩
theorem keysA : Go.Proofs.SlLaysZI.n7 Tryz.prog keysA_ren := {
  mixed := by kernel_rfl,
  f7 := ⟨Tryz.f52.name, by decide, Tryz.func52.trans (congrArg some (by kernel_rfl))⟩,
  f10 := ⟨Tryz.f78.name, by decide, Tryz.func78.trans (congrArg some (by kernel_rfl))⟩,
  t0 := Tryz.underlying0,
  a0 := Tryz.isAgg0,
  z0 := Tryz.sizeOf0,
  v0 := Tryz.zeroValue0,
  t4 := Tryz.underlying4,
  a4 := Tryz.isAgg4,
  z4 := Tryz.sizeOf4,
  v4 := Tryz.zeroValue4,
  t23 := Tryz.underlying74,
  a23 := Tryz.isAgg74,
  z23 := Tryz.sizeOf74,
  v23 := Tryz.zeroValue74,
  t26 := Tryz.underlying3,
  a26 := Tryz.isAgg3,
  z26 := Tryz.sizeOf3,
  v26 := Tryz.zeroValue3,
  t27 := Tryz.underlying102,
  a27 := Tryz.isAgg102,
  z27 := Tryz.sizeOf102,
  v27 := Tryz.zeroValue102,
  t28 := Tryz.underlying103,
  a28 := Tryz.isAgg103,
  z28 := Tryz.sizeOf103,
  v28 := Tryz.zeroValue103,
  t33 := Tryz.underlying111,
  a33 := Tryz.isAgg111,
  z33 := Tryz.sizeOf111,
  v33 := Tryz.zeroValue111 }
def sortedA_ren : Go.Shelf.Ren := ⟨fun | 6 => 51 | 8 => 76 | 9 => 77 | 11 => 99 | 13 => 101 | 12 => 100 | 23 => 128 | 24 => 129 | 14 => 119 | 15 => 120 | 16 => 121 | 17 => 122 | 18 => 123 | 19 => 124 | 20 => 125 | 21 => 126 | 22 => 127 | 25 => 140 | 26 => 141 | 27 => 142 | 28 => 143 | 29 => 144 | 30 => 145 | 31 => 152 | n => n, fun | 26 => 3 | 28 => 103 | 24 => 40 | 0 => 0 | 3 => 3 | 37 => 154 | 48 => 36 | 50 => 183 | 4 => 4 | 40 => 175 | 39 => 174 | 45 => 124 | 5 => 5 | 9 => 9 | 51 => 194 | 55 => 198 | 57 => 206 | 58 => 78 | 33 => 111 | n => n, fun | n => n⟩
theorem sortedA : Go.Proofs.SlLaysZI.n6 Tryz.prog sortedA_ren := {
  mixed := by kernel_rfl,
  f6 := ⟨Tryz.f51.name, by decide, Tryz.func51.trans (congrArg some (by kernel_rfl))⟩,
  f8 := ⟨Tryz.f76.name, by decide, Tryz.func76.trans (congrArg some (by kernel_rfl))⟩,
  f11 := ⟨Tryz.f99.name, by decide, Tryz.func99.trans (congrArg some (by kernel_rfl))⟩,
  t0 := Tryz.underlying0,
  a0 := Tryz.isAgg0,
  z0 := Tryz.sizeOf0,
  v0 := Tryz.zeroValue0,
  t24 := Tryz.underlying40,
  a24 := Tryz.isAgg40,
  z24 := Tryz.sizeOf40,
  v24 := Tryz.zeroValue40,
  t26 := Tryz.underlying3,
  a26 := Tryz.isAgg3,
  z26 := Tryz.sizeOf3,
  v26 := Tryz.zeroValue3,
  t28 := Tryz.underlying103,
  a28 := Tryz.isAgg103,
  z28 := Tryz.sizeOf103,
  v28 := Tryz.zeroValue103,
  i26 := by kernel_rfl }
def sortA_ren : Go.Shelf.Ren := ⟨fun | 5 => 77 | 8 => 101 | 7 => 100 | 19 => 128 | 20 => 129 | 10 => 119 | 11 => 120 | 12 => 121 | 13 => 122 | 14 => 123 | 15 => 124 | 16 => 125 | 17 => 126 | 18 => 127 | 30 => 140 | 31 => 141 | 32 => 142 | 33 => 143 | 34 => 144 | 35 => 145 | 40 => 152 | n => n, fun | 23 => 40 | 25 => 3 | 3 => 3 | 32 => 154 | 22 => 40 | 0 => 0 | 44 => 36 | 46 => 183 | 4 => 4 | 36 => 175 | 35 => 174 | 41 => 124 | 5 => 5 | 9 => 9 | 53 => 194 | 57 => 198 | 63 => 206 | 64 => 78 | n => n, fun | n => n⟩
theorem sortA : Go.Proofs.SlLaysM.n5 Tryz.prog sortA_ren := {
  mixed := by kernel_rfl,
  f5 := ⟨Tryz.f77.name, by decide, Tryz.func77.trans (congrArg some (by kernel_rfl))⟩,
  f7 := ⟨Tryz.f100.name, by decide, Tryz.func100.trans (congrArg some (by kernel_rfl))⟩,
  f8 := Tryz.func101.trans (congrArg some (by kernel_rfl)),
  f10 := ⟨Tryz.f119.name, by decide, Tryz.func119.trans (congrArg some (by kernel_rfl))⟩,
  f11 := ⟨Tryz.f120.name, by decide, Tryz.func120.trans (congrArg some (by kernel_rfl))⟩,
  f12 := ⟨Tryz.f121.name, by decide, Tryz.func121.trans (congrArg some (by kernel_rfl))⟩,
  f13 := ⟨Tryz.f122.name, by decide, Tryz.func122.trans (congrArg some (by kernel_rfl))⟩,
  f14 := ⟨Tryz.f123.name, by decide, Tryz.func123.trans (congrArg some (by kernel_rfl))⟩,
  f15 := ⟨Tryz.f124.name, by decide, Tryz.func124.trans (congrArg some (by kernel_rfl))⟩,
  f16 := ⟨Tryz.f125.name, by decide, Tryz.func125.trans (congrArg some (by kernel_rfl))⟩,
  f17 := ⟨Tryz.f126.name, by decide, Tryz.func126.trans (congrArg some (by kernel_rfl))⟩,
  f18 := ⟨Tryz.f127.name, by decide, Tryz.func127.trans (congrArg some (by kernel_rfl))⟩,
  f19 := Tryz.func128.trans (congrArg some (by kernel_rfl)),
  f20 := Tryz.func129.trans (congrArg some (by kernel_rfl)),
  f30 := ⟨Tryz.f140.name, by decide, Tryz.func140.trans (congrArg some (by kernel_rfl))⟩,
  f31 := Tryz.func141.trans (congrArg some (by kernel_rfl)),
  f32 := Tryz.func142.trans (congrArg some (by kernel_rfl)),
  f33 := ⟨Tryz.f143.name, by decide, Tryz.func143.trans (congrArg some (by kernel_rfl))⟩,
  f34 := ⟨Tryz.f144.name, by decide, Tryz.func144.trans (congrArg some (by kernel_rfl))⟩,
  f35 := ⟨Tryz.f145.name, by decide, Tryz.func145.trans (congrArg some (by kernel_rfl))⟩,
  f40 := ⟨Tryz.f152.name, by decide, Tryz.func152.trans (congrArg some (by kernel_rfl))⟩,
  t0 := Tryz.underlying0,
  a0 := Tryz.isAgg0,
  z0 := Tryz.sizeOf0,
  v0 := Tryz.zeroValue0,
  t3 := Tryz.underlying3,
  a3 := Tryz.isAgg3,
  z3 := Tryz.sizeOf3,
  v3 := Tryz.zeroValue3,
  t4 := Tryz.underlying4,
  a4 := Tryz.isAgg4,
  z4 := Tryz.sizeOf4,
  v4 := Tryz.zeroValue4,
  t5 := Tryz.underlying5,
  a5 := Tryz.isAgg5,
  z5 := Tryz.sizeOf5,
  v5 := Tryz.zeroValue5,
  t9 := Tryz.underlying9,
  a9 := Tryz.isAgg9,
  z9 := Tryz.sizeOf9,
  v9 := Tryz.zeroValue9,
  t22 := Tryz.underlying40,
  a22 := Tryz.isAgg40,
  z22 := Tryz.sizeOf40,
  v22 := Tryz.zeroValue40,
  t23 := Tryz.underlying40,
  a23 := Tryz.isAgg40,
  z23 := Tryz.sizeOf40,
  v23 := Tryz.zeroValue40,
  t25 := Tryz.underlying3,
  a25 := Tryz.isAgg3,
  z25 := Tryz.sizeOf3,
  v25 := Tryz.zeroValue3,
  t32 := Tryz.underlying154,
  a32 := Tryz.isAgg154,
  z32 := Tryz.sizeOf154,
  v32 := Tryz.zeroValue154,
  t35 := Tryz.underlying174,
  a35 := Tryz.isAgg174,
  z35 := Tryz.sizeOf174,
  v35 := Tryz.zeroValue174,
  t36 := Tryz.underlying175,
  a36 := Tryz.isAgg175,
  z36 := Tryz.sizeOf175,
  v36 := Tryz.zeroValue175,
  t41 := Tryz.underlying124,
  a41 := Tryz.isAgg124,
  z41 := Tryz.sizeOf124,
  v41 := Tryz.zeroValue124,
  t44 := Tryz.underlying36,
  a44 := Tryz.isAgg36,
  z44 := Tryz.sizeOf36,
  v44 := Tryz.zeroValue36,
  t46 := Tryz.underlying183,
  a46 := Tryz.isAgg183,
  z46 := Tryz.sizeOf183,
  v46 := Tryz.zeroValue183,
  t53 := Tryz.underlying194,
  a53 := Tryz.isAgg194,
  z53 := Tryz.sizeOf194,
  v53 := Tryz.zeroValue194,
  t57 := Tryz.underlying198,
  a57 := Tryz.isAgg198,
  z57 := Tryz.sizeOf198,
  v57 := Tryz.zeroValue198,
  t63 := Tryz.underlying206,
  a63 := Tryz.isAgg206,
  z63 := Tryz.sizeOf206,
  v63 := Tryz.zeroValue206,
  t64 := Tryz.underlying78,
  a64 := Tryz.isAgg78,
  z64 := Tryz.sizeOf78,
  v64 := Tryz.zeroValue78 }
end Go.Proofs.YtdaidhbmfocodaaGreat

/-
  Package walk: the places of a set of blocks, in order: the library's Sorted at a map's keys. Conditions: those that each lemma states.
-/
namespace Go.Proofs.YtdaidhbmfocodaaGreat
open Go.RowKit Go.Maps Go.Sort Go.Shelf

/-- A map of the call's own whose keys are these numbers. -/
def MapOf (W : World) (b : Nat) (K : List Int) : Prop := ∃ (n : Nat) (D : DataW Unit), W.ownsMap Tryz.prog 3 unitElem b n D ∧ n ≤ K.length ∧ ∀ x, has D (.int .i64 x) = true ↔ x ∈ K
def markI (K : List Int) : List Int := (markO K).map fun k : Nat => (k : Int)
theorem markI_up (K : List Int) : (markI K).Pairwise (· < ·) := by
  unfold markI
  exact List.Pairwise.map _ (fun a b h => by omega) (mark_up K)
theorem markI_in {K : List Int} (hK : ∀ x ∈ K, 0 ≤ x ∧ x < 256) {x : Int} : x ∈ markI K ↔ x ∈ K := by
  unfold markI
  rw [List.mem_map]
  constructor
  · rintro ⟨k, hk, rfl⟩
    exact (mark_in.1 hk).2
  · intro h
    obtain ⟨h0, h1⟩ := hK x h
    have e : ((x.toNat : Nat) : Int) = x := by omega
    exact ⟨x.toNat, mark_in.2 ⟨by omega, by rw [e]; exact h⟩, e⟩
theorem mapOf_kept {W W' : World} {b : Nat} {K : List Int} {row : Option Nat} (h : MapOf W b K) (hg : W.grownBy W' row) (hne : some b ≠ row) : MapOf W' b K := by
  obtain ⟨n, D, h1, h2, h3⟩ := h
  exact ⟨n, D, h1.kept hg hne, h2, h3⟩
theorem mapOf_lt {W : World} {b : Nat} {K : List Int} (h : MapOf W b K) : b < W.heap.size := by
  obtain ⟨n, D, h1, _⟩ := h
  exact h1.lt
theorem mapOf_new (W : World) : MapOf (W.alloc (.map #[] 0)) W.heap.size [] := ⟨0, .map [], World.ownsMap_made W Tryz.prog 3 unitElem, by simp, fun x => by simp [has]⟩
theorem lit_key (x : Int) : WideAt.IsKeyLit (.int .i64 x) := trivial
theorem mapOf_put {W : World} {b : Nat} {K : List Int} (h : MapOf W b K) {x : Int} (hx : (Lit.int .i64 x).wf = true) (hl : K.length < 1000000) :
    ∃ W', Sem.run Tryz.prog (Instr.mapUpdate 74 (.map (some b)) (.int .i64 x) (.agg #[])) W = .ok () W' ∧ MapOf W' b (K ++ [x]) ∧ W.grownBy W' (some b) := by
  obtain ⟨n, D, h1, h2, h3⟩ := h
  obtain ⟨W', hr, ho, hg⟩ := h1.update (int_keyed Tryz.underlying3) Tryz.underlying74 (by unfold maxLen; omega) (keyOf_int_mk Tryz.underlying3 hx) (unitElem_mk (H := Unit))
  refine ⟨W', hr, ⟨n + 1, _, ho, by rw [List.length_append, List.length_singleton]; omega, fun y => ?_⟩, hg⟩
  rw [List.mem_append, List.mem_singleton]
  by_cases e : y = x
  · subst e
    simp [has_put_same h1.isMap (lit_key y)]
  · rw [has_put_other (fun e' => e (by simpa using e')), h3 y]
    simp [e]
theorem sortsA (m : Nat) : AnyZI.SortsIn Tryz.prog sortedA_ren Fence.wide m :=
  ⟨fun blk off cap ss W hH hblk hsz => callsIn_wide.2 (AnyM.slices_Sort_int sortA blk off cap ss W hH hblk hsz), fun p cap W => callsIn_wide.2 (AnyM.slices_Sort_int_none sortA p cap W)⟩

set_option maxRecDepth 100000 in
set_option maxHeartbeats 4000000 in
theorem rising_owns (b nn : Nat) (D0 : DataW Unit) (w : World) (hown : w.ownsMap Tryz.prog 3 unitElem b nn D0) (hmax : Maps.size D0 ≤ 1000000) :
    Calls Tryz.prog 26 #[.map (some b)] w fun e w' => ∃ (v : Value) (ss : List Int), e = .returned v ∧ ss.Perm (intKeys D0) ∧ w'.ownsRow w.heap.size 3 1 v ss.length ((ss.mergeSort (fun x y => decide (x ≤ y))).map encZ) ∧ Below w.heap.size w w' := by
  refine (callsIn_wide (n := 6)).1 ?_
  have hbl := hown.lt
  have hseq : SeqGives Fence.wide 2 Tryz.prog 78 #[.pointer (some ⟨w.heap.size, 0, none⟩)] encZ (fun ss => ss.Perm (intKeys D0)) (Maps.size D0) (w.alloc (.cells #[.map (some b)] 74)) :=
    AnyZI.keys_gives (ρ := keysA_ren) { keysA with } Fence.wide _ trivial rfl (by omega) w.heap.size b nn D0 _ (by simp) (by simp) (hown.alloc _)
  have cK : ∀ mb W, CallsIn Fence.wide 5 Tryz.prog 52 #[.map mb] W fun e w' => e = .returned (.func (.func 78) #[] #[.pointer (some ⟨W.heap.size, 0, none⟩)]) ∧ w' = W.alloc (.cells #[.map mb] 74) := fun mb W => AnyZI.keys_in keysA Fence.wide 5 trivial rfl mb W
  have cS := AnyZI.sorted_in sortedA Fence.wide 5 trivial trivial trivial trivial rfl (by omega) (sortsA _) (enters_of Tryz.func77 (by kernel_rfl) rfl) 78 #[.pointer (some ⟨w.heap.size, 0, none⟩)] trivial (enters_of Tryz.func78 (by kernel_rfl) rfl) _ _ (by unfold maxLen; omega) (by omega) _ hseq
  change CallsIn _ _ Tryz.prog 51 _ _ _ at cS
  replace cS := Lib.hid cS
  replace cK := Lib.hid cK
  clear hseq hown
  refine callsIn_of_wp Tryz.func26 rfl trivial ?_ rfl
  simp only [Tryz.ntmps26, List.size_toArray, List.length_cons, List.length_nil, Nat.reduceAdd, Nat.reduceSub, Array.replicate_succ, Array.replicate_zero, List.push_toArray, List.append_toArray, List.nil_append, List.cons_append]
  gi_wp2_with fail
  refine ⟨trivial, ?_⟩
  gi_at_call 52
  refine (cK.out _ _).mono ?_
  rintro e w1 ⟨rfl, rfl⟩
  gi_wp2_with fail
  refine ⟨trivial, ?_⟩
  gi_at_call 51
  refine cS.out.mono ?_
  rintro e w2 ⟨v, ss, rfl, hS, hrow, _, hb⟩
  replace hrow := Lib.hid hrow
  replace hb := Lib.hid hb
  gi_wp2_with fail
  go_ret
  exact ⟨v, ss, rfl, hS, ownsRow_base_a hrow.out (by simp), ((Below.refl _ w).alloc (Nat.le_refl _) _).trans (hb.out.mono (by simp))⟩
theorem rising_any (b : Nat) (K : List Int) (hK : ∀ x ∈ K, 0 ≤ x ∧ x < 256) (hlen : K.length ≤ 1000000) (w : World) (h : MapOf w b K) :
    Calls Tryz.prog 26 #[.map (some b)] w fun e w' => ∃ A c, e = .returned (.slice A (markI K).length c) ∧ rSl 1 (rK .i64) (New w.heap.size w') w' [.slice A (markI K).length c] (markI K) ∧ Below w.heap.size w w' := by
  obtain ⟨n, D, hown, hn, hD⟩ := h
  have hsz := hown.size_le
  refine (rising_owns b n D w hown (by omega)).mono ?_
  rintro e w' ⟨v, ss, rfl, hp, hrow, hb⟩
  have hnd : (markI K).Nodup := (markI_up K).imp fun h => by omega
  have hpm : (markI K).Perm (intKeys D) := CollectedI.perm (left := fun _ => false) ⟨hnd, fun x => by rw [markI_in hK, hD x]; simp⟩ hown (int_keyed Tryz.underlying3) Tryz.underlying3 (fun _ => rfl)
  have hss : ss.mergeSort (fun x y => decide (x ≤ y)) = markI K := by
    rw [show (fun x y : Int => decide (x ≤ y)) = leI from rfl, mergeSort_of_perm_i (hp.trans hpm.symm)]
    exact List.mergeSort_of_pairwise ((markI_up K).imp fun h => by simp only [leI, decide_eq_true_eq]; omega)
  have hlen : ss.length = (markI K).length := (hp.trans hpm.symm).length_eq
  rw [hss, hlen] at hrow
  have hr : rSl 1 (rK .i64) (New w.heap.size w') w' [v] (markI K) := own_sl hrow rfl fun i x hi => by
    have hx := hK x ((markI_in hK).1 (List.mem_of_getElem? hi))
    refine ⟨[.int .i64 x], rfl, fun j u hj => ?_, rfl, ?_, ?_⟩
    · have hj0 : j = 0 := by
        have := (List.getElem?_eq_some_iff.1 hj).1
        simp at this
        omega
      subst hj0
      cases hj
      rw [Nat.mul_one, Nat.add_zero, List.getElem?_map, hi]
      rfl
    · simp [IntKind.min, IntKind.signed, IntKind.bits]
      omega
    · simp [IntKind.max, IntKind.signed, IntKind.bits]
      omega
  obtain ⟨A, c, e, _⟩ := id hr
  simp only [List.cons.injEq, and_true] at e
  subst e
  exact ⟨A, c, rfl, hr, hb⟩
end Go.Proofs.YtdaidhbmfocodaaGreat

/-
  Sets of blocks as 256 flags in a block of the world's own; what the blocks of a tree say, as two rising rows. Conditions: those that each lemma states.
-/
namespace Go.Proofs.YtdaidhbmfocodaaGreat
open Go.RowKit

/-- A row of numbers, read at a place. -/
theorem sl_at {w : World} {U : Option Addr} {n c : Nat} {l : List Int} (h : rSl 1 (rK .i64) (Old w) w [.slice U n c] l) {k : Nat} {x : Int} (hx : l[k]? = some x) :
    ∃ ad, U = some ad ∧ ∀ W, Below w.heap.size w W → W.cell? (ad.add k) = some (.int .i64 x) := by
  obtain ⟨A, cap, e, _, _, h2⟩ := h
  simp only [List.cons.injEq, Value.slice.injEq, and_true] at e
  obtain ⟨rfl, _, _⟩ := e
  obtain ⟨ad, vs, rfl, _, e3, e4⟩ := h2 k x hx
  obtain ⟨rfl, _, _⟩ := e4
  have := e3 0 _ rfl
  simp only [Nat.mul_one, Nat.add_zero] at this
  exact ⟨ad, rfl, fun W hW => (hW.cell (p := ad.add k) this.1).trans this.2⟩
end Go.Proofs.YtdaidhbmfocodaaGreat

/-
  The document's Items of a tree (layer 10). Conditions: those that each lemma states.
-/
namespace Go.Proofs.YtdaidhbmfocodaaGreat
open Go.RowKit

theorem fm_len {f : It → List It} {N : Nat} : ∀ {L : List It}, (∀ x ∈ L, (f x).length ≤ N) → (L.flatMap f).length ≤ N * L.length
  | [], _ => by simp
  | x :: r, h => by
    rw [List.flatMap_cons, List.length_append, List.length_cons, Nat.mul_succ]
    have h1 := h x (by simp)
    have h2 := fm_len (L := r) fun y hy => h y (by simp [hy])
    omega
theorem fm_take {f : It → List It} {L : List It} {i : Nat} {x : It} (hx : L[i]? = some x) : (L.take (i + 1)).flatMap f = (L.take i).flatMap f ++ f x := by
  obtain ⟨h1, e1⟩ := List.getElem?_eq_some_iff.1 hx
  rw [← List.take_append_getElem h1, e1, List.flatMap_append, List.flatMap_singleton]
theorem at_len (s : Rm) : ∀ (l : Nat) (a : Int), AtT s l a → (itsT s l a).length ≤ 5 ^ (l + 1)
  | 0, a, h => by
    unfold itsT
    exact (mayN_of h.may).1.2.2.1
  | l + 1, a, h => by
    unfold itsT
    have h5 := (mayN_of h.may).1.2.2.1
    refine Nat.le_trans (fm_len (N := 5 ^ (l + 1)) fun x hx => at_len s l x.2.1 (h.down hx)) ?_
    rw [Nat.pow_succ 5 (l + 1)]
    exact Nat.mul_le_mul_left _ h5

/-- What a call of it tells, at a level. -/
def ItR (s : Rm) (l : Nat) (a : Int) (w : World) : Ending → World → Prop := fun e w' => ∃ u c, e = .returned (.slice u (itsT s l a).length c) ∧ rIts (New w.heap.size w') w' [.slice u (itsT s l a).length c] (itsT s l a) ∧ Below w.heap.size w w'
def ItIs (s : Rm) (l : Nat) : Prop := ∀ (v : Value) (a : Int) (w : World), AtT s l a → Sto (Old w) w v s → Calls Tryz.prog 55 #[v, .int .i64 a] w (ItR s l a w)
theorem it_ret {s : Rm} {l : Nat} {a : Int} {w w' : World} {m : List It} {n c : Nat} {u : Option Addr} (h : itsT s l a = m) (hn : m.length = n) (hr : rIts (New w.heap.size w') w' [.slice u n c] m) (hb : Below w.heap.size w w') : ItR s l a w (.returned (.slice u n c)) w' := by
  unfold ItR
  rw [h]
  subst hn
  exact ⟨u, c, rfl, hr, hb⟩

set_option maxRecDepth 100000 in
set_option maxHeartbeats 8000000 in
theorem its_step (s : Rm) (hm : mayR s = true) (l0 : Nat) (hl5 : l0 ≤ 5) (hr0 : ∀ j, l0 = j + 1 → ItIs s j) : ItIs s l0 := by
  intro v a w hat h
  obtain ⟨A, ca, B, cb, N, cn, L, cl, rfl, _⟩ := id h.open
  have hRd := Lib.hid (fun v W hW => refRead_open v s a hm W hW)
  have hz := Lib.hid (fun (h0 : l0 = 0) => (by subst h0; unfold itsT; rfl : itsT s l0 a = (rmV s a).2))
  have hsu := Lib.hid (fun (j : Nat) (hj : l0 = j + 1) => (by subst hj; conv => lhs; unfold itsT : itsT s l0 a = (rmV s a).2.flatMap fun x => itsT s j x.2.1))
  have hdn := Lib.hid (fun (j : Nat) (hj : l0 = j + 1) (x : It) (hx : x ∈ (rmV s a).2) => (by subst hj; exact hat.down hx : AtT s j x.2.1))
  have hmn := Lib.hid hat.may
  have hlv := hat.lvl
  obtain ⟨E0, hE0⟩ : ∃ q, (rmE s a == 0) = q := ⟨_, rfl⟩
  obtain ⟨nd, hnd⟩ : ∃ q, rmV s a = q := ⟨_, rfl⟩
  rw [hnd, hE0] at hRd
  rw [hnd] at hz hsu hdn hmn hlv
  obtain ⟨lw, hlw⟩ : ∃ q, nd.1 = q := ⟨_, rfl⟩
  obtain ⟨l, hl⟩ : ∃ q, nd.2 = q := ⟨_, rfl⟩
  obtain ⟨m, hlm⟩ : ∃ q, l.length = q := ⟨_, rfl⟩
  rw [hlw, hl, hlm] at hRd
  rw [hl] at hz hsu hdn
  rw [hlw] at hlv
  have hm5 : m ≤ 5 := by
    have := (mayN_of hmn.out).1.2.2.1
    rw [hl, hlm] at this
    exact this
  have HG0 : Bag w [OldR (.agg #[.slice A s.1.1.length ca, .slice B s.1.2.length cb, .slice N s.2.1.length cn, .slice L s.2.2.length cl]) s] := (Bag.nil w).add (F := OldR _ s) h (lasts_oldR _ _)
  obtain ⟨w0, hw0, hg0, hB0, _, hs0⟩ := bag_four HG0 (Below.refl _ _) (.slice A s.1.1.length ca) (.slice B s.1.2.length cb) (.slice N s.2.1.length cn) (.slice L s.2.2.length cl) 29
  have HG := Lib.hid hg0
  have BB := Lib.hid hB0
  obtain ⟨s0, s1, s2, s3, _⟩ := HG.out.at 0 rfl
  replace hs0 := Lib.hid hs0
  replace hnd := Lib.hid hnd
  replace hE0 := Lib.hid hE0
  replace hlw := Lib.hid hlw
  replace hl := Lib.hid hl
  replace hlm := Lib.hid hlm
  replace hlv := Lib.hid hlv
  clear HG0 hg0 h hB0 hat
  go_enter Tryz.func55, Tryz.ntmps55
  go_upto_region 1 with fail
  clear hw0
  go_wp2_with fail
  with_reducible refine (hRd.out _ _ (HG.out.at 1 rfl)).mono ?_
  rintro e w3 ⟨Z, zc, rfl, -, h3n, hb3⟩
  have h3s : rIts (New w0.heap.size w3) w3 [.slice Z m zc] l := by
    obtain ⟨_, e, _, h⟩ := h3n
    cases e
    rw [hl.out] at h
    exact h
  obtain ⟨w4, hw4, hg4, hb4, -, hs4⟩ := bag_node ((HG.out.below hb3).add (F := NewIs w0.heap.size _ l) h3s (lasts_newIs _ _ _)) (Below.refl _ _) (.int .i64 lw) (.slice Z m zc)
  replace HG := Lib.hid hg4
  have lo0 := Lib.hid BB.out.size
  replace BB := Lib.hid (BB.out.trans ((hb3.trans (hb4.mono hb3.size)).mono BB.out.size))
  replace hs4 := Lib.hid hs4
  clear hg4 hb4 hb3 h3s h3n s0 s1 s2 s3 hRd
  go_upto_region 2 with fail
  clear hw4
  obtain ⟨y0, y1, _⟩ := HG.out.at 0 rfl
  cases l0 with
  | zero =>
    have hf := Lib.hid (hz.out rfl)
    have e1 : (lw == 0) = true := by simp [hlv.out]
    have hit : Hid (rIts (New w.heap.size w4) w4 [.slice Z m zc] l) := Lib.hid (stab_its.new (HG.out.at 1 rfl : rIts (New w0.heap.size w4) w4 [.slice Z m zc] l) lo0.out (Below.refl _ _))
    go_wp2_with fail
    go_ret
    exact it_ret hf.out hlm.out hit.out BB.out
  | succ l1 =>
    have hrec := Lib.hid (hr0 l1 rfl)
    have c0 : (lw == 0) = false := by rw [hlv.out]; simp; omega
    obtain ⟨F, hF⟩ : ∃ F : It → List It, (fun x => itsT s l1 x.2.1) = F := ⟨_, rfl⟩
    have hfl : Hid (itsT s (l1 + 1) a = l.flatMap F) := Lib.hid (by rw [hsu.out l1 rfl, hF])
    have hlen := Lib.hid (fun x (hx : x ∈ l) => (show (F x).length ≤ 5 ^ 5 by
      rw [← hF]
      exact Nat.le_trans (at_len s l1 x.2.1 (hdn.out l1 rfl x hx)) (Nat.pow_le_pow_right (by decide) (by omega))))
    have hd := Lib.hid (fun x (hx : x ∈ l) => hdn.out l1 rfl x hx)
    replace hF := Lib.hid hF
    clear hz hsu hdn
    go_wp2_with fail
    clear y0 y1 c0
    go_loopw [8, 7] (fun vi vo wr => ∃ (k n : Nat) (Q : Option Addr) (c : Nat) (q : List It), k ≤ m ∧ vi = .int .i64 k ∧ vo = .slice Q n c ∧ q.length = n ∧ (l.take k).flatMap F = q ∧ RowOf rIt 5 52 w4.heap.size wr Q c q ∧ (∀ g, Q.map (·.block) = some g → g < wr.heap.size) ∧ Below w4.heap.size w4 wr) (fun vi _ _ => m - (intOf vi).toNat)
    case atStart => exact ⟨0, 0, none, 0, [], by omega, rfl, rfl, rfl, rfl, RowOf.nil _ _ _ _ _, (fun g hg => by cases hg), Below.refl _ _⟩
    case round =>
      obtain ⟨k, n, Q, c, q, hk, rfl, rfl, hqn, hfk, hrow, hQl, hbr⟩ := hrel
      have HR := Lib.hid (HG.out.below hbr)
      have BR := Lib.hid hbr
      have hrow' := Lib.hid hrow
      have hQl' := Lib.hid hQl
      have hqn' := Lib.hid hqn
      clear hbr hrow hQl hqn
      obtain ⟨y0, y1, _⟩ := HR.out.at 0 rfl
      by_cases hlt : k < m
      case neg =>
        have hf : Hid (itsT s (l1 + 1) a = q) := Lib.hid (by
          rw [hfl.out, ← hfk, List.take_of_length_le (by rw [hlm.out]; omega)])
        have B4 := Lib.hid (BB.out.trans (BR.out.mono BB.out.size))
        have hit : Hid (rIts (New w.heap.size wr) wr [.slice Q n c] q) := Lib.hid (by
          have := (RowOf.low stab_it hrow'.out BB.out.size).rel stab_it
          rw [hqn'.out] at this
          exact this)
        replace hfk := Lib.hid hfk
        go_wp2_with fail
        go_ret
        exact it_ret hf.out hqn'.out hit.out B4.out
      obtain ⟨x, hx0⟩ : ∃ x, l[k]? = some x := ⟨_, List.getElem?_eq_getElem (by rw [hlm.out]; exact hlt)⟩
      obtain ⟨ad, E5, ce5, rfl, _, FX⟩ := its_new (HR.out.at 1 rfl : rIts (New w0.heap.size wr) wr [.slice Z m zc] l) hx0
      have FX' := Lib.hid (fun W (hW : Below wr.heap.size wr W) => (FX W hW).1)
      have hxm := List.mem_of_getElem? hx0
      have hx := Lib.hid hx0
      have i4 : (0 : Int) ≤ (k : Int) := by omega
      have i5 : (k : Int) < (m : Int) := by omega
      clear FX hx0
      have hq5 := Lib.hid (show q.length ≤ 5 ^ 5 * (l.take k).length by
        rw [← hfk]
        exact fm_len fun y hy => hlen.out y (List.mem_of_mem_take hy))
      have hft := fm_take (f := F) hx.out
      rw [hfk] at hft
      have hft' := Lib.hid hft
      have hcl := Lib.hid (fun v W hW => hrec.out v x.2.1 W (hd.out x hxm) hW)
      have hny0 := hlen.out x hxm
      replace hfk := Lib.hid hfk
      clear hft hxm
      obtain ⟨y, hy⟩ : ∃ y, F x = y := ⟨_, rfl⟩
      have hy2 : itsT s l1 x.2.1 = y := by rw [← hy, ← hF.out]
      obtain ⟨ym, hym⟩ : ∃ n, y.length = n := ⟨_, rfl⟩
      unfold ItR at hcl
      rw [hy2] at hcl
      rw [hy] at hft'
      rw [hym] at hcl
      have hny := Lib.hid (show y.length ≤ 5 ^ 5 by rw [← hy]; exact hny0)
      replace hy := Lib.hid hy
      replace hym := Lib.hid hym
      clear hy2 hny0
      go_upto_region 8 with fail
      clear y0 y1
      refine wp_region_late (ops' := ?opsLate) (by kernel_rfl) [] ?he (by kernel_rfl) (fun d _ _ _ _ h => by cases d <;> exact h) 9 (fun W => Below wr.heap.size wr W) (fun i => match i with
        | 8 => some (fun v W => ∃ u c, v = .slice u ym c ∧ rIts (New wr.heap.size W) W [.slice u ym c] y)
        | _ => none) (fun _ => none) ?h1 ?h2 ?h3 (Below.refl _ _).drew (fun w w' h hb => h.trans (hb.mono h.size)) ?tst ?_
      case he =>
        simp [withEdges]
        rfl
      case h1 => decide
      case h2 => kernel_rfl
      case h3 => kernel_rfl
      case tst =>
        intro j φ x W W' hp hx hb
        match j, hp with
        | 8, hp => cases hp; obtain ⟨u, c, e, h⟩ := hx; exact ⟨u, c, e, stab_its.new h (Nat.le_refl _) hb⟩
      simp only [List.take_succ_cons, List.take_zero, List.drop_succ_cons, List.drop_zero]
      repeat (first
        | (refine wpAs_skip rfl ?_; simp only [Act.put, List.setIfInBounds_toArray, List.set_cons_zero, List.set_cons_succ])
        | (refine wpAs_pure (v := ?_) rfl rfl ?_ ?_; rotate_left; (intro W hC hE; clear hE; (have HW := HR.out.below hC; obtain ⟨k0, k1, k2, k3, _⟩ := HW.at 2 rfl; obtain ⟨y0, y1, _⟩ := HW.at 0 rfl; clear HW; obtain ⟨z0, z1, z2, z3, _⟩ := FX'.out W hC); clear hC; go_simp; done); simp only [Act.put, List.setIfInBounds_toArray, List.set_cons_zero, List.set_cons_succ])
        | (refine wpAs_pure (v := ?_) rfl rfl ?_ ?_; rotate_left; (intro W hC hE; clear hE; (have HW := HR.out.below hC; obtain ⟨k0, k1, k2, k3, _⟩ := HW.at 2 rfl; obtain ⟨y0, y1, _⟩ := HW.at 0 rfl; clear HW; obtain ⟨z0, z1, z2, z3, _⟩ := FX'.out W hC); clear hC; go_simp; with_reducible rfl); simp only [Act.put, List.setIfInBounds_toArray, List.set_cons_zero, List.set_cons_succ]))
      refine wpAs_act rfl rfl ?_ ?_
      · intro W hC hE
        clear hE
        refine does_enter (f := 55) (args := #[.agg #[.slice A s.1.1.length ca, .slice B s.1.2.length cb, .slice N s.2.1.length cn, .slice L s.2.2.length cl], .int .i64 x.2.1]) ?_ ?_
        · go_simp
        · refine (hcl.out _ W ((HR.out.below hC).at 3 rfl)).mono ?_
          rintro e W' ⟨u, c, rfl, hu, hb⟩
          exact ⟨_, rfl, ⟨u, c, rfl, stab_its.new hu hC.size (Below.refl _ _)⟩, hb⟩
      simp only [Act.put, List.setIfInBounds_toArray, List.set_cons_zero, List.set_cons_succ, envAdd]
      intro x9
      refine wpAs_end fun W hC hE => ?_
      obtain ⟨⟨U, uc, rfl, hu⟩, _⟩ := hE
      have hrowW := Lib.hid (RowOf.below stab_it hrow'.out hC)
      have BW := Lib.hid (BR.out.trans (hC.mono BR.out.size))
      have hun := Lib.hid hu
      have hq5' := hq5.out
      have hny' := hny.out
      have htk : (l.take k).length ≤ 5 := by rw [List.length_take]; have := hlm.out; omega
      obtain ⟨A', c', w', hap, hrow2, hlb, hgr, hA'⟩ := its_app (lo := w4.heap.size) (l1 := wr.heap.size) hrowW.out hun.out hQl'.out BR.out.size (by have := Nat.mul_le_mul_left (5 ^ 5) htk; omega) BW.out.size n hqn'.out
      have hgb := Lib.hid (BW.out.trans hlb)
      have hr2 := Lib.hid hrow2
      have hA2 := Lib.hid hA'
      have hqy : Hid ((q ++ y).length = n + ym) := Lib.hid (by rw [List.length_append, hqn'.out, hym.out])
      clear hC hu hrow2 hA' hlb hgr hny' hq5' htk
      go_wp2_with (at_builtin; refine wpList_append_run rfl _ _ 32 rfl rfl rfl hap ?_)
      go_roundw
      case rel => exact ⟨k + 1, n + ym, A', c', q ++ y, by omega, by go_num, rfl, hqy.out, hft'.out, hr2.out, hA2.out, hgb.out⟩
      case measure => simp [intOf]; omega
theorem its_is (s : Rm) (hm : mayR s = true) : ∀ l : Nat, l ≤ 5 → ItIs s l := by
  intro l
  induction l using Nat.strongRecOn with
  | ind l ih => exact fun hl => its_step s hm l hl fun j hj => ih j (by omega) (by omega)
/-- The items of a tree that may be. -/
theorem refItems_any (v : Value) (s : Rm) (a : Int) (ht : ckE s a = 0) (w : World) (h : Sto (Old w) w v s) :
    Calls Tryz.prog 55 #[v, .int .i64 a] w fun e w' => ∃ u c, e = .returned (.slice u (allO s a).length c) ∧ rIts (New w.heap.size w') w' [.slice u (allO s a).length c] (allO s a) ∧ Below w.heap.size w w' := by
  obtain ⟨htr, has, _⟩ := ck_of ht
  obtain ⟨_, _, hm, _⟩ := as_read has
  obtain ⟨_, _, _, l0, l6, _⟩ := tree_of htr
  exact its_is s hm (rmV s a).1.toNat (by omega) v a w (tree_at htr) h
end Go.Proofs.YtdaidhbmfocodaaGreat

/-
  The document's Between and Range (layer 11). Conditions: those that each lemma states.
-/
namespace Go.Proofs.YtdaidhbmfocodaaGreat
open Go.RowKit

theorem filter_take {p : It → Bool} {L : List It} {i : Nat} {x : It} (hx : L[i]? = some x) : (L.take (i + 1)).filter p = (L.take i).filter p ++ (if p x = true then [x] else []) := by
  obtain ⟨h1, e1⟩ := List.getElem?_eq_some_iff.1 hx
  rw [← List.take_append_getElem h1, e1, List.filter_append]
  congr 1
  cases h : p x <;> simp [h]

set_option maxRecDepth 100000 in
set_option maxHeartbeats 8000000 in
theorem refBetween_any (v : Value) (s : Rm) (a : Int) (ht : ckE s a = 0) (f t : Ky) (w : World) (h : Sto (Old w) w v s) :
    Calls Tryz.prog 30 #[v, .int .i64 a, kyV f, kyV t] w fun e w' => ∃ u c, e = .returned (.slice u (rangeO s a f t).length c) ∧ rIts (New w.heap.size w') w' [.slice u (rangeO s a f t).length c] (rangeO s a f t) ∧ Below w.heap.size w w' := by
  obtain ⟨A, ca, B, cb, N, cn, L, cl, rfl, _⟩ := id h.open
  have hIt := Lib.hid (fun v W hW => refItems_any v s a ht W hW)
  have hmax := Lib.hid (tree_all (ck_of ht).1).2.1
  obtain ⟨R, hR⟩ : ∃ R, rangeO s a f t = R := ⟨_, rfl⟩
  obtain ⟨p, hp⟩ : ∃ p, betw f t = p := ⟨_, rfl⟩
  have hRl : Hid (R = (allO s a).filter p) := Lib.hid (by rw [← hR, ← hp]; rfl)
  obtain ⟨l, hl⟩ : ∃ l, allO s a = l := ⟨_, rfl⟩
  obtain ⟨m, hm⟩ : ∃ m, l.length = m := ⟨_, rfl⟩
  rw [hl] at hIt hmax hRl
  rw [hm] at hIt hmax
  rw [hR]
  have HG0 : Bag w [OldR (.agg #[.slice A s.1.1.length ca, .slice B s.1.2.length cb, .slice N s.2.1.length cn, .slice L s.2.2.length cl]) s] := (Bag.nil w).add (F := OldR _ s) h (lasts_oldR _ _)
  obtain ⟨w0, hw0, hg0, hB0, _, hs0⟩ := bag_four HG0 (Below.refl _ _) (.slice A s.1.1.length ca) (.slice B s.1.2.length cb) (.slice N s.2.1.length cn) (.slice L s.2.2.length cl) 29
  obtain ⟨w1, hw1, hg1, hB1, _, hs1⟩ := bag_key hg0 (Below.refl _ _) (.int .u8 (f.1.toNat : Int)) (.int .u32 f.2.1) (.int .u32 f.2.2)
  obtain ⟨w9, hw9, hg9, hB9, _, hs9⟩ := bag_key hg1 (Below.refl _ _) (.int .u8 (t.1.toNat : Int)) (.int .u32 t.2.1) (.int .u32 t.2.2)
  have HG1 := Lib.hid hg9
  have B1 := Lib.hid (hB0.trans ((hB1.trans (hB9.mono hB1.size)).mono hB0.size))
  replace hs1 := Lib.hid hs1
  replace hs0 := Lib.hid hs0
  replace hs9 := Lib.hid hs9
  replace hp := Lib.hid hp
  replace hR := Lib.hid hR
  replace hl := Lib.hid hl
  replace hm := Lib.hid hm
  clear HG0 hg1 hg0 hg9 h hB1 hB0 hB9 ht
  unfold kyV
  go_enter Tryz.func30, Tryz.ntmps30
  go_upto_region 1 with fail
  clear hw0 hw1 hw9
  obtain ⟨k0, k1, k2, k3, kg⟩ := HG1.out.at 2 rfl
  go_wp2_with fail
  with_reducible refine (hIt.out _ _ (HG1.out.at 3 rfl)).mono ?_
  rintro e w4 ⟨Z, zc, rfl, hZ, hb4⟩
  have HG4 := Lib.hid (HG1.out.below hb4)
  have hZ4 := Lib.hid (stab_its.mono hZ B1.out.size : rIts (New w.heap.size w4) w4 [.slice Z m zc] l)
  have B4 := Lib.hid (B1.out.trans (hb4.mono B1.out.size))
  clear hb4 hZ HG1 B1 k0 k1 k2 k3 kg hIt
  have hm15 := hmax.out
  go_upto_region 3 with fail
  go_wp2_with fail
  go_loopw [11, 9] (fun vi vo wr => ∃ (k n : Nat) (Q : Option Addr) (c : Nat) (q : List It), k ≤ m ∧ vi = .int .i64 k ∧ vo = .slice Q n c ∧ q.length = n ∧ n ≤ k ∧ (l.take k).filter p = q ∧ RowOf rIt 5 52 w.heap.size wr Q c q ∧ (∀ g, Q.map (·.block) = some g → w4.heap.size ≤ g) ∧ Below w4.heap.size w4 wr) (fun vi _ _ => m - (intOf vi).toNat)
  case atStart => exact ⟨0, 0, none, 0, [], by omega, rfl, rfl, rfl, Nat.le_refl _, rfl, RowOf.nil _ _ _ _ _, (fun g hg => by cases hg), Below.refl _ _⟩
  case round =>
  obtain ⟨k, n, Q, c, q, hk, rfl, rfl, hqn, hnk, hfk, hrow, hQl, hbr⟩ := hrel
  have HR := Lib.hid (HG4.out.below hbr)
  have BR := Lib.hid hbr
  have hrow' := Lib.hid hrow
  have hQl' := Lib.hid hQl
  have hqn' := Lib.hid hqn
  have hfk' := Lib.hid hfk
  clear hbr hrow hQl hqn hfk
  by_cases hlt : k < m
  case neg =>
    have hq : Hid (R = q) := Lib.hid (by rw [hRl.out, ← hfk'.out, List.take_of_length_le (by rw [hm.out]; omega)])
    have BF := Lib.hid (B4.out.trans (BR.out.mono B4.out.size))
    have hit : Hid (rIts (New w.heap.size wr) wr [.slice Q n c] q) := Lib.hid (by
      have := hrow'.out.rel stab_it
      rw [hqn'.out] at this
      exact this)
    go_wp2_with fail
    go_ret
    rw [hq.out, hqn'.out]
    exact ⟨Q, c, rfl, hit.out, BF.out⟩
  obtain ⟨x, hx⟩ : ∃ x, l[k]? = some x := ⟨_, List.getElem?_eq_getElem (by rw [hm.out]; exact hlt)⟩
  obtain ⟨ad, E5, ce5, rfl, hok5, h5, hi5, _, _, hin⟩ := its_at hZ4.out hx
  have FX := Lib.hid (fun W (hW : Below w4.heap.size w4 W) => h5.below hW)
  have hby := Lib.hid (show rBy (New w.heap.size w4) w4 [.slice E5 x.2.2.length ce5] x.2.2 by
    obtain ⟨d, e, _, hd⟩ := hi5
    have ed : d = .slice E5 x.2.2.length ce5 := by injection e with e; simpa using e.symm
    subst ed
    exact hd)
  have hft := Lib.hid (filter_take (p := p) hx)
  have i4 : (0 : Int) ≤ (k : Int) := by omega
  have i5 : (k : Int) < (m : Int) := by omega
  obtain ⟨b, hb⟩ : ∃ b, p x = b := ⟨_, rfl⟩
  obtain ⟨b1, hb1⟩ : ∃ b, lessK x.1 f = b := ⟨_, rfl⟩
  obtain ⟨b2, hb2⟩ : ∃ b, lessK t x.1 = b := ⟨_, rfl⟩
  have hbb : Hid (b = (!b1 && !b2)) := Lib.hid (by rw [← hb, ← hp.out, betw, hb1, hb2])
  rw [hb, hfk'.out] at hft
  replace hx := Lib.hid hx
  replace hb := Lib.hid hb
  clear hok5 h5 hi5
  go_upto_region 6 with fail
  go_cut [38] from 21 to 37 (fun x38 wx => x38 = .bool b ∧ Below wr.heap.size wr wx)
  case first =>
    cases b1 with
    | true =>
      obtain rfl : b = false := hbb.out
      refine wp_region_fx (by kernel_rfl) (fun W => Below wr.heap.size wr W) (fun _ => none) (fun i => match i with
        | 6 => some (.bool true)
        | 15 => some (.bool b2)
        | _ => none) (by kernel_rfl) (Below.refl _ _).drew (fun w w' h hb => h.trans (hb.mono h.size)) (fun j φ x W W' hp => by cases hp) ?_
      repeat (first
        | (refine wpAs_skip rfl ?_; simp only [Act.put, List.setIfInBounds_toArray, List.set_cons_zero, List.set_cons_succ])
        | (refine wpAs_pure (v := ?_) rfl rfl ?_ ?_; rotate_left; (intro W hC hE; clear hE; (obtain ⟨z0, z1, z2, _, _⟩ := FX.out W (BR.out.trans (hC.mono BR.out.size)); obtain ⟨t0, t1, t2, _⟩ := (HR.out.below hC).at 1 rfl); clear hC; go_simp; done); simp only [Act.put, List.setIfInBounds_toArray, List.set_cons_zero, List.set_cons_succ])
        | (refine wpAs_pure (v := ?_) rfl rfl ?_ ?_; rotate_left; (intro W hC hE; clear hE; (obtain ⟨z0, z1, z2, _, _⟩ := FX.out W (BR.out.trans (hC.mono BR.out.size)); obtain ⟨t0, t1, t2, _⟩ := (HR.out.below hC).at 1 rfl); clear hC; go_simp; with_reducible rfl); simp only [Act.put, List.setIfInBounds_toArray, List.set_cons_zero, List.set_cons_succ]))
      refine wpAs_fixed rfl rfl rfl ?_ ?_
      · intro W hC hE
        refine does_enter (f := 56) (args := #[kyV x.1, kyV f]) ?_ ?_
        · go_simp
        · refine (refLess_any x.1 f W).mono ?_
          (rintro e W' ⟨rfl, hg⟩; rw [hb1])
          exact ⟨_, rfl, rfl, hg⟩
      simp only [Act.put, List.setIfInBounds_toArray, List.set_cons_zero, List.set_cons_succ]
      refine wpAs_pure_jump (v := .bool false) 0 rfl rfl rfl ?_ (by kernel_rfl) ?_
      · intro W hC hE
        clear hE hC
        first
          | (go_simp; done)
          | (go_simp; simp; omega)
          | (go_simp; simp_all; done)
      simp only [skipN, Act.put, List.drop_zero, List.setIfInBounds_toArray, List.set_cons_zero, List.set_cons_succ]
      refine wpAs_pure_jump (v := .bool false) 8 rfl rfl rfl ?_ (by kernel_rfl) ?_
      · intro W hC hE
        clear hE hC
        first
          | (go_simp; done)
          | (go_simp; simp; omega)
          | (go_simp; simp_all; done)
      simp only [skipN, Act.put, List.drop_succ_cons, List.drop_zero, List.setIfInBounds_toArray, List.set_cons_zero, List.set_cons_succ]
      repeat (first
        | (refine wpAs_skip rfl ?_; simp only [Act.put, List.setIfInBounds_toArray, List.set_cons_zero, List.set_cons_succ])
        | (refine wpAs_pure (v := ?_) rfl rfl ?_ ?_; rotate_left; (intro W hC hE; clear hE; skip; clear hC; go_simp; done); simp only [Act.put, List.setIfInBounds_toArray, List.set_cons_zero, List.set_cons_succ])
        | (refine wpAs_pure (v := ?_) rfl rfl ?_ ?_; rotate_left; (intro W hC hE; clear hE; skip; clear hC; go_simp; with_reducible rfl); simp only [Act.put, List.setIfInBounds_toArray, List.set_cons_zero, List.set_cons_succ]))
      refine wpAs_end fun W0 hC hE => ?_
      clear hE
      have hC' := Lib.hid hC
      clear hC
      go_wp2_with fail
      go_meet
      exact ⟨rfl, hC'.out⟩
    | false =>
    cases b2 with
    | true =>
      obtain rfl : b = false := hbb.out
      refine wp_region_fx (by kernel_rfl) (fun W => Below wr.heap.size wr W) (fun _ => none) (fun i => match i with
        | 6 => some (.bool false)
        | 15 => some (.bool true)
        | _ => none) (by kernel_rfl) (Below.refl _ _).drew (fun w w' h hb => h.trans (hb.mono h.size)) (fun j φ x W W' hp => by cases hp) ?_
      repeat (first
        | (refine wpAs_skip rfl ?_; simp only [Act.put, List.setIfInBounds_toArray, List.set_cons_zero, List.set_cons_succ])
        | (refine wpAs_pure (v := ?_) rfl rfl ?_ ?_; rotate_left; (intro W hC hE; clear hE; (obtain ⟨z0, z1, z2, _, _⟩ := FX.out W (BR.out.trans (hC.mono BR.out.size)); obtain ⟨t0, t1, t2, _⟩ := (HR.out.below hC).at 1 rfl); clear hC; go_simp; done); simp only [Act.put, List.setIfInBounds_toArray, List.set_cons_zero, List.set_cons_succ])
        | (refine wpAs_pure (v := ?_) rfl rfl ?_ ?_; rotate_left; (intro W hC hE; clear hE; (obtain ⟨z0, z1, z2, _, _⟩ := FX.out W (BR.out.trans (hC.mono BR.out.size)); obtain ⟨t0, t1, t2, _⟩ := (HR.out.below hC).at 1 rfl); clear hC; go_simp; with_reducible rfl); simp only [Act.put, List.setIfInBounds_toArray, List.set_cons_zero, List.set_cons_succ]))
      refine wpAs_fixed rfl rfl rfl ?_ ?_
      · intro W hC hE
        refine does_enter (f := 56) (args := #[kyV x.1, kyV f]) ?_ ?_
        · go_simp
        · refine (refLess_any x.1 f W).mono ?_
          (rintro e W' ⟨rfl, hg⟩; rw [hb1])
          exact ⟨_, rfl, rfl, hg⟩
      simp only [Act.put, List.setIfInBounds_toArray, List.set_cons_zero, List.set_cons_succ]
      refine wpAs_pure_jump (v := .bool true) 0 rfl rfl rfl ?_ (by kernel_rfl) ?_
      · intro W hC hE
        clear hE hC
        first
          | (go_simp; done)
          | (go_simp; simp; omega)
          | (go_simp; simp_all; done)
      simp only [skipN, Act.put, List.drop_zero, List.setIfInBounds_toArray, List.set_cons_zero, List.set_cons_succ]
      repeat (first
        | (refine wpAs_skip rfl ?_; simp only [Act.put, List.setIfInBounds_toArray, List.set_cons_zero, List.set_cons_succ])
        | (refine wpAs_pure (v := ?_) rfl rfl ?_ ?_; rotate_left; (intro W hC hE; clear hE; (obtain ⟨z0, z1, z2, _, _⟩ := FX.out W (BR.out.trans (hC.mono BR.out.size)); obtain ⟨t0, t1, t2, _⟩ := (HR.out.below hC).at 0 rfl); clear hC; go_simp; done); simp only [Act.put, List.setIfInBounds_toArray, List.set_cons_zero, List.set_cons_succ])
        | (refine wpAs_pure (v := ?_) rfl rfl ?_ ?_; rotate_left; (intro W hC hE; clear hE; (obtain ⟨z0, z1, z2, _, _⟩ := FX.out W (BR.out.trans (hC.mono BR.out.size)); obtain ⟨t0, t1, t2, _⟩ := (HR.out.below hC).at 0 rfl); clear hC; go_simp; with_reducible rfl); simp only [Act.put, List.setIfInBounds_toArray, List.set_cons_zero, List.set_cons_succ]))
      refine wpAs_fixed rfl rfl rfl ?_ ?_
      · intro W hC hE
        refine does_enter (f := 56) (args := #[kyV t, kyV x.1]) ?_ ?_
        · go_simp
        · refine (refLess_any t x.1 W).mono ?_
          (rintro e W' ⟨rfl, hg⟩; rw [hb2])
          exact ⟨_, rfl, rfl, hg⟩
      simp only [Act.put, List.setIfInBounds_toArray, List.set_cons_zero, List.set_cons_succ]
      refine wpAs_pure_jump (v := .bool false) 0 rfl rfl rfl ?_ (by kernel_rfl) ?_
      · intro W hC hE
        clear hE hC
        first
          | (go_simp; done)
          | (go_simp; simp; omega)
          | (go_simp; simp_all; done)
      simp only [skipN, Act.put, List.drop_zero, List.setIfInBounds_toArray, List.set_cons_zero, List.set_cons_succ]
      repeat (first
        | (refine wpAs_skip rfl ?_; simp only [Act.put, List.setIfInBounds_toArray, List.set_cons_zero, List.set_cons_succ])
        | (refine wpAs_pure (v := ?_) rfl rfl ?_ ?_; rotate_left; (intro W hC hE; clear hE; skip; clear hC; go_simp; done); simp only [Act.put, List.setIfInBounds_toArray, List.set_cons_zero, List.set_cons_succ])
        | (refine wpAs_pure (v := ?_) rfl rfl ?_ ?_; rotate_left; (intro W hC hE; clear hE; skip; clear hC; go_simp; with_reducible rfl); simp only [Act.put, List.setIfInBounds_toArray, List.set_cons_zero, List.set_cons_succ]))
      refine wpAs_end fun W0 hC hE => ?_
      clear hE
      have hC' := Lib.hid hC
      clear hC
      go_wp2_with fail
      go_meet
      exact ⟨rfl, hC'.out⟩
    | false =>
      obtain rfl : b = true := hbb.out
      refine wp_region_fx (by kernel_rfl) (fun W => Below wr.heap.size wr W) (fun _ => none) (fun i => match i with
        | 6 => some (.bool false)
        | 15 => some (.bool false)
        | _ => none) (by kernel_rfl) (Below.refl _ _).drew (fun w w' h hb => h.trans (hb.mono h.size)) (fun j φ x W W' hp => by cases hp) ?_
      repeat (first
        | (refine wpAs_skip rfl ?_; simp only [Act.put, List.setIfInBounds_toArray, List.set_cons_zero, List.set_cons_succ])
        | (refine wpAs_pure (v := ?_) rfl rfl ?_ ?_; rotate_left; (intro W hC hE; clear hE; (obtain ⟨z0, z1, z2, _, _⟩ := FX.out W (BR.out.trans (hC.mono BR.out.size)); obtain ⟨t0, t1, t2, _⟩ := (HR.out.below hC).at 1 rfl); clear hC; go_simp; done); simp only [Act.put, List.setIfInBounds_toArray, List.set_cons_zero, List.set_cons_succ])
        | (refine wpAs_pure (v := ?_) rfl rfl ?_ ?_; rotate_left; (intro W hC hE; clear hE; (obtain ⟨z0, z1, z2, _, _⟩ := FX.out W (BR.out.trans (hC.mono BR.out.size)); obtain ⟨t0, t1, t2, _⟩ := (HR.out.below hC).at 1 rfl); clear hC; go_simp; with_reducible rfl); simp only [Act.put, List.setIfInBounds_toArray, List.set_cons_zero, List.set_cons_succ]))
      refine wpAs_fixed rfl rfl rfl ?_ ?_
      · intro W hC hE
        refine does_enter (f := 56) (args := #[kyV x.1, kyV f]) ?_ ?_
        · go_simp
        · refine (refLess_any x.1 f W).mono ?_
          (rintro e W' ⟨rfl, hg⟩; rw [hb1])
          exact ⟨_, rfl, rfl, hg⟩
      simp only [Act.put, List.setIfInBounds_toArray, List.set_cons_zero, List.set_cons_succ]
      refine wpAs_pure_jump (v := .bool true) 0 rfl rfl rfl ?_ (by kernel_rfl) ?_
      · intro W hC hE
        clear hE hC
        first
          | (go_simp; done)
          | (go_simp; simp; omega)
          | (go_simp; simp_all; done)
      simp only [skipN, Act.put, List.drop_zero, List.setIfInBounds_toArray, List.set_cons_zero, List.set_cons_succ]
      repeat (first
        | (refine wpAs_skip rfl ?_; simp only [Act.put, List.setIfInBounds_toArray, List.set_cons_zero, List.set_cons_succ])
        | (refine wpAs_pure (v := ?_) rfl rfl ?_ ?_; rotate_left; (intro W hC hE; clear hE; (obtain ⟨z0, z1, z2, _, _⟩ := FX.out W (BR.out.trans (hC.mono BR.out.size)); obtain ⟨t0, t1, t2, _⟩ := (HR.out.below hC).at 0 rfl); clear hC; go_simp; done); simp only [Act.put, List.setIfInBounds_toArray, List.set_cons_zero, List.set_cons_succ])
        | (refine wpAs_pure (v := ?_) rfl rfl ?_ ?_; rotate_left; (intro W hC hE; clear hE; (obtain ⟨z0, z1, z2, _, _⟩ := FX.out W (BR.out.trans (hC.mono BR.out.size)); obtain ⟨t0, t1, t2, _⟩ := (HR.out.below hC).at 0 rfl); clear hC; go_simp; with_reducible rfl); simp only [Act.put, List.setIfInBounds_toArray, List.set_cons_zero, List.set_cons_succ]))
      refine wpAs_fixed rfl rfl rfl ?_ ?_
      · intro W hC hE
        refine does_enter (f := 56) (args := #[kyV t, kyV x.1]) ?_ ?_
        · go_simp
        · refine (refLess_any t x.1 W).mono ?_
          (rintro e W' ⟨rfl, hg⟩; rw [hb2])
          exact ⟨_, rfl, rfl, hg⟩
      simp only [Act.put, List.setIfInBounds_toArray, List.set_cons_zero, List.set_cons_succ]
      refine wpAs_pure_jump (v := .bool true) 0 rfl rfl rfl ?_ (by kernel_rfl) ?_
      · intro W hC hE
        clear hE hC
        first
          | (go_simp; done)
          | (go_simp; simp; omega)
          | (go_simp; simp_all; done)
      simp only [skipN, Act.put, List.drop_zero, List.setIfInBounds_toArray, List.set_cons_zero, List.set_cons_succ]
      repeat (first
        | (refine wpAs_skip rfl ?_; simp only [Act.put, List.setIfInBounds_toArray, List.set_cons_zero, List.set_cons_succ])
        | (refine wpAs_pure (v := ?_) rfl rfl ?_ ?_; rotate_left; (intro W hC hE; clear hE; skip; clear hC; go_simp; done); simp only [Act.put, List.setIfInBounds_toArray, List.set_cons_zero, List.set_cons_succ])
        | (refine wpAs_pure (v := ?_) rfl rfl ?_ ?_; rotate_left; (intro W hC hE; clear hE; skip; clear hC; go_simp; with_reducible rfl); simp only [Act.put, List.setIfInBounds_toArray, List.set_cons_zero, List.set_cons_succ]))
      refine wpAs_end fun W0 hC hE => ?_
      clear hE
      have hC' := Lib.hid hC
      clear hC
      go_wp2_with fail
      go_meet
      exact ⟨rfl, hC'.out⟩
  case rest =>
  obtain ⟨rfl, hC⟩ := hcut
  have BW := Lib.hid (BR.out.trans (hC.mono BR.out.size))
  have hrowW := Lib.hid (RowOf.below stab_it hrow'.out hC)
  clear hC hb1 hb2 hbb HR
  cases b with
  | false =>
    have hfn : Hid ((l.take (k + 1)).filter p = q) := Lib.hid (by rw [hft.out]; simp)
    go_wp2_with fail
    go_roundw
    case rel => exact ⟨k + 1, n, Q, c, q, by omega, by go_num, rfl, hqn'.out, by omega, hfn.out, hrowW.out, hQl'.out, BW.out⟩
    case measure => simp [intOf]; omega
  | true =>
    have hfn : Hid ((l.take (k + 1)).filter p = q ++ [x]) := Lib.hid (by rw [hft.out]; simp)
    have hqn2 : Hid ((q ++ [x]).length = n + 1) := Lib.hid (by rw [List.length_append, hqn'.out]; rfl)
    obtain ⟨z0, z1, z2, z3, z4⟩ := FX.out _ BW.out
    obtain ⟨w6, hw6, _, _, _, _, _, hs5, hb5, b5⟩ := box_five wc (.int .u8 (x.1.1.toNat : Int)) (.int .u32 x.1.2.1) (.int .u32 x.1.2.2) (.int .i64 x.2.1) (.slice E5 x.2.2.length ce5) 52
    have BW6 := BW.out.trans (hb5.mono BW.out.size)
    have row5 := RowOf.below stab_it hrowW.out hb5
    have hx5 : rBy (NewBut w.heap.size Q w6) w6 [.slice E5 x.2.2.length ce5] x.2.2 := stab_by _ _ _ _ _ _ (fun p v hp hc => ⟨⟨⟨hp.1, Nat.lt_of_lt_of_le hp.2.1 BW6.size, (BW6.frozen hp.2.1).trans hp.2.2⟩, fun e => by have := hQl'.out _ e; have := hp.2.1; omega⟩, (BW6.cell hp.2.1).trans hc⟩) hby.out
    obtain ⟨A2, c2, w7, hr2, row7, gr7, _, hk7⟩ := its_push_at row5 wc.heap.size x _ 1 n hqn'.out b5 (by omega) (Nat.le_trans B4.out.size BW6.size) hin hx5
    have B7 := Lib.hid (BW6.grown gr7 BW6.size (fun q e => hQl'.out q e))
    have hA2 : Hid (∀ g, A2.map (·.block) = some g → w4.heap.size ≤ g) := Lib.hid (fun g hg => by
      rcases hk7 with e | e
      · exact hQl'.out g (by rw [← e]; exact hg)
      · rw [e] at hg
        cases hg
        exact BW6.size)
    have H2 := Lib.hid hr2
    have row8 := Lib.hid row7
    clear hr2 row7 gr7 hk7 hx5 row5 BW6 hb5 hs5 b5 hin
    go_wp2_with (at_builtin; refine wpList_append_run rfl _ _ _ rfl rfl rfl H2.out ?_; clear H2)
    go_roundw
    case rel => exact ⟨k + 1, n + 1, A2, c2, q ++ [x], by omega, by go_num, rfl, hqn2.out, by omega, hfn.out, row8.out, hA2.out, B7.out⟩
    case measure => simp [intOf]; omega

/-- The document's Range. -/
theorem refRange_any (v : Value) (s : Rm) (a : Int) (f t : Ky) (w : World) (h : Sto (Old w) w v s) :
    Calls Tryz.prog 14 #[v, .int .i64 a, kyV f, kyV t] w (RangeR s a f t w) := by
  obtain ⟨A, ca, B, cb, N, cn, L, cl, rfl, _⟩ := id h.open
  have hck := Lib.hid (fun v W hW => refCheckF_any v s a W hW)
  have hBt := Lib.hid (fun hh v W hW => refBetween_any v s a hh f t W hW)
  have hok := Lib.hid (fun hh => raV_ok (s := s) (a := a) (f := f) (t := t) hh)
  have hbd := Lib.hid (fun hh => raV_bad (s := s) (a := a) (f := f) (t := t) hh)
  unfold RangeR
  obtain ⟨V, hV⟩ : ∃ V, raV s a f t = V := ⟨_, rfl⟩
  obtain ⟨E0, hE0⟩ : ∃ q, ckE s a = q := ⟨_, rfl⟩
  obtain ⟨H0, hH0⟩ : ∃ q, ckH s a = q := ⟨_, rfl⟩
  rw [hE0, hH0] at hck
  rw [hE0] at hBt hok hbd ⊢
  rw [hV] at hok hbd ⊢
  have HG0 : Bag w [OldR (.agg #[.slice A s.1.1.length ca, .slice B s.1.2.length cb, .slice N s.2.1.length cn, .slice L s.2.2.length cl]) s] := (Bag.nil w).add (F := OldR _ s) h (lasts_oldR _ _)
  obtain ⟨w0, hw0, hg0, hB0, _, hs0⟩ := bag_four HG0 (Below.refl _ _) (.slice A s.1.1.length ca) (.slice B s.1.2.length cb) (.slice N s.2.1.length cn) (.slice L s.2.2.length cl) 29
  obtain ⟨w1, hw1, hg1, hB1, _, hs1⟩ := bag_key hg0 (Below.refl _ _) (.int .u8 (f.1.toNat : Int)) (.int .u32 f.2.1) (.int .u32 f.2.2)
  obtain ⟨w9, hw9, hg9, hB9, _, hs9⟩ := bag_key hg1 (Below.refl _ _) (.int .u8 (t.1.toNat : Int)) (.int .u32 t.2.1) (.int .u32 t.2.2)
  have HG1 := Lib.hid hg9
  have B1 := Lib.hid (hB0.trans ((hB1.trans (hB9.mono hB1.size)).mono hB0.size))
  replace hs1 := Lib.hid hs1
  replace hs0 := Lib.hid hs0
  replace hs9 := Lib.hid hs9
  replace hE0 := Lib.hid hE0
  replace hH0 := Lib.hid hH0
  replace hV := Lib.hid hV
  clear HG0 hg1 hg0 hg9 h hB1 hB0 hB9
  unfold kyV at *
  go_enter Tryz.func14, Tryz.ntmps14
  go_upto_region 1 with fail
  clear hw0 hw1 hw9
  obtain ⟨k0, k1, k2, k3, kg⟩ := HG1.out.at 2 rfl
  go_wp2_with fail
  with_reducible refine (hck.out _ _ (HG1.out.at 3 rfl)).mono ?_
  rintro e w4 ⟨rfl, hb4⟩
  have HG4 := Lib.hid (HG1.out.below hb4)
  have B4 := Lib.hid (B1.out.trans (hb4.mono B1.out.size))
  clear hb4 HG1 B1 k0 k1 k2 k3 kg hck
  by_cases he : E0 = 0
  case neg =>
    have e1 : (E0 != 0) = true := by simpa using he
    have hv : Hid (V = []) := Lib.hid (hbd.out he)
    clear he
    go_wp2_with fail
    go_ret2
    rw [hv.out]
    exact ⟨none, 0, rfl, its_nil _ _, B4.out⟩
  subst he
  have hv : Hid (V = rangeO s a f t) := Lib.hid (hok.out rfl)
  have hB2 := Lib.hid (hBt.out rfl)
  obtain ⟨R, hR⟩ : ∃ R, rangeO s a f t = R := ⟨_, rfl⟩
  rw [hR] at hv hB2
  obtain ⟨n, hn⟩ : ∃ n, R.length = n := ⟨_, rfl⟩
  rw [hn] at hB2
  replace hn := Lib.hid hn
  replace hR := Lib.hid hR
  obtain ⟨k0, k1, k2, k3, kg⟩ := HG4.out.at 2 rfl
  obtain ⟨t0, t1, t2, _⟩ := HG4.out.at 1 rfl
  obtain ⟨u0, u1, u2, _⟩ := HG4.out.at 0 rfl
  clear hBt hok hbd
  go_wp2_with fail
  with_reducible refine (hB2.out _ _ (HG4.out.at 3 rfl)).mono ?_
  rintro e w5 ⟨U, uc, rfl, hU, hb5⟩
  have BF := Lib.hid (B4.out.trans (hb5.mono B4.out.size))
  have hU5 := Lib.hid (stab_its.mono hU B4.out.size : rIts (New w.heap.size w5) w5 [.slice U n uc] R)
  clear hU hb5 hB2 k0 k1 k2 k3 kg t0 t1 t2 u0 u1 u2
  go_wp2_with fail
  go_ret2
  rw [hv.out, hn.out]
  exact ⟨U, uc, rfl, hU5.out, BF.out⟩
end Go.Proofs.YtdaidhbmfocodaaGreat

/-
  The document's Marks (layer 11): two rows of the caller's own are turned. Conditions: those that each lemma states.
-/
namespace Go.Proofs.YtdaidhbmfocodaaGreat
open Go.RowKit

/-- A block of 256 numbers. -/
def Mrk (g : Nat) (X : List Int) : World → Prop := fun W => ∃ vs : Array Value, W.heap[g]? = some (.cells vs 3 (0, 0)) ∧ X.length = 256 ∧ ∀ k, k < 256 → vs[k]? = some (.int .i64 (X[k]?.getD 0))
theorem lasts_mrk (g : Nat) (X : List Int) : Lasts (Mrk g X) := fun _ _ h hb => by
  obtain ⟨vs, h1, h2⟩ := h
  exact ⟨vs, (hb.block g (Array.getElem?_eq_some_iff.1 h1).1).trans h1, h2⟩
theorem mrk_lt {g : Nat} {X : List Int} {W : World} (h : Mrk g X W) : g < W.heap.size := by
  obtain ⟨vs, h1, _⟩ := h
  exact (Array.getElem?_eq_some_iff.1 h1).1
theorem mrk_cell {g : Nat} {X : List Int} {W : World} (h : Mrk g X W) {k : Nat} (hk : k < 256) : W.cell? ⟨g, k, none⟩ = some (.int .i64 (X[k]?.getD 0)) := by
  obtain ⟨vs, h1, _, h2⟩ := h
  simp [World.cell?, h1, h2 k hk]
theorem mrk_frz {g : Nat} {X : List Int} {W : World} (h : Mrk g X W) (k : Nat) : W.frozen? ⟨g, k, none⟩ = false := by
  obtain ⟨vs, h1, _⟩ := h
  simp [World.frozen?, h1]
theorem mrk_put {g : Nat} {X : List Int} {W : World} (h : Mrk g X W) (k : Nat) (y : Int) : Mrk g (X.set k y) (W.setCell ⟨g, k, none⟩ (.int .i64 y)) := by
  obtain ⟨vs, h1, hl, h2⟩ := h
  refine ⟨vs.setIfInBounds k (.int .i64 y), by simp [World.setCell, Array.getElem?_modify, h1], by simpa using hl, fun j hj => ?_⟩
  rw [Array.getElem?_setIfInBounds]
  have hs : j < vs.size := (Array.getElem?_eq_some_iff.1 (h2 j hj)).1
  by_cases e : k = j
  · subst e
    rw [if_pos rfl, if_pos hs, List.getElem?_set_self (by omega)]
    rfl
  · rw [if_neg e, h2 j hj, List.getElem?_set_ne e]
theorem mrk_other {g : Nat} {X : List Int} {W : World} (h : Mrk g X W) {c : Nat} (hne : c ≠ g) (k : Nat) (v : Value) : Mrk g X (W.setCell ⟨c, k, none⟩ v) := by
  obtain ⟨vs, h1, h2⟩ := h
  exact ⟨vs, by simp [World.setCell, Array.getElem?_modify, h1, hne], h2⟩
/-- Only these two blocks may be turned. -/
def Rest (g1 g2 : Nat) (w w' : World) : Prop := w.heap.size ≤ w'.heap.size ∧ ∀ k, k < w.heap.size → k ≠ g1 → k ≠ g2 → w'.heap[k]? = w.heap[k]?
theorem rest_refl (g1 g2 : Nat) (w : World) : Rest g1 g2 w w := ⟨Nat.le_refl _, fun _ _ _ _ => rfl⟩
theorem rest_trans {g1 g2 : Nat} {a b c : World} (h : Rest g1 g2 a b) (h' : Rest g1 g2 b c) : Rest g1 g2 a c :=
  ⟨Nat.le_trans h.1 h'.1, fun k hk h1 h2 => (h'.2 k (Nat.lt_of_lt_of_le hk h.1) h1 h2).trans (h.2 k hk h1 h2)⟩
theorem rest_below {g1 g2 : Nat} {w w' : World} (h : Below w.heap.size w w') : Rest g1 g2 w w' := ⟨h.size, fun k hk _ _ => h.block k hk⟩
theorem rest_put {g1 g2 g : Nat} {w : World} (hg : g = g1 ∨ g = g2) (k : Nat) (v : Value) : Rest g1 g2 w (w.setCell ⟨g, k, none⟩ v) := by
  refine ⟨by simp [World.setCell], fun j hj h1 h2 => ?_⟩
  have hne : g ≠ j := fun e => by subst e; rcases hg with rfl | rfl <;> contradiction
  simp [World.setCell, Array.getElem?_modify, hne]
theorem rest_cells {g1 g2 g : Nat} {w w' : World} {cs : Array Value} {t : TypeId} (h : Rest g1 g2 w w') (hz : w.heap[g]? = some (.cells cs t (0, 0))) (h1 : g ≠ g1) (h2 : g ≠ g2) : w'.heap[g]? = some (.cells cs t (0, 0)) := (h.2 g (Array.getElem?_eq_some_iff.1 hz).1 h1 h2).trans hz

/-- What one item of a node adds. -/
noncomputable def mwN (s : Rm) : Nat → It → List Int
  | 0, _ => []
  | l + 1, x => nodesT s l x.2.1
noncomputable def mwR (s : Rm) : Nat → It → List Int
  | 0, x => if x.2.1 = 0 then [] else [x.2.1]
  | l + 1, x => refsT s l x.2.1
theorem nodes_mk (s : Rm) (l : Nat) (a : Int) : nodesT s l a = a :: (rmV s a).2.flatMap (mwN s l) := by
  cases l with
  | zero => unfold nodesT; simp [mwN]
  | succ l => conv => lhs; unfold nodesT
              rfl
theorem refs_mk (s : Rm) (l : Nat) (a : Int) : refsT s l a = (rmV s a).2.flatMap (mwR s l) := by
  cases l with
  | zero =>
    unfold refsT
    induction (rmV s a).2 with
    | nil => rfl
    | cons x r ih =>
      rw [List.map_cons, List.filter_cons, List.flatMap_cons, ← ih]
      by_cases h : x.2.1 = 0 <;> simp [mwR, h]
  | succ l => conv => lhs; unfold refsT
              rfl
theorem fl_take {f : It → List Int} {L : List It} {i : Nat} {x : It} (hx : L[i]? = some x) : (L.take (i + 1)).flatMap f = (L.take i).flatMap f ++ f x := by
  obtain ⟨h1, e1⟩ := List.getElem?_eq_some_iff.1 hx
  rw [← List.take_append_getElem h1, e1, List.flatMap_append, List.flatMap_singleton]
theorem fl_all {f : It → List Int} {L : List It} {i : Nat} {x : It} (hx : L[i]? = some x) : ∃ r, L.flatMap f = (L.take i).flatMap f ++ f x ++ r := by
  refine ⟨(L.drop (i + 1)).flatMap f, ?_⟩
  rw [← fl_take hx, ← List.flatMap_append, List.take_append_drop]

/-- What is asked of the rows ahead of a call. -/
structure MkPre (s : Rm) (l : Nat) (a : Int) (X Y : List Int) : Prop where
  at_ : AtT s l a
  once : (nodesT s l a).Nodup
  zero : ∀ b ∈ nodesT s l a, X[b.toNat]?.getD 0 = 0
  inN : ∀ b ∈ nodesT s l a, 8 ≤ b ∧ b < 256
  inR : ∀ b ∈ refsT s l a, 8 ≤ b ∧ b < 256
  few : ∀ k : Nat, 0 ≤ Y[k]?.getD 0 ∧ Y[k]?.getD 0 + (refsT s l a).length ≤ 1000000
  lenX : X.length = 256
  lenY : Y.length = 256
theorem pre_down {s : Rm} {l : Nat} {a : Int} {X Y : List Int} (h : MkPre s (l + 1) a X Y) {i : Nat} {x : It} (hx : (rmV s a).2[i]? = some x) :
    MkPre s l x.2.1 (addL (X.set a.toNat (X[a.toNat]?.getD 0 + 1)) (((rmV s a).2.take i).flatMap (mwN s (l + 1)))) (addL Y (((rmV s a).2.take i).flatMap (mwR s (l + 1)))) := by
  obtain ⟨rN, eN⟩ := fl_all (f := mwN s (l + 1)) hx
  obtain ⟨rR, eR⟩ := fl_all (f := mwR s (l + 1)) hx
  have e1 := nodes_mk s (l + 1) a
  have e2 := refs_mk s (l + 1) a
  rw [eN] at e1
  rw [eR] at e2
  have hin : ∀ b ∈ nodesT s l x.2.1, b ∈ nodesT s (l + 1) a := fun b hb => by
    rw [e1]
    exact List.mem_cons_of_mem _ (List.mem_append_left _ (List.mem_append_right _ hb))
  have hir : ∀ b ∈ refsT s l x.2.1, b ∈ refsT s (l + 1) a := fun b hb => by
    rw [e2]
    exact List.mem_append_left _ (List.mem_append_right _ hb)
  have hnd := h.once
  rw [e1, List.nodup_cons, List.append_assoc, List.nodup_append] at hnd
  obtain ⟨hna, hA, hB, hAB⟩ := hnd
  rw [List.nodup_append] at hB
  refine ⟨h.at_.down (List.mem_of_getElem? hx), hB.1, fun b hb => ?_, fun b hb => h.inN b (hin b hb), fun b hb => h.inR b (hir b hb), fun k => ?_, ?_, ?_⟩
  · have hbn := h.inN b (hin b hb)
    have hb0 : ((b.toNat : Nat) : Int) = b := by omega
    rw [addL_get _ _ _ (fun c hc => by
      have := h.inN c (by rw [e1]; exact List.mem_cons_of_mem _ (List.mem_append_left _ (List.mem_append_left _ hc)))
      rw [List.length_set, h.lenX]
      omega)]
    have hne : a.toNat ≠ b.toNat := fun e => by
      have ha := h.inN a (by rw [e1]; exact List.mem_cons_self)
      have : a = b := by omega
      subst this
      exact hna (List.mem_append_right _ (List.mem_append_left _ hb))
    rw [List.getElem?_set_ne hne, h.zero b (hin b hb), hb0, List.count_eq_zero_of_not_mem (fun hc => hAB b hc b (List.mem_append_left _ hb) rfl)]
    rfl
  · have hk := h.few k
    rw [addL_get _ _ _ (fun c hc => by
      have := h.inR c (by rw [e2]; exact List.mem_append_left _ (List.mem_append_left _ hc))
      rw [h.lenY]
      omega)]
    have hc := List.count_le_length (a := (k : Int)) (l := ((rmV s a).2.take i).flatMap (mwR s (l + 1)))
    rw [e2, List.length_append, List.length_append] at hk
    have e3 : (mwR s (l + 1) x).length = (refsT s l x.2.1).length := rfl
    omega
  · rw [addL_len, List.length_set]; exact h.lenX
  · rw [addL_len]; exact h.lenY
theorem pre_ref {s : Rm} {a : Int} {X Y : List Int} (h : MkPre s 0 a X Y) {i : Nat} {x : It} (hx : (rmV s a).2[i]? = some x) (h0 : x.2.1 ≠ 0) :
    8 ≤ x.2.1 ∧ x.2.1 < 256 ∧ (let Y' := addL Y (((rmV s a).2.take i).flatMap (mwR s 0)); 0 ≤ Y'[x.2.1.toNat]?.getD 0 ∧ Y'[x.2.1.toNat]?.getD 0 ≤ 1000000 ∧ addL Y (((rmV s a).2.take (i + 1)).flatMap (mwR s 0)) = Y'.set x.2.1.toNat (Y'[x.2.1.toNat]?.getD 0 + 1)) := by
  obtain ⟨rR, eR⟩ := fl_all (f := mwR s 0) hx
  have e2 := refs_mk s 0 a
  rw [eR] at e2
  have hm : mwR s 0 x = [x.2.1] := by simp [mwR, h0]
  have hxr := h.inR x.2.1 (by rw [e2, hm]; simp)
  refine ⟨hxr.1, hxr.2, ?_⟩
  have hk := h.few x.2.1.toNat
  have hg := addL_get (((rmV s a).2.take i).flatMap (mwR s 0)) Y x.2.1.toNat (fun c hc => by
    have := h.inR c (by rw [e2]; exact List.mem_append_left _ (List.mem_append_left _ hc))
    rw [h.lenY]
    omega)
  have hc := List.count_le_length (a := ((x.2.1.toNat : Nat) : Int)) (l := ((rmV s a).2.take i).flatMap (mwR s 0))
  rw [e2, List.length_append, List.length_append] at hk
  refine ⟨by omega, by omega, ?_⟩
  rw [fl_take hx, hm, addL_app]
  rfl
end Go.Proofs.YtdaidhbmfocodaaGreat

/-
  The document's Marks (layer 11), level by level. Conditions: those that each lemma states.
-/
namespace Go.Proofs.YtdaidhbmfocodaaGreat
open Go.RowKit

def MarkR (s : Rm) (l : Nat) (a : Int) (X Y : List Int) (w0 : World) (g1 g2 : Nat) (w : World) : Ending → World → Prop := fun e w' => (∃ r, e = .returned r) ∧ Mrk g1 (addL X (nodesT s l a)) w' ∧ Mrk g2 (addL Y (refsT s l a)) w' ∧ Below w0.heap.size w0 w' ∧ Rest g1 g2 w w'
def MarkIs (s : Rm) (l : Nat) : Prop := ∀ (v : Value) (a : Int) (w0 : World) (g1 g2 : Nat) (X Y : List Int) (w : World), MkPre s l a X Y → Sto (Old w0) w0 v s → w0.heap.size ≤ g1 → w0.heap.size ≤ g2 → g1 ≠ g2 → Below w0.heap.size w0 w → Mrk g1 X w → Mrk g2 Y w →
  Calls Tryz.prog 31 #[v, .int .i64 a, .slice (some ⟨g1, 0, none⟩) 256 256, .slice (some ⟨g2, 0, none⟩) 256 256] w (MarkR s l a X Y w0 g1 g2 w)

set_option maxRecDepth 100000 in
set_option maxHeartbeats 8000000 in
theorem marks_step (s : Rm) (hm : mayR s = true) (l0 : Nat) (hr0 : ∀ j, l0 = j + 1 → MarkIs s j) : MarkIs s l0 := by
  intro v a w0 g1 g2 X Y w hp h hg1 hg2 hne hb hM1 hM2
  obtain ⟨A, ca, B, cb, N, cn, L, cl, rfl, _⟩ := id h.open
  have hRd := Lib.hid (fun v W hW => refRead_open v s a hm W hW)
  have hfin1 := Lib.hid (nodes_mk s l0 a)
  have hfin2 := Lib.hid (refs_mk s l0 a)
  have hlv := Lib.hid hp.at_.lvl
  have hmn := Lib.hid hp.at_.may
  have hdn := Lib.hid (fun (j : Nat) (hj : l0 = j + 1) (i : Nat) (x : It) (hx : (rmV s a).2[i]? = some x) => (by subst hj; exact pre_down hp hx : MkPre s j x.2.1 (addL (X.set a.toNat (X[a.toNat]?.getD 0 + 1)) (((rmV s a).2.take i).flatMap (mwN s (j + 1)))) (addL Y (((rmV s a).2.take i).flatMap (mwR s (j + 1))))))
  have hrf := Lib.hid (fun (hj : l0 = 0) (i : Nat) (x : It) (hx : (rmV s a).2[i]? = some x) (hx0 : x.2.1 ≠ 0) => (by subst hj; exact pre_ref hp hx hx0 : 8 ≤ x.2.1 ∧ x.2.1 < 256 ∧ (let Y' := addL Y (((rmV s a).2.take i).flatMap (mwR s 0)); 0 ≤ Y'[x.2.1.toNat]?.getD 0 ∧ Y'[x.2.1.toNat]?.getD 0 ≤ 1000000 ∧ addL Y (((rmV s a).2.take (i + 1)).flatMap (mwR s 0)) = Y'.set x.2.1.toNat (Y'[x.2.1.toNat]?.getD 0 + 1))))
  have hna : a ∈ nodesT s l0 a := by rw [hfin1.out]; exact List.mem_cons_self
  obtain ⟨h8, h256⟩ := hp.inN a hna
  have hz := hp.zero a hna
  obtain ⟨j, rfl⟩ : ∃ j : Nat, a = j := ⟨a.toNat, by omega⟩
  have hjt : ((j : Int)).toNat = j := by omega
  rw [hjt] at hz hdn
  obtain ⟨X1, hX1⟩ : ∃ X1, X.set j (X[j]?.getD 0 + 1) = X1 := ⟨_, rfl⟩
  rw [hX1] at hdn
  have hend : Hid (addL X (nodesT s l0 (j : Int)) = addL X1 ((rmV s (j : Int)).2.flatMap (mwN s l0))) := Lib.hid (by
    rw [hfin1.out]
    conv => lhs; unfold addL
    rw [hjt, hX1])
  rw [hz] at hX1
  have j256 : j < 256 := by omega
  obtain ⟨E0, hE0⟩ : ∃ q, (rmE s (j : Int) == 0) = q := ⟨_, rfl⟩
  obtain ⟨nd, hnd⟩ : ∃ q, rmV s (j : Int) = q := ⟨_, rfl⟩
  rw [hnd, hE0] at hRd
  rw [hnd] at hfin2 hlv hmn hdn hrf hend
  obtain ⟨lw, hlw⟩ : ∃ q, nd.1 = q := ⟨_, rfl⟩
  obtain ⟨l, hl⟩ : ∃ q, nd.2 = q := ⟨_, rfl⟩
  obtain ⟨m, hlm⟩ : ∃ q, l.length = q := ⟨_, rfl⟩
  rw [hlw, hl, hlm] at hRd
  rw [hlw] at hlv
  rw [hl] at hfin2 hdn hrf hend
  have hm5 : m ≤ 5 := by
    have := (mayN_of hmn.out).1.2.2.1
    rw [hl, hlm] at this
    exact this
  have l1 := mrk_lt hM1
  have l2 := mrk_lt hM2
  obtain ⟨w1, hw1, k1, hs1, hB1⟩ := box_4 w (.slice A s.1.1.length ca) (.slice B s.1.2.length cb) (.slice N s.2.1.length cn) (.slice L s.2.2.length cl) 29
  have M1 := lasts_mrk _ _ _ _ hM1 hB1
  have M2 := lasts_mrk _ _ _ _ hM2 hB1
  have c1 := mrk_cell M1 j256
  rw [hz] at c1
  have c2 := mrk_frz M1 j
  have hb1 := hb.trans (hB1.mono hb.size)
  obtain ⟨w2, hw2⟩ : ∃ w2, w1.setCell ⟨g1, j, none⟩ (.int .i64 1) = w2 := ⟨_, rfl⟩
  have P1 : Mrk g1 X1 w2 := by
    rw [← hw2, ← hX1]
    exact mrk_put M1 j 1
  have P2 : Mrk g2 Y w2 := by
    rw [← hw2]
    exact mrk_other M2 hne j _
  have R2 : Rest g1 g2 w1 w2 := by
    rw [← hw2]
    exact rest_put (.inl rfl) j _
  have RR := Lib.hid (rest_trans (rest_below hB1) R2 : Rest g1 g2 w w2)
  have K2 := Lib.hid (rest_cells R2 k1 (by omega) (by omega))
  have BB := Lib.hid (show Below w0.heap.size w0 w2 by
    rw [← hw2]
    exact hb1.setCell (p := ⟨g1, j, none⟩) hg1 _)
  have d1 : w2.cell? ⟨g1, j, none⟩ = some (.int .i64 1) := by
    have := mrk_cell P1 j256
    rw [← hX1, List.getElem?_set_self (by have := hp.lenX; omega)] at this
    exact this
  have Q1 := Lib.hid P1
  have Q2 := Lib.hid P2
  have S2 := Lib.hid (show Sto (Old w2) w2 _ s from h.below BB.out)
  have hlt1 := Lib.hid (Nat.lt_of_lt_of_le l1 RR.out.1)
  have hlt2 := Lib.hid (Nat.lt_of_lt_of_le l2 RR.out.1)
  have hgw := Lib.hid (show w.heap.size ≠ g1 ∧ w.heap.size ≠ g2 from ⟨by omega, by omega⟩)
  have h0 := Lib.hid h
  have hg12 := Lib.hid (show w0.heap.size ≤ g1 ∧ w0.heap.size ≤ g2 ∧ g1 ≠ g2 from ⟨hg1, hg2, hne⟩)
  replace hs1 := Lib.hid hs1
  replace hz := Lib.hid hz
  replace hX1 := Lib.hid hX1
  replace hE0 := Lib.hid hE0
  replace hnd := Lib.hid hnd
  replace hlw := Lib.hid hlw
  replace hl := Lib.hid hl
  replace hlm := Lib.hid hlm
  have i1 : (0 : Int) ≤ (j : Int) := by omega
  have i2 : (j : Int) < 256 := by omega
  clear hM1 hM2 M1 M2 P1 P2 R2 k1 hb hb1 hp h hB1 hna h8 h256 hjt l1 l2 hfin1 hg1 hg2 hne
  go_enter Tryz.func31, Tryz.ntmps31
  go_upto_region 1 with fail
  go_upto_region 2 with fail
  clear hw1 hw2 c1 c2
  obtain ⟨s0, s1, s2, s3, _⟩ := four_cells K2.out
  go_wp2_with fail
  with_reducible refine (hRd.out _ _ S2.out).mono ?_
  rintro e w3 ⟨Z, zc, rfl, -, h3n, hb3⟩
  have h3s : rIts (New w2.heap.size w3) w3 [.slice Z m zc] l := by
    obtain ⟨_, e, _, h⟩ := h3n
    cases e
    rw [hl.out] at h
    exact h
  obtain ⟨w4, hw4, b4, hs4, hb4⟩ := box_pair' w3 (.int .i64 lw) (.slice Z m zc) 57
  have hb34 := hb3.trans (hb4.mono hb3.size)
  have hI4 := Lib.hid (stab_its.new h3s (Nat.le_refl _) hb4)
  have K4 := Lib.hid ((hb34.block _ (Array.getElem?_eq_some_iff.1 K2.out).1).trans K2.out)
  have T1 := Lib.hid (lasts_mrk _ _ _ _ Q1.out hb34)
  have T2 := Lib.hid (lasts_mrk _ _ _ _ Q2.out hb34)
  have C4 := Lib.hid (BB.out.trans (hb34.mono BB.out.size))
  have R4 := Lib.hid (rest_trans RR.out (rest_below hb34) : Rest g1 g2 w w4)
  have N4 := Lib.hid b4
  have hlt3 := Lib.hid (show w3.heap.size ≠ g1 ∧ w3.heap.size ≠ g2 from ⟨by have := hlt1.out; have := hb3.size; omega, by have := hlt2.out; have := hb3.size; omega⟩)
  replace hs4 := Lib.hid hs4
  clear hb34 hb3 hb4 h3s h3n b4 s0 s1 s2 s3 hRd K2 Q1 Q2 BB RR S2 d1
  go_upto_region 4 with fail
  clear hw4
  go_wp2_with fail
  go_loopw [10] (fun vi wr => ∃ k : Nat, k ≤ m ∧ vi = .int .i64 k ∧ Mrk g1 (addL X1 ((l.take k).flatMap (mwN s l0))) wr ∧ Mrk g2 (addL Y ((l.take k).flatMap (mwR s l0))) wr ∧ Below w0.heap.size w0 wr ∧ Rest g1 g2 w4 wr) (fun vi _ => m - (intOf vi).toNat)
  case atStart => exact ⟨0, by omega, rfl, T1.out, T2.out, C4.out, rest_refl _ _ _⟩
  case round =>
  obtain ⟨k, hk, rfl, hU1, hU2, hbw, hrs⟩ := hrel
  obtain ⟨y0, y1, _⟩ := two_cells (rest_cells hrs N4.out hlt3.out.1 hlt3.out.2)
  have Kr := rest_cells hrs K4.out hgw.out.1 hgw.out.2
  obtain ⟨s0, s1, s2, s3, _⟩ := four_cells Kr
  have U1 := Lib.hid hU1
  have U2 := Lib.hid hU2
  have BW := Lib.hid hbw
  have RS := Lib.hid hrs
  clear hU1 hU2 hbw hrs Kr
  by_cases hlt : k < m
  case neg =>
    have he1 : Hid (Mrk g1 (addL X (nodesT s l0 (j : Int))) wr) := Lib.hid (by
      have := U1.out
      rw [List.take_of_length_le (by rw [hlm.out]; omega), ← hend.out] at this
      exact this)
    have he2 : Hid (Mrk g2 (addL Y (refsT s l0 (j : Int))) wr) := Lib.hid (by
      have := U2.out
      rw [List.take_of_length_le (by rw [hlm.out]; omega), ← hfin2.out] at this
      exact this)
    have RF := Lib.hid (rest_trans R4.out RS.out)
    go_wp2_with fail
    (try simp only [Exit.inBlock, Exit.then])
    first
      | refine bodyPost_end (results_none rfl _ _ _) rfl ?_
      | refine bodyPost_ret (results_none rfl _ _ _) rfl ?_
    exact ⟨⟨_, rfl⟩, he1.out, he2.out, BW.out, RF.out⟩
  obtain ⟨x, hx⟩ : ∃ x, l[k]? = some x := ⟨_, List.getElem?_eq_getElem (by rw [hlm.out]; exact hlt)⟩
  have hIr : rIts (Old wr) wr [.slice Z m zc] l := stab_its _ _ _ _ _ _ (fun p v hq hc => by
    have hq1 := hq.1
    have e1 := hlt1.out
    have e2 := hlt2.out
    exact ⟨Nat.lt_of_lt_of_le hq.2.1 RS.out.1, (World.cell?_of_block (RS.out.2 p.block hq.2.1 (by omega) (by omega))).trans hc⟩) hI4.out
  obtain ⟨ad, E5, ce5, rfl, _, _, _, FX⟩ := its_old hIr hx
  obtain ⟨⟨_, _, _, u3, _⟩, _⟩ := FX _ (Below.refl _ _)
  have i4 : (0 : Int) ≤ (k : Int) := by omega
  have i5 : (k : Int) < (m : Int) := by omega
  have ht1 := Lib.hid (fl_take (f := mwN s l0) hx)
  have ht2 := Lib.hid (fl_take (f := mwR s l0) hx)
  clear FX hIr
  cases l0 with
  | zero =>
    have v1 : ¬ (0 : Int) < lw := by rw [hlv.out]; simp
    by_cases hx0 : x.2.1 = 0
    · have hA : Hid (Mrk g1 (addL X1 ((l.take (k + 1)).flatMap (mwN s 0))) wr ∧ Mrk g2 (addL Y ((l.take (k + 1)).flatMap (mwR s 0))) wr) := Lib.hid (by
        rw [ht1.out, ht2.out, show mwN s 0 x = [] from rfl, show mwR s 0 x = [] from if_pos hx0, List.append_nil, List.append_nil]
        exact ⟨U1.out, U2.out⟩)
      rw [hx0] at u3
      replace hx := Lib.hid hx
      replace hx0 := Lib.hid hx0
      go_wp2_with fail
      go_roundw
      case rel => exact ⟨k + 1, by omega, by go_num, hA.out.1, hA.out.2, BW.out, RS.out⟩
      case measure => simp [intOf]; omega
    · obtain ⟨r8, r256, hy⟩ := hrf.out rfl k x hx hx0
      obtain ⟨r, hr⟩ : ∃ r, x.2.1 = r := ⟨_, rfl⟩
      rw [hr] at u3 r8 r256 hy hx0
      obtain ⟨q, rfl⟩ : ∃ q : Nat, r = q := ⟨r.toNat, by omega⟩
      have q256 : q < 256 := by omega
      have hc := mrk_cell U2.out q256
      have hf := mrk_frz U2.out q
      obtain ⟨Y', hY'⟩ : ∃ Y', addL Y ((l.take k).flatMap (mwR s 0)) = Y' := ⟨_, rfl⟩
      rw [hY', show ((q : Int)).toNat = q by omega] at hy
      rw [hY'] at hc
      obtain ⟨z, hzz⟩ : ∃ z, Y'[q]?.getD 0 = z := ⟨_, rfl⟩
      obtain ⟨hy1, hy2, hy3⟩ := hy
      rw [hzz] at hy1 hy2 hy3 hc
      have hA1 : Hid (Mrk g1 (addL X1 ((l.take (k + 1)).flatMap (mwN s 0))) (wr.setCell ⟨g2, q, none⟩ (.int .i64 (z + 1)))) := Lib.hid (by
        rw [ht1.out, show mwN s 0 x = [] from rfl, List.append_nil]
        exact mrk_other U1.out (fun e => hg12.out.2.2 e.symm) q _)
      have hA2 : Hid (Mrk g2 (addL Y ((l.take (k + 1)).flatMap (mwR s 0))) (wr.setCell ⟨g2, q, none⟩ (.int .i64 (z + 1)))) := Lib.hid (by
        rw [hy3]
        have := U2.out
        rw [hY'] at this
        exact mrk_put this q (z + 1))
      have hA3 := Lib.hid (BW.out.setCell (p := ⟨g2, q, none⟩) hg12.out.2.1 (.int .i64 (z + 1)))
      have hA4 := Lib.hid (rest_trans RS.out (rest_put (g1 := g1) (g2 := g2) (g := g2) (w := wr) (.inr rfl) q (.int .i64 (z + 1))))
      have w1 : IntKind.i64.wrap (z + 1) = z + 1 := IntWalk.i64_in _ (by omega)
      have j1 : (0 : Int) ≤ (q : Int) := by omega
      have j2 : (q : Int) < 256 := by omega
      have j3 : ¬ (q : Int) = 0 := hx0
      have j4 : ¬ q = 0 := by omega
      replace hx := Lib.hid hx
      replace hr := Lib.hid hr
      replace hY' := Lib.hid hY'
      replace hzz := Lib.hid hzz
      replace hy3 := Lib.hid hy3
      clear r8 r256 hx0
      go_wp2_with fail
      go_roundw
      case rel => exact ⟨k + 1, by omega, by go_num, hA1.out, hA2.out, hA3.out, hA4.out⟩
      case measure => simp [intOf]; omega
  | succ l1 =>
    have v1 : (0 : Int) < lw := by rw [hlv.out]; omega
    have hrec := Lib.hid (hr0 l1 rfl _ x.2.1 w0 g1 g2 _ _ wr (hdn.out l1 rfl k x hx) h0.out hg12.out.1 hg12.out.2.1 hg12.out.2.2 BW.out U1.out U2.out)
    replace hx := Lib.hid hx
    go_wp2_with fail
    with_reducible refine hrec.out.mono ?_
    rintro e w5 ⟨⟨rv, rfl⟩, hV1, hV2, hbv, hrv⟩
    have hA1 : Hid (Mrk g1 (addL X1 ((l.take (k + 1)).flatMap (mwN s (l1 + 1)))) w5) := Lib.hid (by
      rw [ht1.out, addL_app]
      exact hV1)
    have hA2 : Hid (Mrk g2 (addL Y ((l.take (k + 1)).flatMap (mwR s (l1 + 1)))) w5) := Lib.hid (by
      rw [ht2.out, addL_app]
      exact hV2)
    have hA3 := Lib.hid hbv
    have hA4 := Lib.hid (rest_trans RS.out hrv)
    clear hV1 hV2 hbv hrv
    go_wp2_with fail
    go_roundw
    case rel => exact ⟨k + 1, by omega, by go_num, hA1.out, hA2.out, hA3.out, hA4.out⟩
    case measure => simp [intOf]; omega
theorem marks_is (s : Rm) (hm : mayR s = true) : ∀ l : Nat, MarkIs s l := by
  intro l
  induction l using Nat.strongRecOn with
  | ind l ih => exact marks_step s hm l fun j hj => ih j (by omega)
end Go.Proofs.YtdaidhbmfocodaaGreat

/-
  The document's marked (layer 11): the places with marks. Conditions: those that each lemma states.
-/
namespace Go.Proofs.YtdaidhbmfocodaaGreat
open Go.RowKit

def marN (N : List Int) (k : Nat) : List Int := ((List.range k).filter fun i => decide (0 < N[i]?.getD 0)).map fun i : Nat => (i : Int)
theorem marN_succ (N : List Int) (k : Nat) : marN N (k + 1) = marN N k ++ (if 0 < N[k]?.getD 0 then [(k : Int)] else []) := by
  unfold marN
  rw [List.range_succ, List.filter_append, List.map_append]
  congr 1
  by_cases h : 0 < N[k]?.getD 0 <;> simp [h]
theorem marN_mark {L N : List Int} (hN : N.length = 256) (h0 : ∀ k : Nat, N[k]?.getD 0 = 0) (h : ∀ a ∈ L, 0 ≤ a ∧ a < 256) : marN (addL N L) 256 = markI L := by
  unfold marN markI
  rw [add_marks hN h0 h]

set_option maxRecDepth 100000 in
set_option maxHeartbeats 4000000 in
theorem refMarked_any (A : Option Addr) (c : Nat) (N : List Int) (hN : N.length = 256) (w : World) (h : rSl 1 (rK .i64) (Old w) w [.slice A 256 c] N) :
    Calls Tryz.prog 32 #[.slice A 256 c] w fun e w' => ∃ u c', e = .returned (.slice u (marN N 256).length c') ∧ rSl 1 (rK .i64) (New w.heap.size w') w' [.slice u (marN N 256).length c'] (marN N 256) ∧ Below w.heap.size w w' := by
  have h' := Lib.hid h
  replace hN := Lib.hid hN
  clear h
  go_enter Tryz.func32, Tryz.ntmps32
  go_upto_region 2 with fail
  go_wp2_with fail
  go_loopw [4, 3] (fun vi vo wr => ∃ (k n : Nat) (Q : Option Addr) (c : Nat) (q : List Int), k ≤ 256 ∧ vi = .int .i64 k ∧ vo = .slice Q n c ∧ q.length = n ∧ n ≤ k ∧ marN N k = q ∧ RowOf (rK .i64) 1 3 w.heap.size wr Q c q ∧ Below w.heap.size w wr) (fun vi _ _ => 256 - (intOf vi).toNat)
  case atStart => exact ⟨0, 0, none, 0, [], by omega, rfl, rfl, rfl, Nat.le_refl _, rfl, RowOf.nil _ _ _ _ _, Below.refl _ _⟩
  case round =>
  obtain ⟨k, n, Q, cq, q, hk, rfl, rfl, hqn, hnk, hq, hrow, hbr⟩ := hrel
  have BR := Lib.hid hbr
  have hrow' := Lib.hid hrow
  have hq' := Lib.hid hq
  have hqn' := Lib.hid hqn
  clear hbr hrow hq hqn
  by_cases hlt : k < 256
  case neg =>
    obtain rfl : k = 256 := by omega
    have hit : Hid (rSl 1 (rK .i64) (New w.heap.size wr) wr [.slice Q n cq] q) := Lib.hid (by
      have := hrow'.out.rel (stab_k _)
      rw [hqn'.out] at this
      exact this)
    go_wp2_with fail
    go_ret
    rw [hq'.out, hqn'.out]
    exact ⟨Q, cq, rfl, hit.out, BR.out⟩
  obtain ⟨x, hx⟩ : ∃ x, N[k]? = some x := ⟨_, List.getElem?_eq_getElem (by rw [hN.out]; exact hlt)⟩
  obtain ⟨ad, rfl, hz⟩ := sl_at h'.out hx
  have z0 := hz wr BR.out
  have hs := Lib.hid (marN_succ N k)
  rw [hx, hq'.out] at hs
  have i4 : (0 : Int) ≤ (k : Int) := by omega
  have i5 : (k : Int) < 256 := by omega
  replace hx := Lib.hid hx
  clear hz
  by_cases hp : 0 < x
  · have hs2 : Hid (marN N (k + 1) = q ++ [(k : Int)]) := Lib.hid (by rw [hs.out]; simp [hp])
    have hqn2 : Hid ((q ++ [(k : Int)]).length = n + 1) := Lib.hid (by rw [List.length_append, hqn'.out]; rfl)
    obtain ⟨w6, hw6, b6, hb6⟩ : ∃ w6, wr.alloc (.cells #[.int .i64 (k : Int)] 3) = w6 ∧ w6.heap[wr.heap.size]? = some (.cells #[.int .i64 (k : Int)] 3 (0, 0)) ∧ Below wr.heap.size wr w6 := ⟨_, rfl, heap_alloc_new _ _, (Below.refl _ _).alloc (Nat.le_refl _) _⟩
    have hl100 : q.length < 100000 := by have := hqn'.out; omega
    have hbase : w.heap.size ≤ w6.heap.size := Nat.le_trans BR.out.size hb6.size
    obtain ⟨A2, c2, w7, hr2, row7, _, ba7⟩ := ints_push (RowOf.below (stab_k _) hrow'.out hb6) wr.heap.size (k : Int) 1 b6 hl100 hbase ⟨by omega, by omega⟩
    rw [hqn'.out] at hr2
    have H2 := Lib.hid hr2
    have row8 := Lib.hid row7
    have B7 := Lib.hid ((BR.out.trans (hb6.mono BR.out.size)).trans ba7)
    clear hr2 row7 ba7 hb6 b6 hl100 hbase
    go_wp2_with (at_builtin; refine wpList_append_run rfl _ _ _ rfl rfl rfl H2.out ?_; clear H2)
    go_roundw
    case rel => exact ⟨k + 1, n + 1, A2, c2, q ++ [(k : Int)], by omega, by go_num, rfl, hqn2.out, by omega, hs2.out, row8.out, B7.out⟩
    case measure => simp [intOf]; omega
  · have hs2 : Hid (marN N (k + 1) = q) := Lib.hid (by rw [hs.out]; simp [hp])
    go_wp2_with fail
    go_roundw
    case rel => exact ⟨k + 1, n, Q, cq, q, by omega, by go_num, rfl, hqn'.out, by omega, hs2.out, hrow'.out, BR.out⟩
    case measure => simp [intOf]; omega
end Go.Proofs.YtdaidhbmfocodaaGreat

/-
  Which blocks a range over the items of a tree comes to; plain. Conditions: those that each lemma states.
-/
namespace Go.Proofs.YtdaidhbmfocodaaGreat
open Go.RowKit

/-- What items above refer to; what leaves' items refer to. -/
def upsW (M : List (Int × It)) : List Int := (M.filter fun p => decide (0 < p.1)).map (·.2.2.1)
def lowW (M : List (Int × It)) : List Int := (M.filter fun p => !decide (0 < p.1) && decide (p.2.2.1 ≠ 0)).map (·.2.2.1)
theorem ups_yes {M : List (Int × It)} {p : Int × It} (h : 0 < p.1) : upsW (M ++ [p]) = upsW M ++ [p.2.2.1] ∧ lowW (M ++ [p]) = lowW M := by
  unfold upsW lowW
  rw [List.filter_append, List.map_append, List.filter_append, List.map_append, List.filter_cons_of_pos (by simpa using h), List.filter_cons_of_neg (by simp [h])]
  exact ⟨rfl, by simp⟩
theorem low_yes {M : List (Int × It)} {p : Int × It} (h : ¬ 0 < p.1) (h0 : p.2.2.1 ≠ 0) : upsW (M ++ [p]) = upsW M ∧ lowW (M ++ [p]) = lowW M ++ [p.2.2.1] := by
  unfold upsW lowW
  rw [List.filter_append, List.map_append, List.filter_append, List.map_append, List.filter_cons_of_neg (by simpa using h), List.filter_cons_of_pos (by simp [h0]; omega)]
  exact ⟨by simp, rfl⟩
theorem low_no {M : List (Int × It)} {p : Int × It} (h : ¬ 0 < p.1) (h0 : p.2.2.1 = 0) : upsW (M ++ [p]) = upsW M ∧ lowW (M ++ [p]) = lowW M := by
  unfold upsW lowW
  rw [List.filter_append, List.map_append, List.filter_append, List.map_append, List.filter_cons_of_neg (by simpa using h), List.filter_cons_of_neg (by simp [h0])]
  exact ⟨by simp, by simp⟩
theorem ups_len (M : List (Int × It)) : (upsW M).length ≤ M.length ∧ (lowW M).length ≤ M.length := by
  unfold upsW lowW
  rw [List.length_map, List.length_map]
  exact ⟨List.length_filter_le _ _, List.length_filter_le _ _⟩
theorem ups_mem {M : List (Int × It)} {x : Int} : x ∈ upsW M ↔ ∃ p ∈ M, 0 < p.1 ∧ p.2.2.1 = x := by
  unfold upsW
  simp only [List.mem_map, List.mem_filter, decide_eq_true_eq]
  constructor
  · rintro ⟨p, ⟨h1, h2⟩, h3⟩
    exact ⟨p, h1, h2, h3⟩
  · rintro ⟨p, h1, h2, h3⟩
    exact ⟨p, ⟨h1, h2⟩, h3⟩
theorem low_mem {M : List (Int × It)} {x : Int} : x ∈ lowW M ↔ ∃ p ∈ M, ¬ 0 < p.1 ∧ p.2.2.1 ≠ 0 ∧ p.2.2.1 = x := by
  unfold lowW
  simp only [List.mem_map, List.mem_filter, Bool.and_eq_true, Bool.not_eq_true', decide_eq_false_iff_not, decide_eq_true_eq]
  constructor
  · rintro ⟨p, ⟨h1, h2, h3⟩, h4⟩
    exact ⟨p, h1, h2, h3, h4⟩
  · rintro ⟨p, h1, h2, h3, h4⟩
    exact ⟨p, ⟨h1, h2, h3⟩, h4⟩
theorem walk_zero (s : Rm) (a : Int) {p : Int × It} : p ∈ walkT s 0 a ↔ ∃ x ∈ (rmV s a).2, p = (0, x) := by
  unfold walkT
  simp only [List.mem_flatMap, List.mem_singleton]
theorem walk_succ (s : Rm) (l : Nat) (a : Int) {p : Int × It} : p ∈ walkT s (l + 1) a ↔ ∃ x ∈ (rmV s a).2, p = (((l + 1 : Nat) : Int), x) ∨ p ∈ walkT s l x.2.1 := by
  show p ∈ (rmV s a).2.flatMap (fun x => (((l + 1 : Nat) : Int), x) :: walkT s l x.2.1) ↔ _
  simp only [List.mem_flatMap, List.mem_cons]
theorem walk_ups (s : Rm) : ∀ (l : Nat) (a x : Int), x = a ∨ x ∈ upsW (walkT s l a) ↔ x ∈ nodesT s l a
  | 0, a, x => by
    unfold nodesT
    rw [ups_mem, List.mem_singleton]
    constructor
    · rintro (h | ⟨p, hp, h1, _⟩)
      · exact h
      · obtain ⟨y, _, rfl⟩ := (walk_zero s a).1 hp
        exact absurd h1 (by simp)
    · exact .inl
  | l + 1, a, x => by
    unfold nodesT
    rw [List.mem_cons, List.mem_flatMap]
    refine or_congr Iff.rfl ?_
    constructor
    · intro h
      obtain ⟨p, hp, h1, h2⟩ := ups_mem.1 h
      obtain ⟨y, hy, e⟩ := (walk_succ s l a).1 hp
      refine ⟨y, hy, (walk_ups s l y.2.1 x).1 ?_⟩
      rcases e with rfl | e
      · exact .inl h2.symm
      · exact .inr (ups_mem.2 ⟨p, e, h1, h2⟩)
    · rintro ⟨y, hy, h⟩
      rcases (walk_ups s l y.2.1 x).2 h with e | e
      · exact ups_mem.2 ⟨_, (walk_succ s l a).2 ⟨y, hy, .inl rfl⟩, by show (0 : Int) < ((l + 1 : Nat) : Int); omega, e.symm⟩
      · obtain ⟨p, hp, h1, h2⟩ := ups_mem.1 e
        exact ups_mem.2 ⟨p, (walk_succ s l a).2 ⟨y, hy, .inr hp⟩, h1, h2⟩
theorem walk_low (s : Rm) : ∀ (l : Nat) (a x : Int), x ∈ lowW (walkT s l a) ↔ x ∈ refsT s l a
  | 0, a, x => by
    unfold refsT
    rw [low_mem, List.mem_filter, List.mem_map, decide_eq_true_eq]
    constructor
    · rintro ⟨p, hp, _, h2, h3⟩
      obtain ⟨y, hy, rfl⟩ := (walk_zero s a).1 hp
      exact ⟨⟨y, hy, h3⟩, by rw [← h3]; exact h2⟩
    · rintro ⟨⟨y, hy, h3⟩, h2⟩
      exact ⟨_, (walk_zero s a).2 ⟨y, hy, rfl⟩, by simp, by show y.2.1 ≠ 0; rw [h3]; exact h2, h3⟩
  | l + 1, a, x => by
    unfold refsT
    rw [List.mem_flatMap]
    constructor
    · intro h
      obtain ⟨p, hp, h1, h2, h3⟩ := low_mem.1 h
      obtain ⟨y, hy, e⟩ := (walk_succ s l a).1 hp
      refine ⟨y, hy, (walk_low s l y.2.1 x).1 ?_⟩
      rcases e with rfl | e
      · exact absurd (show (0 : Int) < ((l + 1 : Nat) : Int) by omega) h1
      · exact low_mem.2 ⟨p, e, h1, h2, h3⟩
    · rintro ⟨y, hy, h⟩
      obtain ⟨p, hp, h1, h2, h3⟩ := low_mem.1 ((walk_low s l y.2.1 x).2 h)
      exact low_mem.2 ⟨p, (walk_succ s l a).2 ⟨y, hy, .inr hp⟩, h1, h2, h3⟩
theorem mark_same {K K' : List Int} (h : ∀ x, x ∈ K ↔ x ∈ K') : markO K = markO K' := by
  unfold markO
  refine List.filter_congr fun k _ => ?_
  rw [decide_eq_decide]
  exact h _
theorem flat_bound {β : Type} {g : It → List β} {N : Nat} : ∀ (L : List It), (∀ x ∈ L, (g x).length ≤ N) → (L.flatMap g).length ≤ N * L.length
  | [], _ => by simp
  | x :: r, h => by
    have h1 := h x (by simp)
    have h2 := flat_bound r fun y hy => h y (by simp [hy])
    rw [List.flatMap_cons, List.length_append, List.length_cons, Nat.mul_succ]
    omega
theorem walk_len (s : Rm) : ∀ (l : Nat) (a : Int), AtT s l a → (walkT s l a).length ≤ 6 ^ (l + 2)
  | 0, a, h => by
    have h5 := (mayN_of h.may).1.2.2.1
    have := flat_bound (g := fun x => [((0 : Int), x)]) (N := 1) (rmV s a).2 (fun x _ => by simp)
    unfold walkT
    have e : 6 ^ (0 + 2) = 36 := rfl
    omega
  | l + 1, a, h => by
    have h5 := (mayN_of h.may).1.2.2.1
    have := flat_bound (g := fun x => (((l + 1 : Nat) : Int), x) :: walkT s l x.2.1) (N := 6 ^ (l + 2) + 1) (rmV s a).2 (fun x hx => by
      have := walk_len s l x.2.1 (h.down hx)
      rw [List.length_cons]
      omega)
    show ((rmV s a).2.flatMap (fun x => (((l + 1 : Nat) : Int), x) :: walkT s l x.2.1)).length ≤ _
    have e : 6 ^ (l + 1 + 2) = 6 ^ (l + 2) * 6 := Nat.pow_succ 6 (l + 2)
    have e2 := Nat.mul_le_mul_left (6 ^ (l + 2) + 1) h5
    have e3 : 6 ≤ 6 ^ (l + 2) := by
      have := Nat.pow_le_pow_right (show 0 < 6 by decide) (show 1 ≤ l + 2 by omega)
      simpa using this
    omega
theorem tree_wlen {s : Rm} {a : Int} (h : treeO s a = true) : (walkT s (rmV s a).1.toNat a).length ≤ 279936 := by
  obtain ⟨_, _, _, _, l6, _⟩ := tree_of h
  refine Nat.le_trans (walk_len s _ a (tree_at h)) ?_
  have := Nat.pow_le_pow_right (show 0 < 6 by decide) (show (rmV s a).1.toNat + 2 ≤ 7 by omega)
  have e : 6 ^ 7 = 279936 := by decide
  omega
end Go.Proofs.YtdaidhbmfocodaaGreat

/-
  Package walk: Nodes. Conditions: those that each lemma states.
-/
namespace Go.Proofs.YtdaidhbmfocodaaGreat
open Go.RowKit Go.Shelf Go.Maps
attribute [local go_sem] Oper.semAt_some

/-- What Nodes hands back. -/
noncomputable def ndsV (s : Rm) (a : Int) : List Int := if ckE s a = 0 then markI (nodesO s a) else []
noncomputable def rfsV (s : Rm) (a : Int) : List Int := if ckE s a = 0 then markI (refsO s a) else []
def NodesR (s : Rm) (a : Int) (w : World) : Ending → World → Prop := fun e w' => ∃ u c v d, e = .returned (.tuple #[.slice u (ndsV s a).length c, .slice v (rfsV s a).length d, .int .i64 (ckE s a)]) ∧
  rSl 1 (rK .i64) (New w.heap.size w') w' [.slice u (ndsV s a).length c] (ndsV s a) ∧ rSl 1 (rK .i64) (New w.heap.size w') w' [.slice v (rfsV s a).length d] (rfsV s a) ∧ Below w.heap.size w w'

/-- Between two rounds: both sets in their boxes. -/
def NdI (n0 : World) (b1 b2 B1 B2 lo' : Nat) (a : Int) (r : List Wk × Option Nat) (V : World) : Prop :=
  (Below n0.heap.size n0 V ∧ lo' ≤ V.heap.size) ∧ (MapOf V b1 ([a] ++ upsW (r.1.map keyW)) ∧ MapOf V b2 (lowW (r.1.map keyW))) ∧ (Boxed V B1 74 (.map (some b1)) ∧ Boxed V B2 74 (.map (some b2))) ∧ r.2 = none
theorem ndI_own {n0 : World} {b1 b2 B1 B2 lo' : Nat} {a : Int} {B : Nat} (hB : n0.heap.size ≤ B) (h1 : b1 < B) (h2 : b2 < B) : OwnFrom B (NdI n0 b1 b2 B1 B2 lo' a) := fun r V V' row hs hg hr => by
  obtain ⟨⟨h3, h4⟩, ⟨h5, h6⟩, ⟨h7, h8⟩, h9⟩ := hs
  have hn := fun r e => (hr r e).2
  exact ⟨⟨ownFrom_below (Nat.le_refl _) hB () V V' row h3 hg hr, Nat.le_trans h4 hg.size⟩, ⟨mapOf_kept h5 hg fun e => by have := (hr _ e.symm).1; omega, mapOf_kept h6 hg fun e => by have := (hr _ e.symm).1; omega⟩, ⟨block_kept h7 hg hn, block_kept h8 hg hn⟩, h9⟩
theorem wf64 {x : Int} (h : -9223372036854775808 ≤ x ∧ x ≤ 9223372036854775807) : (Lit.int .i64 x).wf = true := by
  simp [Lit.wf, IntKind.min, IntKind.max, IntKind.signed, IntKind.bits]
  omega
/-- What both sets are in the end. -/
theorem sets_end {s : Rm} {a : Int} (h : treeO s a = true) {M : List (Int × It)} (hM : M = walkT s (rmV s a).1.toNat a) :
    (markI ([a] ++ upsW M) = markI (nodesO s a) ∧ ∀ x ∈ [a] ++ upsW M, 0 ≤ x ∧ x < 256) ∧ (markI (lowW M) = markI (refsO s a) ∧ ∀ x ∈ lowW M, 0 ≤ x ∧ x < 256) := by
  have hb := tree_blk h
  subst hM
  have h1 : ∀ x, x ∈ [a] ++ upsW (walkT s (rmV s a).1.toNat a) ↔ x ∈ nodesO s a := fun x => by
    rw [List.mem_append, List.mem_singleton]
    exact walk_ups s _ a x
  have h2 : ∀ x, x ∈ lowW (walkT s (rmV s a).1.toNat a) ↔ x ∈ refsO s a := fun x => walk_low s _ a x
  refine ⟨⟨by unfold markI; rw [mark_same h1], fun x hx => ?_⟩, by unfold markI; rw [mark_same h2], fun x hx => ?_⟩
  · obtain ⟨h3, h4, _⟩ := node_place (hb.node x ((h1 x).1 hx))
    omega
  · obtain ⟨_, _, h3, h4⟩ := hb.held x ((h2 x).1 hx)
    omega

/-- Where only the ordinary end is wanted. -/
def onlyN (X : Act → World → Prop) : Exit → Act → World → Prop
  | .normal, a, w => X a w
  | _, _, _ => False
theorem wpIn_onlyN {F : Fence} {n : Nat} {P : Program} {c : Code} {K : Act → World → Prop} {Q : Exit → Act → World → Prop} {a : Act} {w : World} (h : c.wpIn F n P (onlyN K) a w) : c.wpIn F n P (Exit.then K Q) a w :=
  wpIn_mono h fun e a w h => by
    cases e <;> first
      | exact h
      | exact h.elim

set_option maxRecDepth 100000 in
set_option maxHeartbeats 8000000 in
theorem walkNodes_any (v : Value) (s : Rm) (a : Int) (w : World) (h : Sto (Old w) w v s) :
    Calls Tryz.prog 11 #[v, .int .i64 a] w (NodesR s a w) := by
  obtain ⟨A, ca, B, cb, N, cn, L, cl, rfl, _⟩ := id h.open
  obtain ⟨v0, hv0⟩ : ∃ q, (Value.slice A s.1.1.length ca) = q := ⟨_, rfl⟩
  obtain ⟨v1, hv1⟩ : ∃ q, (Value.slice B s.1.2.length cb) = q := ⟨_, rfl⟩
  obtain ⟨v2, hv2⟩ : ∃ q, (Value.slice N s.2.1.length cn) = q := ⟨_, rfl⟩
  obtain ⟨v3, hv3⟩ : ∃ q, (Value.slice L s.2.2.length cl) = q := ⟨_, rfl⟩
  rw [hv0, hv1, hv2, hv3] at h ⊢
  replace hv0 := Lib.hid hv0
  replace hv1 := Lib.hid hv1
  replace hv2 := Lib.hid hv2
  replace hv3 := Lib.hid hv3
  have hmm := @run_makeMap Tryz.prog
  obtain ⟨w1, hw1, k1, hs1, hB1⟩ := box_4 w v0 v1 v2 v3 29
  have K1 : Hid (BoxW w.heap.size #[v0, v1, v2, v3] 29 w1) := Lib.hid k1
  have B1 : Hid (Below w.heap.size w w1) := Lib.hid hB1
  have hck := Lib.hid (findCheck_any (.agg #[v0, v1, v2, v3]) s a w1 (h.below B1.out))
  have hcb := Lib.hid (fun hh : ckE s a ≠ 0 => (⟨if_neg hh, if_neg hh⟩ : ndsV s a = [] ∧ rfsV s a = []))
  obtain ⟨E0, hE0⟩ : ∃ q, ckE s a = q := ⟨_, rfl⟩
  obtain ⟨H0, hH0⟩ : ∃ q, ckH s a = q := ⟨_, rfl⟩
  rw [hE0, hH0] at hck
  obtain ⟨s0, s1, s2, s3, _⟩ := four_cells K1.out
  replace h := Lib.hid h
  replace hE0 := Lib.hid hE0
  replace hs1 := Lib.hid hs1
  clear k1 hB1
  refine callsIn_wide.1 (callsIn_of_wp_marks (n := 5) Tryz.func11 rfl trivial ?_ rfl)
  simp only [Tryz.ntmps11, List.size_toArray, List.length_cons, List.length_nil, Nat.reduceAdd, Nat.reduceSub, Array.replicate_succ, Array.replicate_zero, List.push_toArray, List.append_toArray, List.nil_append, List.cons_append]
  gi_wp2_with fail
  refine ⟨trivial, ?_⟩
  gi_at_call 24
  refine (callsIn_wide.2 hck.out).mono ?_
  rintro e w4 ⟨rfl, hB4⟩
  have B4 := Lib.hid (B1.out.trans (hB4.mono B1.out.size))
  replace K1 : Hid (BoxW w.heap.size #[v0, v1, v2, v3] 29 w4) := Lib.hid (lasts_boxW _ _ _ _ _ K1.out hB4)
  have l14 := Lib.hid (show w.heap.size < w4.heap.size by have := hs1.out; have := hB4.size; omega)
  clear hw1 s0 s1 s2 s3 hck hB4
  by_cases he : E0 = 0
  case neg =>
    have e1 : (E0 != 0) = true := by simpa using he
    have hne : Hid (ckE s a ≠ 0) := Lib.hid (by rw [hE0.out]; exact he)
    obtain ⟨c1, c2⟩ := hcb.out hne.out
    replace c1 := Lib.hid c1
    replace c2 := Lib.hid c2
    clear he hcb
    gi_wp2_with fail
    refine ⟨_, results_tmp3 rfl _ _ _, none, 0, none, 0, ?_, ?_, ?_, B4.out⟩
    · rw [c1.out, c2.out, hE0.out]
      rfl
    · rw [c1.out]
      exact ⟨none, 0, rfl, by simp, by omega, fun i x h => by simp at h⟩
    · rw [c2.out]
      exact ⟨none, 0, rfl, by simp, by omega, fun i x h => by simp at h⟩
  subst he
  obtain ⟨htree, _, _⟩ := ck_of hE0.out
  obtain ⟨s0, s1, s2, s3, _⟩ := four_cells K1.out
  obtain ⟨ha8, ha256, _⟩ := node_place (tree_of htree).1
  have hwfa : (Lit.int .i64 a).wf = true := by
    simp [Lit.wf, IntKind.min, IntKind.max, IntKind.signed, IntKind.bits]
    omega
  obtain ⟨wA, hrA, hMA, hgA⟩ := mapOf_put (mapOf_new w4) hwfa (by simp)
  obtain ⟨w5, hw5, hM1, hM2, K5, K6, hs5, hB5⟩ : ∃ w5, ((wA.alloc (.map #[] 0)).alloc (.cells #[.map (some w4.heap.size)] 74)).alloc (.cells #[.map (some wA.heap.size)] 74) = w5 ∧ MapOf w5 w4.heap.size [a] ∧ MapOf w5 wA.heap.size [] ∧
      Boxed w5 (wA.heap.size + 1) 74 (.map (some w4.heap.size)) ∧ Boxed w5 (wA.heap.size + 1 + 1) 74 (.map (some wA.heap.size)) ∧ w5.heap.size = wA.heap.size + 3 ∧ Below w4.heap.size w4 w5 := by
    have hlt := mapOf_lt hMA
    have b1 : Below w4.heap.size w4 wA := ((Below.refl _ w4).alloc (Nat.le_refl _) _).grown hgA (by simp) (fun k e => by cases e; exact Nat.le_refl _)
    have g1 := World.grownBy_alloc wA (.map #[] 0) none
    have g2 := World.grownBy_alloc (wA.alloc (.map #[] 0)) (.cells #[.map (some w4.heap.size)] 74) none
    have g3 := World.grownBy_alloc ((wA.alloc (.map #[] 0)).alloc (.cells #[.map (some w4.heap.size)] 74)) (.cells #[.map (some wA.heap.size)] 74) none
    have n1 := Boxed.new (wA.alloc (.map #[] 0)) 74 (.map (some w4.heap.size))
    have n2 := Boxed.new ((wA.alloc (.map #[] 0)).alloc (.cells #[.map (some w4.heap.size)] 74)) 74 (.map (some wA.heap.size))
    rw [World.size_alloc] at n1
    rw [World.size_alloc, World.size_alloc] at n2
    exact ⟨_, rfl, mapOf_kept (mapOf_kept (mapOf_kept hMA g1 (by simp)) g2 (by simp)) g3 (by simp), mapOf_kept (mapOf_kept (mapOf_new wA) g2 (by simp)) g3 (by simp), n1.alloc _, n2, by simp, ((b1.alloc b1.size _).alloc (by simp; have := b1.size; omega) _).alloc (by simp; have := b1.size; omega) _⟩
  have lA := Lib.hid (show w4.heap.size < wA.heap.size from mapOf_lt hMA)
  have s0' := (hB5.cell (p := ⟨w.heap.size, 0, none⟩) l14.out).trans s0
  have s1' := (hB5.cell (p := ⟨w.heap.size, 1, none⟩) l14.out).trans s1
  have s2' := (hB5.cell (p := ⟨w.heap.size, 2, none⟩) l14.out).trans s2
  have s3' := (hB5.cell (p := ⟨w.heap.size, 3, none⟩) l14.out).trans s3
  have hIt := Lib.hid (items_any v0 v1 v2 v3 a w5)
  obtain ⟨w6, hw6, g6, b6, hs6, hB6⟩ : ∃ w6, (w5.alloc (.cells #[v0, v1, v2, v3] 29)).alloc (.cells #[.int .i64 a] 3) = w6 ∧ Box4 w5.heap.size v0 v1 v2 v3 w6 ∧ BoxF (w5.heap.size + 1) (.int .i64 a) w6 ∧ w6.heap.size = w5.heap.size + 2 ∧ Below w5.heap.size w5 w6 := by
    obtain ⟨wa, ha, ga, sa, ba⟩ := box_4 w5 v0 v1 v2 v3 29
    obtain ⟨wb, hb, gb, sb, bb⟩ := box_one wa (.int .i64 a) 3
    obtain ⟨k0, k1, k2, k3, _⟩ := four_cells ga
    exact ⟨wb, by rw [ha, hb], lasts_box4 _ _ _ _ _ _ _ ⟨k0, k1, k2, k3, by omega⟩ bb, ⟨by rw [← sa]; exact gb, by omega⟩, by omega, ba.trans (bb.mono ba.size)⟩
  rw [hw6] at hIt
  replace hMA := Lib.hid hMA
  replace hgA := Lib.hid hgA
  replace hM1 := Lib.hid hM1
  replace hM2 := Lib.hid hM2
  replace K5 := Lib.hid K5
  replace K6 := Lib.hid K6
  replace hs5 := Lib.hid hs5
  replace hs6 := Lib.hid hs6
  clear hwfa s0 s1 s2 s3 hw6
  gi_wp2_with fail
  refine ⟨trivial, ?_⟩
  gi_at_call 25
  refine (callsIn_wide.2 hIt.out).mono ?_
  rintro e w6 ⟨rfl, rfl⟩
  clear hw5 hrA hmm
  gi_wp2_with fail
  have lz : Hid (w.heap.size < w4.heap.size ∧ w4.heap.size < wA.heap.size ∧ w5.heap.size = wA.heap.size + 3 ∧ w6.heap.size = w5.heap.size + 2) := Lib.hid ⟨l14.out, lA.out, hs5.out, hs6.out⟩
  have B6 : Hid (Below w.heap.size w w6) := Lib.hid (B4.out.trans ((hB5.trans (hB6.mono hB5.size)).mono (Nat.le_of_lt l14.out)))
  have hg56 := below_grown hB6
  have hI0 : NdI w w4.heap.size wA.heap.size (wA.heap.size + 1) (wA.heap.size + 1 + 1) w6.heap.size a ([], none) w6 := ⟨⟨B6.out, Nat.le_refl _⟩, ⟨mapOf_kept hM1.out hg56 (by simp), mapOf_kept hM2.out hg56 (by simp)⟩, ⟨Boxed.kept K5.out hg56 (by simp), Boxed.kept K6.out hg56 (by simp)⟩, rfl⟩
  have S6 : Sto (fun p => p.block < w.heap.size) w6 (.agg #[v0, v1, v2, v3]) s := h.out.map fun p v hp hc => low_kept (fun k hk => B6.out.block k hk) hp hc
  have hit6 := items_told s (rmV s a).1.toNat a (tree_at htree) w.heap.size w5.heap.size (w5.heap.size + 1) v0 v1 v2 v3 w6 (by have := lz.out; omega) g6 b6 S6
  have hend6 := Lib.hid (fun (M : List (Int × It)) hM => sets_end htree (M := M) hM)
  have hlen6 := tree_wlen htree
  obtain ⟨LL, hLL⟩ : ∃ q, walkT s (rmV s a).1.toNat a = q := ⟨_, rfl⟩
  rw [hLL] at hit6 hend6 hlen6
  have hpl : Hid (∀ M : List (Int × It), M <+: LL → (upsW M).length ≤ 279936 ∧ (lowW M).length ≤ 279936) := Lib.hid fun M hM => by
    have h1 := hM.length_le
    have h2 := ups_len M
    omega
  replace hlen6 := Lib.hid hlen6
  replace hLL := Lib.hid hLL
  replace htree := Lib.hid htree
  clear s0' s1' s2' s3' g6 b6 S6 hIt hB5 hB6 hg56
  refine range_told (m := 5) (gf := 50) (lb := #[.pointer (some ⟨w5.heap.size, 0, none⟩), .pointer (some ⟨w5.heap.size + 1, 0, none⟩)]) rfl (enters_of Tryz.func50 (by kernel_rfl) rfl) hit6 (fun _ => rfl) (fun k => k = w4.heap.size ∨ k = wA.heap.size) (fun k e => by have := lz.out; omega) none (fun k hk => by
      rcases hk with h | rfl | rfl
      · exact ⟨by have := lz.out; omega, by have := lz.out; omega, by simp⟩
      · exact ⟨by have := lz.out; omega, by have := lz.out; omega, by simp⟩
      · exact ⟨by have := lz.out; omega, by have := lz.out; omega, by simp⟩)
    (NdI w w4.heap.size wA.heap.size (wA.heap.size + 1) (wA.heap.size + 1 + 1) w6.heap.size a) (fun _ _ _ => False)
    (ndI_own (by have := lz.out; omega) (by have := lz.out; omega) (by have := lz.out; omega)) (fun c _ _ _ _ hs _ _ => hs)
    (fun r V hr k e => by rw [hr.2.2.2] at e; cases e) hI0
    (fun y a' V => ∃ (g : Nat) (d : Value), a' = { tmps := #[.agg #[v0, v1, v2, v3], .int .i64 a, .pointer (some ⟨w.heap.size, 0, none⟩), undef, .slice none 0 0, .slice none 0 0, .int .i64 0, .int .i64 H0, .int .i64 0, .pointer (some ⟨wA.heap.size + 1, 0, none⟩), .pointer (some ⟨wA.heap.size + 1 + 1, 0, none⟩), .int .i64 y.1, .pointer (some ⟨g, 0, none⟩),
        .tuple #[.int .i64 H0, .int .i64 0], .agg #[v0, v1, v2, v3], .int .i64 a, .tuple #[.int .i64 H0, .int .i64 0], .int .i64 H0, .int .i64 0, .int .i64 0, .bool false, undef, .map (some w4.heap.size), .int .i64 a, .agg #[], .map (some w4.heap.size), .map (some wA.heap.size),
        .agg #[v0, v1, v2, v3], .int .i64 a, .func (.func 50) #[] #[.pointer (some ⟨w5.heap.size, 0, none⟩), .pointer (some ⟨w5.heap.size + 1, 0, none⟩)], .int .i64 y.1, .agg #[.int .u8 (y.2.1.1.1.toNat : Int), .int .u32 y.2.1.1.2.1, .int .u32 y.2.1.1.2.2, .int .i64 y.2.1.2.1, d], undef, undef, undef, undef, undef, undef, undef, undef, undef, undef, undef, undef, undef, undef, undef, undef, undef], defers := [] } ∧ y.2.2 = itV y.2.1 d ∧
      BoxW g #[.int .u8 (y.2.1.1.1.toNat : Int), .int .u32 y.2.1.1.2.1, .int .u32 y.2.1.1.2.2, .int .i64 y.2.1.2.1, d] 52 V)
    (fun y a' _ A B row hs hg hr => by
      obtain ⟨g, d, e1, e2, h0⟩ := hs
      exact ⟨g, d, e1, e2, block_kept h0 hg fun r e => (hr r e).2⟩)
    (fun pre x q => tell_own _ _ _ _ _ _) ?assign ?body ?done ?stop
  case assign =>
    rintro l' pre' q' ⟨lv', it', val'⟩ V K hi ⟨_, hit⟩ hK
    obtain ⟨A', c', hd, -⟩ := hit.open
    dsimp only at hd
    subst hd
    obtain ⟨V1, hV1, v0', v1', v2', v3', v4', hVs, hVB, hVg⟩ := box_five V (.int .u8 (it'.1.1.toNat : Int)) (.int .u32 it'.1.2.1) (.int .u32 it'.1.2.2) (.int .i64 it'.2.1) (.slice A' it'.2.2.length c') 52
    replace hVs := Lib.hid hVs
    clear hit hi hI0
    simp only [encW, itV]
    gi_wp2_with fail
    exact hK _ _ (below_grown hVB) ⟨V.heap.size, _, rfl, rfl, hVg⟩
  case body =>
    rintro l' pre' q' ⟨lv', it', val'⟩ a' V hVs ⟨⟨hIb, hIs⟩, ⟨hm1, hm2⟩, ⟨hx1, hx2⟩, hq⟩ ⟨g, d, rfl, hd, hg⟩ ⟨hpf, hit⟩
    dsimp only at hd hit hg hq hm1 hm2
    subst hd hq
    obtain ⟨_, -, hin, -⟩ := hit
    obtain ⟨v0', v1', v2', v3', v4', _⟩ := five_cells hg
    have hc1 := hx1.cell
    have hc2 := hx2.cell
    have hwf := wf64 hin.2
    have hmk : Hid ((pre' ++ [((lv', it', itV it' d) : Wk)]).map keyW = pre'.map keyW ++ [(lv', it')]) := Lib.hid (by rw [List.map_append]; rfl)
    obtain ⟨hl1, hl2⟩ := hpl.out (pre'.map keyW) (by rw [hmk.out] at hpf; exact (List.prefix_append _ _).trans hpf)
    obtain ⟨V1, hr1, hm1', hg1⟩ := mapOf_put hm1 hwf (by simp; omega)
    obtain ⟨V2, hr2, hm2', hg2⟩ := mapOf_put hm2 hwf (by omega)
    obtain ⟨lt1, lt2⟩ : wA.heap.size + 1 + 1 < V.heap.size ∧ w4.heap.size ≠ wA.heap.size := ⟨hx2.lt, by have := lz.out; omega⟩
    have hkr : Hid (∀ (Vn : World) (b : Nat), V.grownBy Vn (some b) → (b = w4.heap.size ∨ b = wA.heap.size) → (Below w.heap.size w Vn ∧ w6.heap.size ≤ Vn.heap.size) ∧ (Boxed Vn (wA.heap.size + 1) 74 (.map (some w4.heap.size)) ∧ Boxed Vn (wA.heap.size + 1 + 1) 74 (.map (some wA.heap.size))) ∧ Kept (fun k => k = w4.heap.size ∨ k = wA.heap.size) none none V Vn) := Lib.hid fun Vn b hgn hb => by
      refine ⟨⟨hIb.grown hgn hIb.size (fun k e => by cases e; have := lz.out; omega), Nat.le_trans hIs hgn.size⟩, ⟨Boxed.kept hx1 hgn (fun e => by cases e; have := lz.out; omega), Boxed.kept hx2 hgn (fun e => by cases e; have := lz.out; omega)⟩, Kept.row hgn (fun r e => by cases e; exact .inr hb) (fun r e => by cases e)⟩
    have hI : Hid ((Below w.heap.size w V ∧ w6.heap.size ≤ V.heap.size) ∧ (MapOf V w4.heap.size ([a] ++ upsW (pre'.map keyW)) ∧ MapOf V wA.heap.size (lowW (pre'.map keyW))) ∧ Boxed V (wA.heap.size + 1) 74 (.map (some w4.heap.size)) ∧ Boxed V (wA.heap.size + 1 + 1) 74 (.map (some wA.heap.size))) := Lib.hid ⟨⟨hIb, hIs⟩, ⟨hm1, hm2⟩, hx1, hx2⟩
    clear hIb hIs hm1 hm2 hx1 hx2 hg hpf hin hl1 hl2 hwf lt1 hI0
    by_cases hlv : 0 < lv'
    · have he1 : Hid (NdI w w4.heap.size wA.heap.size (wA.heap.size + 1) (wA.heap.size + 1 + 1) w6.heap.size a (pre' ++ [((lv', it', itV it' d) : Wk)], none) V1) := Lib.hid (by
        obtain ⟨e1, e2, _⟩ := hkr.out V1 _ hg1 (.inl rfl)
        obtain ⟨u1, u2⟩ := ups_yes (M := pre'.map keyW) (p := (lv', it')) hlv
        refine ⟨e1, ⟨?_, ?_⟩, e2, rfl⟩
        · show MapOf _ _ ([a] ++ upsW ((pre' ++ [((lv', it', itV it' d) : Wk)]).map keyW))
          rw [hmk.out, u1, ← List.append_assoc]
          exact hm1'
        · show MapOf _ _ (lowW ((pre' ++ [((lv', it', itV it' d) : Wk)]).map keyW))
          rw [hmk.out, u2]
          exact mapOf_kept hI.out.2.1.2 hg1 (fun e => lt2 (Option.some.inj e).symm))
      have hk1 := Lib.hid (hkr.out V1 _ hg1 (.inl rfl)).2.2
      clear hm1' hm2' hg1 hg2 hr2 hI hkr lt2
      gi_wp2_with fail
      exact ⟨none, hk1.out, he1.out⟩
    by_cases hz : it'.2.1 = 0
    · have hzb : (it'.2.1 != 0) = false := by simp [hz]
      have he1 : Hid (NdI w w4.heap.size wA.heap.size (wA.heap.size + 1) (wA.heap.size + 1 + 1) w6.heap.size a (pre' ++ [((lv', it', itV it' d) : Wk)], none) V) := Lib.hid (by
        obtain ⟨u1, u2⟩ := low_no (M := pre'.map keyW) (p := (lv', it')) hlv hz
        refine ⟨hI.out.1, ⟨?_, ?_⟩, hI.out.2.2, rfl⟩
        · show MapOf _ _ ([a] ++ upsW ((pre' ++ [((lv', it', itV it' d) : Wk)]).map keyW))
          rw [hmk.out, u1]
          exact hI.out.2.1.1
        · show MapOf _ _ (lowW ((pre' ++ [((lv', it', itV it' d) : Wk)]).map keyW))
          rw [hmk.out, u2]
          exact hI.out.2.1.2)
      replace hz := Lib.hid hz
      clear hm1' hm2' hg1 hg2 hr1 hr2 hI hkr lt2
      gi_wp2_with fail
      exact ⟨none, Kept.refl _ _ _, he1.out⟩
    · have hzb : (it'.2.1 != 0) = true := by simp [hz]
      have he1 : Hid (NdI w w4.heap.size wA.heap.size (wA.heap.size + 1) (wA.heap.size + 1 + 1) w6.heap.size a (pre' ++ [((lv', it', itV it' d) : Wk)], none) V2) := Lib.hid (by
        obtain ⟨e1, e2, _⟩ := hkr.out V2 _ hg2 (.inr rfl)
        obtain ⟨u1, u2⟩ := low_yes (M := pre'.map keyW) (p := (lv', it')) hlv hz
        refine ⟨e1, ⟨?_, ?_⟩, e2, rfl⟩
        · show MapOf _ _ ([a] ++ upsW ((pre' ++ [((lv', it', itV it' d) : Wk)]).map keyW))
          rw [hmk.out, u1]
          exact mapOf_kept hI.out.2.1.1 hg2 (fun e => lt2 (Option.some.inj e))
        · show MapOf _ _ (lowW ((pre' ++ [((lv', it', itV it' d) : Wk)]).map keyW))
          rw [hmk.out, u2]
          exact hm2')
      have hk1 := Lib.hid (hkr.out V2 _ hg2 (.inr rfl)).2.2
      replace hz := Lib.hid hz
      clear hm1' hm2' hg1 hg2 hr1 hI hkr lt2
      gi_wp2_with fail
      exact ⟨none, hk1.out, he1.out⟩
  case done =>
    rintro xs q' V hVs hE ⟨⟨hb, _⟩, ⟨hm1, hm2⟩, ⟨hx1, hx2⟩, hq⟩ hDV hqV
    obtain ⟨⟨e1, r1⟩, e2, r2⟩ := hend6.out (xs.map keyW) hE
    have hl := hpl.out (xs.map keyW) (by rw [show xs.map keyW = LL from hE]; exact List.prefix_refl _)
    dsimp only at hm1 hm2 hq
    obtain ⟨K1', hK1⟩ : ∃ q, [a] ++ upsW (xs.map keyW) = q := ⟨_, rfl⟩
    obtain ⟨K2', hK2⟩ : ∃ q, lowW (xs.map keyW) = q := ⟨_, rfl⟩
    have hlk1 : K1'.length ≤ 1000000 := by rw [← hK1, List.length_append, List.length_singleton]; omega
    have hlk2 : K2'.length ≤ 1000000 := by rw [← hK2]; omega
    rw [hK1] at hm1 e1 r1
    rw [hK2] at hm2 e2 r2
    have hR1 := Lib.hid (fun W (hW : Below V.heap.size V W) => rising_any w4.heap.size K1' r1 hlk1 W (mapOf_kept hm1 (below_grown hW) (by simp)))
    have hR2 := Lib.hid (fun W (hW : Below V.heap.size V W) => rising_any wA.heap.size K2' r2 hlk2 W (mapOf_kept hm2 (below_grown hW) (by simp)))
    rw [e1] at hR1
    rw [e2] at hR2
    have hc1 := hx1.cell
    have hc2 := hx2.cell
    have hD1 := Lib.hid hDV
    have lD := Lib.hid hVs
    replace hb := Lib.hid hb
    clear hm1 hm2 hx1 e1 e2 r1 r2 hl hlk1 hlk2 hK1 hK2 hDV hqV hVs hI0 hE hq
    have lB := Lib.hid (show wA.heap.size + 1 + 1 < V.drew.heap.size from hx2.lt)
    clear hx2
    gi_wp2_with fail
    refine wpIn_onlyN ?_
    gi_region_with (first
      | (refine ⟨trivial, ?_⟩; gi_at_call 26; refine (callsIn_wide.2 (hR1.out V.drew (Below.refl _ V).drew)).mono ?_; rintro e V1 ⟨U1, d1, rfl, hr1, hb1⟩; have hc3 := (hb1.cell (p := ⟨wA.heap.size + 1 + 1, 0, none⟩) lB.out).trans hc2)
      | (refine ⟨trivial, ?_⟩; gi_at_call 26; refine (callsIn_wide.2 (hR2.out V1 ((Below.refl _ V).drew.trans hb1))).mono ?_; rintro e V2 ⟨U2, d2, rfl, hr2, hb2⟩))
    all_goals
      have hst : Stab (rSl 1 (rK .i64)) := stab_sl (stab_k _)
      have hb12 := (Below.refl V.heap.size V).drew.trans (hb1.trans (hb2.mono hb1.size))
      have hD2 : V2.heap[w6.heap.size]? = some (.deferred (some [])) := (hb12.block _ lD.out).trans hD1.out
      have hgp := grownBy_putObj' V2 w6.heap.size (.deferred none)
      have hw : w.heap.size ≤ V.heap.size := by have := lD.out; have := lz.out; omega
      have n1 := hst.mono (hst.grown (hst.new hr1 (Nat.le_refl _) hb2) hgp (fun q e => by cases e; exact lD.out)) hw
      have n2 := hst.mono (hst.grown hr2 hgp (fun q e => by cases e; exact Nat.lt_of_lt_of_le lD.out hb1.size)) (Nat.le_trans hw hb1.size)
      have n3 := (hb.out.trans (hb12.mono hw)).grown hgp (Nat.le_trans hw hb12.size) (fun k e => by cases e; have := lz.out; omega)
      replace n1 := Lib.hid n1
      replace n2 := Lib.hid n2
      replace n3 := Lib.hid n3
      replace hD2 := Lib.hid hD2
      clear hst hb12 hgp hr1 hr2 hb1 hb2 hc1 hc2 hw
      simp only [onlyN]
      gi_wp2_with fail
      refine ⟨by simp, .inl ⟨_, _, rfl, run_takeDeferred hD2.out, _, results_tmp3 rfl _ _ _, U1, d1, U2, d2, ?_, ?_, ?_, n3.out⟩⟩
      · rw [ndsV, rfsV, if_pos hE0.out, if_pos hE0.out, hE0.out]
        rfl
      · rw [ndsV, if_pos hE0.out]
        exact n1.out
      · rw [rfsV, if_pos hE0.out]
        exact n2.out
  case stop =>
    rintro c pre' q' V hVs hf
    exact hf.elim
end Go.Proofs.YtdaidhbmfocodaaGreat
