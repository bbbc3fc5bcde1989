/-
  Lemmas on the program and on the document's answers, gathered: RmRefT, DrLeave, DrMake, DrRefer, DrRefs, DrRefs2, DrLower, DrGo, DrGo2, RmAlive, RmLaw, DrMk, RmSpoil, DrSpoil, DrSpoil2. Conditions: those that each lemma states.
-/
import Derived.Test.YtmdlgnlfgfhkmaaGreatBnd4
import Derived.StillTailTactics
/-
  The document's answers of layer 8: Taken. Conditions: those that each lemma states.
-/
namespace Go.Proofs.YtmdlgnlfgfhkmaaGreat
open Go.RowKit

/-- Cells that lie there, but not in block g. -/
def Off (g : Nat) (w : World) : Addr → Prop := fun p => p.block < w.heap.size ∧ p.block ≠ g
theorem off_put {g : Nat} {W W1 : World} {p : Addr} {v : Value} (gr : W.grownBy W1 (some g)) (hp : Off g W p) (hc : W.cell? p = some v) : Off g W1 p ∧ W1.cell? p = some v :=
  ⟨⟨Nat.lt_of_lt_of_le hp.1 gr.size, hp.2⟩, (World.cell?_of_block (gr.block _ hp.1 (by simpa using hp.2))).trans hc⟩
theorem off_below {g : Nat} {W W1 : World} {p : Addr} {v : Value} (hb : Below W.heap.size W W1) (hp : Off g W p) (hc : W.cell? p = some v) : Off g W1 p ∧ W1.cell? p = some v :=
  ⟨⟨Nat.lt_of_lt_of_le hp.1 hb.size, hp.2⟩, (hb.cell hp.1).trans hc⟩
theorem off_low {g : Nat} {w W : World} {p : Addr} {v : Value} (hb : Below w.heap.size w W) (hg : w.heap.size ≤ g) (hp : Old w p) (hc : w.cell? p = some v) : Off g W p ∧ W.cell? p = some v :=
  ⟨⟨Nat.lt_of_lt_of_le hp hb.size, fun e => by have h : p.block < w.heap.size := hp; omega⟩, (hb.cell hp).trans hc⟩
theorem off_new {g lo : Nat} {W : World} {p : Addr} {v : Value} (hg : g < lo) (hp : New lo W p) (hc : W.cell? p = some v) : Off g W p ∧ W.cell? p = some v :=
  ⟨⟨hp.2.1, fun e => by have := hp.1; omega⟩, hc⟩
theorem off_old {g : Nat} {W : World} {p : Addr} {v : Value} (hp : Off g W p) (hc : W.cell? p = some v) : Old W p ∧ W.cell? p = some v := ⟨hp.1, hc⟩
theorem off_apart {g : Nat} {w W W' : World} {p : Addr} {v : Value} (hw : w.heap.size ≤ g) (hg : g < W.heap.size) (hs : W.heap.size ≤ W'.heap.size) (hp : Apart w W W' p) (hc : W'.cell? p = some v) : Off g W' p ∧ W'.cell? p = some v :=
  ⟨hp.elim (fun h => ⟨by omega, by omega⟩) (fun h => ⟨h.2, by omega⟩), hc⟩

def tnN (s : Rm) : Int := if freeL s = [] ∨ 4096 ≤ s.1.2.length then -1 else (tkK s : Int)
def tnV (s : Rm) (b : List UInt8) : Rm := if freeL s = [] ∨ 4096 ≤ s.1.2.length then s else (wrD s.1 (tkK s) b, s.2.1.set (tkK s) 1, s.2.2)

set_option maxRecDepth 100000 in
set_option maxHeartbeats 8000000 in
theorem refTakenR_any (v u : Value) (s : Rm) (b : List UInt8) (hm : mayR s = true) (hb128 : b.length = 128) (w : World) (h : Sto (Old w) w v s) (hu : rBy (Old w) w [u] b) :
    Calls Tryz.prog 43 #[v, u] w fun e w' => ∃ A ca B cb N cn L cl, e = .returned (.tuple #[.agg #[.slice A (tnV s b).1.1.length ca, .slice B (tnV s b).1.2.length cb, .slice N (tnV s b).2.1.length cn, .slice L (tnV s b).2.2.length cl], .int .i64 (tnN s)]) ∧
      Sto (Old w') w' (.agg #[.slice A (tnV s b).1.1.length ca, .slice B (tnV s b).1.2.length cb, .slice N (tnV s b).2.1.length cn, .slice L (tnV s b).2.2.length cl]) (tnV s b) ∧ Below w.heap.size w w' := by
  have H0 := Lib.hid h
  have U0 := Lib.hid hu
  obtain ⟨A, ca, B, cb, N, cn, L, cl, w1, rfl, hw1, f1, f2, hsz, hB, H⟩ := box_sto2 h
  obtain ⟨E, ce, rfl, _⟩ := id (rBy_open hu)
  clear h hu
  obtain ⟨k0, k1, k2, k3, _, kg⟩ := four_cells f1
  replace hsz := Lib.hid hsz
  replace f2 := Lib.hid f2
  have hl1 := Lib.hid (mayT_len (mayR_of hm).2.1)
  obtain ⟨M, hM⟩ : ∃ M, (freeL s).length = M := ⟨_, rfl⟩
  go_enter Tryz.func43, Tryz.ntmps43
  go_upto_region 1 with fail
  clear hw1
  go_wp2_with fail
  with_reducible refine (refAllR_any _ s hm _ H.out).mono ?_
  rintro e w2 ⟨u2, rfl, h2, hb2⟩
  obtain ⟨X, xc, rfl, _⟩ := id (rInts_open h2)
  rw [intsN_length, hM] at h2 ⊢
  have F1 := (hb2.block w.heap.size kg).trans f1
  have F2 := (hb2.block (w.heap.size + 1) (by rw [hsz.out]; omega)).trans f2.out
  have B2 := Lib.hid (hB.trans (hb2.mono hB.size))
  have X2 := Lib.hid h2
  have s2 : Hid (w1.heap.size = w.heap.size + 2 ∧ w.heap.size + 2 ≤ w2.heap.size) := Lib.hid ⟨hsz.out, by have := hsz.out; have := hb2.size; omega⟩
  clear k0 k1 k2 k3 kg f1 hb2 h2 H
  obtain ⟨m0, m1, m2, m3, _, mg⟩ := four_cells F1
  by_cases hno : freeL s = [] ∨ 4096 ≤ s.1.2.length
  · have hN : Hid (tnN s = -1) := Lib.hid (by rw [tnN, if_pos hno])
    have hV : Hid (tnV s b = s) := Lib.hid (by rw [tnV, if_pos hno])
    obtain ⟨c0, c1, c2, c3, c4, c5⟩ := four_cells F2
    obtain ⟨W9, hW9, g9, gr9, gs9⟩ := put_four (a' := .slice A s.1.1.length ca) (b' := .slice B s.1.2.length cb) (c' := .slice N s.2.1.length cn) (d' := .slice L s.2.2.length cl) F2
    obtain ⟨n0, n1, n2, n3, _, _⟩ := four_cells g9
    have hB9 := Lib.hid (B2.out.grown gr9 B2.out.size (fun q e => by cases e; omega))
    replace g9 := Lib.hid g9
    replace F2 := Lib.hid F2
    replace F1 := Lib.hid F1
    clear gr9 gs9
    have hfin : ∀ (x : Value), x = .tuple #[.agg #[.slice A s.1.1.length ca, .slice B s.1.2.length cb, .slice N s.2.1.length cn, .slice L s.2.2.length cl], .int .i64 (-1)] → ∃ A ca B cb N cn L cl, Ending.returned x = .returned (.tuple #[.agg #[.slice A (tnV s b).1.1.length ca, .slice B (tnV s b).1.2.length cb, .slice N (tnV s b).2.1.length cn, .slice L (tnV s b).2.2.length cl], .int .i64 (tnN s)]) ∧
      Sto (Old W9) W9 (.agg #[.slice A (tnV s b).1.1.length ca, .slice B (tnV s b).1.2.length cb, .slice N (tnV s b).2.1.length cn, .slice L (tnV s b).2.2.length cl]) (tnV s b) ∧ Below w.heap.size w W9 := by
      rintro x rfl
      rw [hN.out, hV.out]
      exact ⟨A, ca, B, cb, N, cn, L, cl, rfl, H0.out.below hB9.out, hB9.out⟩
    replace hfin := Lib.hid hfin
    by_cases hz : M = 0
    · subst hz
      clear hno
      replace hM := Lib.hid hM
      go_wp2_with fail
      exact bodyPost_ret (v := .tuple #[.agg #[.slice A s.1.1.length ca, .slice B s.1.2.length cb, .slice N s.2.1.length cn, .slice L s.2.2.length cl], .int .i64 (-1)]) (by simp [results, Tryz.results43, go_sem, n0, n1, n2, n3]) rfl (hfin.out _ rfl)
    · have hz2 : ((M : Int) == 0) = false := by rw [beq_eq_false_iff_ne]; omega
      have hw4 : 4096 ≤ s.1.2.length := by
        rcases hno with h | h
        · rw [h] at hM; exact absurd hM.symm hz
        · exact h
      have hw4' : (4096 : Int) ≤ s.1.2.length := by omega
      clear hno
      replace hM := Lib.hid hM
      go_wp2_with fail
      exact bodyPost_ret (v := .tuple #[.agg #[.slice A s.1.1.length ca, .slice B s.1.2.length cb, .slice N s.2.1.length cn, .slice L s.2.2.length cl], .int .i64 (-1)]) (by simp [results, Tryz.results43, go_sem, n0, n1, n2, n3]) rfl (hfin.out _ rfl)
  · obtain ⟨hf, hw4⟩ := not_or.1 hno
    have hE := tk_yes hm hb128 hf (by omega)
    obtain ⟨-, -, -, hfl, h8, h256, -, -, -, -⟩ := tk_ok hE
    obtain ⟨k, hk⟩ : ∃ k, tkK s = k := ⟨_, rfl⟩
    have hN : Hid (tnN s = (k : Int)) := Lib.hid (by rw [tnN, if_neg hno, hk])
    have hV : Hid (tnV s b = (wrD s.1 k b, s.2.1.set k 1, s.2.2)) := Lib.hid (by rw [tnV, if_neg hno, hk])
    have hVf : Hid (FullR (wrD s.1 k b, s.2.1.set k 1, s.2.2)) := Lib.hid (by
      have := full_tk s b
      rwa [(tk_ok hE).2.2.2.2.2.2.2.2.2, hk] at this)
    rw [hk] at hfl h8 h256
    have hw4' : s.1.2.length < 4096 := by omega
    have hxm : 0 < M := by rw [← hM, hfl]; simp
    obtain ⟨xad, rfl, hxl, hxc⟩ : ∃ xad, X = some xad ∧ w1.heap.size ≤ xad.block ∧ w2.cell? xad = some (.int .i64 (k : Int)) := by
      obtain ⟨X', c', e, _, _, hc⟩ := rInts_open X2.out
      simp only [Value.slice.injEq] at e
      obtain ⟨rfl, -, -⟩ := e
      obtain ⟨xad, rfl, hn, hcc, _⟩ := hc 0 (k : Int) (intsN_get0 hfl)
      exact ⟨xad, rfl, by simpa [Addr.add] using hn.1, by simpa [Addr.add] using hcc⟩
    have hxb : xad.block < w2.heap.size := World.block_lt_of_cell? _ _ hxc
    have hz2 : ((M : Int) == 0) = false := by rw [beq_eq_false_iff_ne]; omega
    have hw5 : ¬ (4096 : Int) ≤ s.1.2.length := by omega
    replace hM := Lib.hid hM
    have hxl' := Lib.hid hxl
    have hw4'' := Lib.hid hw4'
    have h256' := Lib.hid h256
    have F1h := Lib.hid F1
    have F2h := Lib.hid F2
    have hxch := Lib.hid hxc
    clear hno hf hw4 hE hfl hk hxl F1 F2
    go_upto_region 4 with fail
    obtain ⟨n1, hn1⟩ : ∃ n1, (wrD s.1 k b).1.length = n1 := ⟨_, rfl⟩
    obtain ⟨n2, hn2⟩ : ∃ n2, (wrD s.1 k b).2.length = n2 := ⟨_, rfl⟩
    refine wp_region_tails (by kernel_rfl) 8 (fun W => Below w2.heap.size w2 W) (fun i => match i with
        | 6 => some (fun v W => ∃ P p Q r, v = .agg #[.slice P n1 p, .slice Q n2 r] ∧ Dsk (Off w.heap.size W) W (.agg #[.slice P n1 p, .slice Q n2 r]) (wrD s.1 k b))
        | _ => none) (fun _ => none) (by decide) (by kernel_rfl) (by kernel_rfl) (Below.refl _ _).drew (fun w w' h hb => h.trans (hb.mono h.size)) ?tst ?_
    case tst =>
      intro j φ x W W' hp hx hb
      match j, hp with
      | 6, hp =>
        cases hp
        obtain ⟨P, p, Q, r, e, hd⟩ := hx
        exact ⟨P, p, Q, r, e, hd.map fun _ _ hp hc => off_below hb hp hc⟩
    simp only [List.take_succ_cons, List.take_zero, List.drop_succ_cons, List.drop_zero]
    repeat (first
      | (refine wpAs_skip rfl ?_; simp only [Act.put, List.setIfInBounds_toArray, List.set_cons_zero, List.set_cons_succ])
      | (refine wpAs_pure (v := ?_) rfl rfl ?_ ?_; rotate_left; (intro W hC hE; clear hE; (have z0 := (hC.cell (p := ⟨w.heap.size, 0, none⟩) mg).trans m0; have z1 := (hC.cell (p := ⟨w.heap.size, 1, none⟩) mg).trans m1; have zx := (hC.cell (p := xad) hxb).trans hxch.out); clear hC; go_simp; done); simp only [Act.put, List.setIfInBounds_toArray, List.set_cons_zero, List.set_cons_succ])
      | (refine wpAs_pure (v := ?_) rfl rfl ?_ ?_; rotate_left; (intro W hC hE; clear hE; (have z0 := (hC.cell (p := ⟨w.heap.size, 0, none⟩) mg).trans m0; have z1 := (hC.cell (p := ⟨w.heap.size, 1, none⟩) mg).trans m1; have zx := (hC.cell (p := xad) hxb).trans hxch.out); clear hC; go_simp; with_reducible rfl); simp only [Act.put, List.setIfInBounds_toArray, List.set_cons_zero, List.set_cons_succ]))
    refine wpAs_act rfl rfl ?_ ?_
    · intro W hC hE
      clear hE
      refine does_enter (f := 62) (args := #[.agg #[.slice A s.1.1.length ca, .slice B s.1.2.length cb], .int .i64 (k : Int), .slice E b.length ce]) ?_ ?_
      · go_simp
      · refine (refWith_in _ _ s.1 k b w W (B2.out.trans (hC.mono B2.out.size)) H0.out.parts.1 U0.out hw4''.out h256'.out).mono ?_
        rintro e W' ⟨x, rfl, hx, hb⟩
        obtain ⟨P, p, Q, r, rfl, _⟩ := id hx.open
        rw [hn1, hn2] at hx
        rw [hn1, hn2]
        exact ⟨_, rfl, ⟨P, p, Q, r, rfl, hx.map fun _ _ hp hc => off_apart (Nat.le_refl _) (by have := s2.out; have := hC.size; omega) hb.size hp hc⟩, hb⟩
    simp only [Act.put, List.setIfInBounds_toArray, List.set_cons_zero, List.set_cons_succ, envAdd]
    intro x26
    repeat (first
      | (refine wpAs_skip rfl ?_; simp only [Act.put, List.setIfInBounds_toArray, List.set_cons_zero, List.set_cons_succ])
      | (refine wpAs_pure (v := ?_) rfl rfl ?_ ?_; rotate_left; (intro W hC hE; clear hE; skip; clear hC; go_simp; done); simp only [Act.put, List.setIfInBounds_toArray, List.set_cons_zero, List.set_cons_succ])
      | (refine wpAs_pure (v := ?_) rfl rfl ?_ ?_; rotate_left; (intro W hC hE; clear hE; skip; clear hC; go_simp; with_reducible rfl); simp only [Act.put, List.setIfInBounds_toArray, List.set_cons_zero, List.set_cons_succ]))
    refine wpAs_end fun W hC hE => ?_
    obtain ⟨⟨P, p, Q, r, rfl, hd⟩, _⟩ := hE
    have bW := (hC.block w.heap.size mg).trans F1h.out
    obtain ⟨c0, c1, c2, c3, c4, c5⟩ := four_cells bW
    obtain ⟨W4, hW4, g4, gr4, gs4⟩ := put_duo (a' := .slice P n1 p) (b' := .slice Q n2 r) bW
    have hd4 := Lib.hid (hd.map fun _ _ hp hc => off_put gr4 hp hc)
    have F4 := Lib.hid ((gr4.block (w.heap.size + 1) (by have := s2.out; have := hC.size; omega) (by simp)).trans ((hC.block (w.heap.size + 1) (by have := s2.out; omega)).trans F2h.out))
    have B4 := Lib.hid ((B2.out.trans (hC.mono B2.out.size)).grown gr4 (Nat.le_trans B2.out.size hC.size) (fun q e => by cases e; omega))
    have xc4 := Lib.hid (((World.cell?_of_block (gr4.block xad.block (by have := hC.size; omega) (by simp; have := hxl'.out; have := s2.out; omega)) : W4.cell? xad = W.cell? xad)).trans ((hC.cell (p := xad) hxb).trans hxch.out))
    have s4 : Hid (w.heap.size + 2 ≤ W4.heap.size ∧ xad.block < W4.heap.size) := Lib.hid ⟨by have := s2.out; have := hC.size; omega, by have := hC.size; omega⟩
    have G4 := Lib.hid g4
    replace bW := Lib.hid bW
    replace g4 := Lib.hid g4
    clear hd gr4 gs4 hC m0 m1 m2 m3 mg
    go_upto_region 5 with fail
    clear hW4 c0 c1 c2 c3 c4 c5
    obtain ⟨w4, rfl⟩ : ∃ w4 : World, w4 = W4 := ⟨_, rfl⟩
    obtain ⟨m0, m1, m2, m3, _, mg⟩ := four_cells G4.out
    refine wp_region_tails (by kernel_rfl) 7 (fun W => Below w4.heap.size w4 W) (fun i => match i with
        | 5 => some (fun v W => ∃ Y y, v = .slice Y 256 y ∧ rBy (Off w.heap.size W) W [.slice Y 256 y] (s.2.1.set k 1))
        | _ => none) (fun _ => none) (by decide) (by kernel_rfl) (by kernel_rfl) (Below.refl _ _).drew (fun w w' h hb => h.trans (hb.mono h.size)) ?tst ?_
    case tst =>
      intro j φ x W W' hp hx hb
      match j, hp with
      | 5, hp =>
        cases hp
        obtain ⟨Y, y, e, hy⟩ := hx
        exact ⟨Y, y, e, stab_by _ _ _ _ _ _ (fun _ _ hp hc => off_below hb hp hc) hy⟩
    simp only [List.take_succ_cons, List.take_zero, List.drop_succ_cons, List.drop_zero]
    repeat (first
      | (refine wpAs_skip rfl ?_; simp only [Act.put, List.setIfInBounds_toArray, List.set_cons_zero, List.set_cons_succ])
      | (refine wpAs_pure (v := ?_) rfl rfl ?_ ?_; rotate_left; (intro W hC hE; clear hE; (have z2 := (hC.cell (p := ⟨w.heap.size, 2, none⟩) mg).trans m2; have zx := (hC.cell (p := xad) s4.out.2).trans xc4.out); clear hC; go_simp; done); simp only [Act.put, List.setIfInBounds_toArray, List.set_cons_zero, List.set_cons_succ])
      | (refine wpAs_pure (v := ?_) rfl rfl ?_ ?_; rotate_left; (intro W hC hE; clear hE; (have z2 := (hC.cell (p := ⟨w.heap.size, 2, none⟩) mg).trans m2; have zx := (hC.cell (p := xad) s4.out.2).trans xc4.out); clear hC; go_simp; with_reducible rfl); simp only [Act.put, List.setIfInBounds_toArray, List.set_cons_zero, List.set_cons_succ]))
    refine wpAs_act rfl rfl ?_ ?_
    · intro W hC hE
      clear hE
      refine does_enter (f := 28) (args := #[.slice N s.2.1.length cn, .int .i64 (k : Int), .int .u8 1]) ?_ ?_
      · go_simp
      · refine (refWithT_any _ s.2.1 k 1 1 rfl (by rw [hl1.out]; exact h256'.out) (by rw [hl1.out]; omega) W (H0.out.below (B4.out.trans (hC.mono B4.out.size))).parts.2.1).mono ?_
        rintro e W' ⟨x, rfl, hx, hb⟩
        obtain ⟨Y, y, rfl, _⟩ := id (rBy_open hx)
        rw [List.length_set, hl1.out] at hx
        rw [List.length_set, hl1.out]
        exact ⟨_, rfl, ⟨Y, y, rfl, stab_by _ _ _ _ _ _ (fun _ _ hp hc => off_new (by have := s4.out; have := hC.size; omega) hp hc) hx⟩, hb⟩
    simp only [Act.put, List.setIfInBounds_toArray, List.set_cons_zero, List.set_cons_succ, envAdd]
    intro x33
    repeat (first
      | (refine wpAs_skip rfl ?_; simp only [Act.put, List.setIfInBounds_toArray, List.set_cons_zero, List.set_cons_succ])
      | (refine wpAs_pure (v := ?_) rfl rfl ?_ ?_; rotate_left; (intro W hC hE; clear hE; skip; clear hC; go_simp; done); simp only [Act.put, List.setIfInBounds_toArray, List.set_cons_zero, List.set_cons_succ])
      | (refine wpAs_pure (v := ?_) rfl rfl ?_ ?_; rotate_left; (intro W hC hE; clear hE; skip; clear hC; go_simp; with_reducible rfl); simp only [Act.put, List.setIfInBounds_toArray, List.set_cons_zero, List.set_cons_succ]))
    refine wpAs_end fun W hC hE => ?_
    obtain ⟨⟨Y, y, rfl, hy⟩, _⟩ := hE
    have bW := (hC.block w.heap.size mg).trans G4.out
    obtain ⟨c0, c1, c2, c3, c4, c5⟩ := four_cells bW
    obtain ⟨W5, hW5, g5, gr5, gs5⟩ := put_third (c' := .slice Y 256 y) bW
    have hy5 := Lib.hid (stab_by _ _ _ _ _ _ (fun _ _ hp hc => off_put gr5 hp hc) hy)
    have hd5 := Lib.hid ((hd4.out.map fun _ _ hp hc => off_below hC hp hc).map fun _ _ hp hc => off_put gr5 hp hc)
    have F5 := (gr5.block (w.heap.size + 1) (by have := s4.out; have := hC.size; omega) (by simp)).trans ((hC.block (w.heap.size + 1) (by have := s4.out; omega)).trans F4.out)
    have B5 := Lib.hid ((B4.out.trans (hC.mono B4.out.size)).grown gr5 (Nat.le_trans B4.out.size hC.size) (fun q e => by cases e; omega))
    have xc5 := ((World.cell?_of_block (gr5.block xad.block (by have := s4.out; have := hC.size; omega) (by simp; have := hxl'.out; have := s2.out; omega)) : W5.cell? xad = W.cell? xad)).trans ((hC.cell (p := xad) s4.out.2).trans xc4.out)
    have G5 := Lib.hid g5
    replace bW := Lib.hid bW
    replace g5 := Lib.hid g5
    clear hy gr5 gs5 hC m0 m1 m2 m3 mg
    go_upto_region 6 with fail
    clear hW5 c0 c1 c2 c3 c4 c5
    obtain ⟨w5, rfl⟩ : ∃ w5 : World, w5 = W5 := ⟨_, rfl⟩
    obtain ⟨m0, m1, m2, m3, _, mg⟩ := four_cells G5.out
    obtain ⟨c0, c1, c2, c3, c4, c5⟩ := four_cells F5
    obtain ⟨W9, hW9, g9, gr9, gs9⟩ := put_four (a' := .slice P n1 p) (b' := .slice Q n2 r) (c' := .slice Y 256 y) (d' := .slice L s.2.2.length cl) F5
    obtain ⟨o0, o1, o2, o3, _, _⟩ := four_cells g9
    have hB9 := Lib.hid (B5.out.grown gr9 B5.out.size (fun q e => by cases e; omega))
    have hx9 : W9.cell? xad = some (.int .i64 (k : Int)) := (World.cell?_of_block (gr9.block xad.block (World.block_lt_of_cell? _ _ xc5) (by simp; have := hxl'.out; have := s2.out; omega))).trans xc5
    have hs9 : Hid (Sto (Old W9) W9 (.agg #[.slice P n1 p, .slice Q n2 r, .slice Y 256 y, .slice L s.2.2.length cl]) (wrD s.1 k b, s.2.1.set k 1, s.2.2)) := Lib.hid (by
      have h5 : Sto (Old w5) w5 (.agg #[.slice P n1 p, .slice Q n2 r, .slice Y 256 y, .slice L s.2.2.length cl]) (wrD s.1 k b, s.2.1.set k 1, s.2.2) :=
        Sto.mk (hd5.out.map fun _ _ hp hc => off_old hp hc) (stab_by _ _ _ _ _ _ (fun _ _ hp hc => off_old hp hc) hy5.out) (H0.out.below B5.out).parts.2.2
      exact sto_put_zero h5 hVf.out F5 (by simp) gr9)
    rw [← hW9] at hx9
    have hW := Lib.hid hW9
    have hlen : Hid ((wrD s.1 k b).1.length = n1 ∧ (wrD s.1 k b).2.length = n2 ∧ (s.2.1.set k 1).length = 256) := Lib.hid ⟨hn1, hn2, by rw [List.length_set]; exact hl1.out⟩
    replace g9 := Lib.hid g9
    replace F5 := Lib.hid F5
    clear hW9 gr9 gs9 hn1 hn2
    go_region
    all_goals
      (go_wp2_with fail
       try rw [hW.out]
       have o0' : (W9.drew).cell? ⟨w.heap.size + 1, 0, none⟩ = some (.slice P n1 p) := o0
       have o1' : (W9.drew).cell? ⟨w.heap.size + 1, 1, none⟩ = some (.slice Q n2 r) := o1
       have o2' : (W9.drew).cell? ⟨w.heap.size + 1, 2, none⟩ = some (.slice Y 256 y) := o2
       have o3' : (W9.drew).cell? ⟨w.heap.size + 1, 3, none⟩ = some (.slice L s.2.2.length cl) := o3
       refine bodyPost_ret (v := .tuple #[.agg #[.slice P n1 p, .slice Q n2 r, .slice Y 256 y, .slice L s.2.2.length cl], .int .i64 (k : Int)]) (by simp [results, Tryz.results43, go_sem, o0', o1', o2', o3']) rfl ?_
       rw [hN.out, hV.out]
       show ∃ A ca B cb N cn L cl, _ = Ending.returned (.tuple #[.agg #[.slice A (wrD s.1 k b).1.length ca, .slice B (wrD s.1 k b).2.length cb, .slice N (s.2.1.set k 1).length cn, .slice L s.2.2.length cl], .int .i64 (k : Int)]) ∧ Sto _ _ (.agg #[.slice A (wrD s.1 k b).1.length ca, .slice B (wrD s.1 k b).2.length cb, .slice N (s.2.1.set k 1).length cn, .slice L s.2.2.length cl]) (wrD s.1 k b, s.2.1.set k 1, s.2.2) ∧ _
       rw [hlen.out.1, hlen.out.2.1, hlen.out.2.2]
       exact ⟨P, p, Q, r, Y, y, L, cl, rfl, hs9.out.below (Below.refl _ _).drew, hB9.out.trans ((Below.refl _ _).drew)⟩)
end Go.Proofs.YtmdlgnlfgfhkmaaGreat

/-
  The document's answers of layer 9: asked, Left, Leave, Loose. Conditions: those that each lemma states.
-/
namespace Go.Proofs.YtmdlgnlfgfhkmaaGreat
open Go.RowKit

set_option maxRecDepth 100000 in
set_option maxHeartbeats 4000000 in
theorem refAsked9_any (v : Value) (s : Rm) (n : Int) (w : World) (h : Sto (Old w) w v s) : Calls Tryz.prog 26 #[v, .int .i64 n] w fun e w' => e = .returned (.int .i64 (asE s n)) ∧ Below w.heap.size w w' := by
  obtain ⟨A, ca, B, cb, N, cn, L, cl, w1, rfl, hw1, f, hsz, hB, _, NN, _⟩ := box_sto h
  have H := Lib.hid (h.below hB)
  clear h
  obtain ⟨k0, k1, k2, k3, _, kg⟩ := four_cells f
  replace hsz := Lib.hid hsz
  rcases as_ways s n with ⟨hm, he⟩ | ⟨hm, hn, he⟩ | ⟨k, hm, rfl, h8, h256, hx, he⟩ | ⟨k, hm, rfl, h8, h256, hx, he⟩
  · replace he := Lib.hid he
    go_enter Tryz.func26, Tryz.ntmps26
    go_upto_region 1 with fail
    clear hw1
    go_wp2_with fail
    with_reducible refine (refMayR_any _ s _ H.out).mono ?_
    rintro e w2 ⟨rfl, hb2⟩
    rw [hm]
    replace hb2 := Lib.hid (hB.trans (hb2.mono hB.size))
    go_wp2_with fail
    go_ret
    exact ⟨ret_int he.out.symm, hb2.out⟩
  · replace he := Lib.hid he
    by_cases h8 : n < 8
    · clear hn
      go_enter Tryz.func26, Tryz.ntmps26
      go_upto_region 1 with fail
      clear hw1
      go_wp2_with fail
      with_reducible refine (refMayR_any _ s _ H.out).mono ?_
      rintro e w2 ⟨rfl, hb2⟩
      rw [hm]
      replace hb2 := Lib.hid (hB.trans (hb2.mono hB.size))
      go_wp2_with fail
      go_ret
      exact ⟨ret_int he.out.symm, hb2.out⟩
    · have h9 : 256 ≤ n := by omega
      clear hn
      go_enter Tryz.func26, Tryz.ntmps26
      go_upto_region 1 with fail
      clear hw1
      go_wp2_with fail
      with_reducible refine (refMayR_any _ s _ H.out).mono ?_
      rintro e w2 ⟨rfl, hb2⟩
      rw [hm]
      replace hb2 := Lib.hid (hB.trans (hb2.mono hB.size))
      go_wp2_with fail
      go_ret
      exact ⟨ret_int he.out.symm, hb2.out⟩
  all_goals
    replace he := Lib.hid he
    have hlen := mayT_len (mayR_of hm).2.1
    obtain ⟨A', c', e2, l1, m1, hby⟩ := rBy_byt (B := w1.heap.size) (fun _ h => h) NN.out
    cases e2
    obtain ⟨ad, rfl, hbk, hc⟩ := hby (by omega)
    have hcell := hc k (by omega)
    replace hbk : (ad.add k).block < w1.heap.size := by rw [add_block]; exact hbk
    obtain ⟨x, hx2⟩ : ∃ x, s.2.1[k]?.getD 0 = x := ⟨_, rfl⟩
    rw [hx2] at hcell hx
    have hlt : k < s.2.1.length := by omega
    first
      | have t0 := byte_same (y := 0) (q := 0) rfl hx
      | have t0 := byte_unlike (y := 0) (q := 0) rfl hx
    have i1 : ¬ (k : Int) < 8 := by omega
    have i2 : ¬ 256 ≤ (k : Int) := by omega
    replace hx2 := Lib.hid hx2
    replace hx := Lib.hid hx
    replace hlen := Lib.hid hlen
    clear hc hby
    go_enter Tryz.func26, Tryz.ntmps26
    go_upto_region 1 with fail
    clear hw1
    go_wp2_with fail
    with_reducible refine (refMayR_any _ s _ H.out).mono ?_
    rintro e w2 ⟨rfl, hb2⟩
    rw [hm]
    replace k2 := (hb2.cell (p := ⟨w.heap.size, 2, none⟩) kg).trans k2
    replace hcell := (hb2.cell hbk).trans hcell
    replace hb2 := Lib.hid (hB.trans (hb2.mono hB.size))
    go_wp2_with fail
    go_ret
    exact ⟨ret_int he.out.symm, hb2.out⟩

/-- A store behind a node that is left; nothing, if it can't be. -/
noncomputable def lfR (s : Rm) (k : Nat) : Rm := match lfO s.1 s.2.1 k with
  | some t => (s.1, t, s.2.2)
  | none => emptyR
theorem lfR_some {s : Rm} {k : Nat} {t : List UInt8} (h : lfO s.1 s.2.1 k = some t) : lfR s k = (s.1, t, s.2.2) := by rw [lfR, h]
theorem lfR_none {s : Rm} {k : Nat} (h : lfO s.1 s.2.1 k = none) : lfR s k = emptyR := by rw [lfR, h]
set_option maxRecDepth 100000 in
set_option maxHeartbeats 8000000 in
theorem refLeft9_any (v : Value) (s : Rm) (k : Nat) (hm : mayR s = true) (h8 : 8 ≤ k) (h256 : k < 256) (w : World) (h : Sto (Old w) w v s) :
    Calls Tryz.prog 27 #[v, .int .i64 k] w fun e w' => ∃ t, e = .returned (.tuple #[t, .bool (lfO s.1 s.2.1 k).isSome]) ∧ Sto (Old w') w' t (lfR s k) ∧ Below w.heap.size w w' := by
  have H0 := Lib.hid h
  obtain ⟨A, ca, B, cb, N, cn, L, cl, w1, rfl, hw1, f1, f2, hsz, hB, H⟩ := box_sto2 h
  clear h
  obtain ⟨k0, k1, k2, k3, _, kg⟩ := four_cells f1
  replace hsz := Lib.hid hsz
  replace f2 := Lib.hid f2
  have hL := Lib.hid (left_any s hm _ _ s.2.1 k w1 H.out H.out.parts.2.1 (LeT.refl _) h8 h256)
  have hfu := Lib.hid (full_rm hm)
  cases hf : lfO s.1 s.2.1 k with
  | none =>
    rw [hf] at hL
    have hV := Lib.hid (lfR_none hf)
    clear hf hm
    go_enter Tryz.func27, Tryz.ntmps27
    go_upto_region 1 with fail
    clear hw1
    go_wp2_with fail
    with_reducible refine hL.out.mono ?_
    rintro e w2 ⟨X, xc, rfl, _, hb2⟩
    have F2 := (hb2.block (w.heap.size + 1) (by rw [hsz.out]; omega)).trans f2.out
    replace hb2 := Lib.hid (hB.trans (hb2.mono hB.size))
    clear hL k0 k1 k2 k3
    obtain ⟨k0, k1, k2, k3, k4, k5⟩ := four_cells F2
    obtain ⟨W9, hW9, g9, gr9, gs9⟩ := put_four (a' := .slice none 0 0) (b' := .slice none 0 0) (c' := .slice none 0 0) (d' := .slice none 0 0) F2
    obtain ⟨n0, n1, n2, n3, _, _⟩ := four_cells g9
    have hB9 := Lib.hid ((hb2).out.grown gr9 (hb2).out.size (fun q e => by cases e; omega))
    replace g9 := Lib.hid g9
    replace F2 := Lib.hid F2
    clear gr9 gs9
    go_wp2_with fail
    refine bodyPost_ret (v := .tuple #[.agg #[.slice none 0 0, .slice none 0 0, .slice none 0 0, .slice none 0 0], .bool false]) (by simp [results, Tryz.results27, go_sem, n0, n1, n2, n3]) rfl ?_
    rw [hV.out]
    exact ⟨_, rfl, sto_empty _ _, hB9.out⟩
  | some T =>
    rw [hf] at hL
    have hV := Lib.hid (lfR_some hf)
    clear hf hm
    go_enter Tryz.func27, Tryz.ntmps27
    go_upto_region 1 with fail
    clear hw1
    go_wp2_with fail
    with_reducible refine hL.out.mono ?_
    rintro e w2 ⟨X, xc, rfl, hx, hb2⟩
    replace hx : rBy (New w1.heap.size w2) w2 [.slice X T.length xc] T := hx
    have G2 := (hb2.block w.heap.size kg).trans f1
    have F2 := Lib.hid ((hb2.block (w.heap.size + 1) (by rw [hsz.out]; omega)).trans f2.out)
    obtain ⟨m0, m1, m2, m3, mf, mg⟩ := four_cells G2
    obtain ⟨W5, hW5, g5, gr5, gs5⟩ := put_third (c' := .slice X T.length xc) G2
    have hx5 : Hid (rBy (New w1.heap.size W5) W5 [.slice X T.length xc] T) := Lib.hid (stab_by.grown hx gr5 (fun q e => by cases e; exact kg))
    have F5 := (gr5.block (w.heap.size + 1) (by have := hb2.size; have := hsz.out; omega) (by simp)).trans F2.out
    have B5 := Lib.hid ((hB.trans (hb2.mono hB.size)).grown gr5 (hB.trans (hb2.mono hB.size)).size (fun q e => by cases e; omega))
    have G5 := Lib.hid g5
    replace G2 := Lib.hid G2
    clear hL k0 k1 k2 k3 hx hb2 g5 gr5 gs5 f1
    go_upto_region 5 with fail
    clear hW5 m0 m1 m2 m3 mf mg
    obtain ⟨w5, rfl⟩ : ∃ w5 : World, w5 = W5 := ⟨_, rfl⟩
    obtain ⟨m0, m1, m2, m3, _, mg⟩ := four_cells G5.out
    obtain ⟨c0, c1, c2, c3, c4, c5⟩ := four_cells F5
    obtain ⟨W9, hW9, g9, gr9, gs9⟩ := put_four (a' := .slice A s.1.1.length ca) (b' := .slice B s.1.2.length cb) (c' := .slice X T.length xc) (d' := .slice L s.2.2.length cl) F5
    obtain ⟨o0, o1, o2, o3, _, _⟩ := four_cells g9
    have hB9 := Lib.hid (B5.out.grown gr9 B5.out.size (fun q e => by cases e; omega))
    have hs9 : Hid (Sto (Old W9) W9 (.agg #[.slice A s.1.1.length ca, .slice B s.1.2.length cb, .slice X T.length xc, .slice L s.2.2.length cl]) (s.1, T, s.2.2)) := Lib.hid (by
      have h5 : Sto (Old w5) w5 (.agg #[.slice A s.1.1.length ca, .slice B s.1.2.length cb, .slice X T.length xc, .slice L s.2.2.length cl]) (s.1, T, s.2.2) :=
        Sto.mk (H0.out.below B5.out).parts.1 (stab_by.drop hx5.out) (H0.out.below B5.out).parts.2.2
      exact sto_put_zero h5 hfu.out F5 (by simp) gr9)
    replace g9 := Lib.hid g9
    replace F5 := Lib.hid F5
    clear gr9 gs9
    go_wp2_with fail
    refine bodyPost_ret (v := .tuple #[.agg #[.slice A s.1.1.length ca, .slice B s.1.2.length cb, .slice X T.length xc, .slice L s.2.2.length cl], .bool true]) (by simp [results, Tryz.results27, go_sem, o0, o1, o2, o3]) rfl ?_
    rw [hV.out]
    exact ⟨_, rfl, hs9.out, hB9.out⟩
theorem full_lf {s : Rm} {k : Nat} (hm : mayR s = true) : FullR (lfR s k) := by
  cases h : lfO s.1 s.2.1 k with
  | none => rw [lfR_none h]; exact full_empty
  | some t => rw [lfR_some h]; exact (full_rm hm : FullR s)
set_option maxRecDepth 100000 in
set_option maxHeartbeats 8000000 in
theorem refLeave9_any (v : Value) (s : Rm) (n : Int) (w : World) (h : Sto (Old w) w v s) :
    Calls Tryz.prog 10 #[v, .int .i64 n] w fun e w' => ∃ t, e = .returned (.tuple #[t, .int .i64 (lvE s n)]) ∧ Sto (Old w') w' t (lvV s n) ∧ Below w.heap.size w w' := by
  obtain ⟨A, ca, B, cb, N, cn, L, cl, w1, rfl, hw1, f1, f2, hsz, hB, H⟩ := box_sto2 h
  clear h
  obtain ⟨k0, k1, k2, k3, _, kg⟩ := four_cells f1
  replace hsz := Lib.hid hsz
  replace f2 := Lib.hid f2
  rcases lv_ways s n with ⟨ha, he, hV⟩ | ⟨k, ha, rfl, hm, h8, h256, _, hf, he, hV⟩ | ⟨k, u, ha, rfl, hm, h8, h256, _, hf, he, hV⟩
  · obtain ⟨q, hq⟩ : ∃ q, asE s n = q := ⟨_, rfl⟩
    have hq1 : (q != 0) = true := by rw [← hq]; simpa using ha
    rw [hq] at he
    replace hq := Lib.hid hq
    replace he := Lib.hid he
    replace hV := Lib.hid hV
    clear ha
    go_enter Tryz.func10, Tryz.ntmps10
    go_upto_region 1 with fail
    clear hw1
    go_wp2_with fail
    with_reducible refine (refAsked9_any _ s n _ H.out).mono ?_
    rintro e w2 ⟨rfl, hb2⟩
    rw [hq.out]
    have F2 := (hb2.block (w.heap.size + 1) (by rw [hsz.out]; omega)).trans f2.out
    replace hb2 := Lib.hid (hB.trans (hb2.mono hB.size))
    clear k0 k1 k2 k3
    obtain ⟨k0, k1, k2, k3, k4, k5⟩ := four_cells F2
    obtain ⟨W9, hW9, g9, gr9, gs9⟩ := put_four (a' := .slice none 0 0) (b' := .slice none 0 0) (c' := .slice none 0 0) (d' := .slice none 0 0) F2
    obtain ⟨n0, n1, n2, n3, _, _⟩ := four_cells g9
    have hB9 := Lib.hid ((hb2).out.grown gr9 (hb2).out.size (fun q e => by cases e; omega))
    replace g9 := Lib.hid g9
    replace F2 := Lib.hid F2
    clear gr9 gs9
    go_wp2_with fail
    refine bodyPost_ret (v := .tuple #[.agg #[.slice none 0 0, .slice none 0 0, .slice none 0 0, .slice none 0 0], .int .i64 q]) (by simp [results, Tryz.results10, go_sem, n0, n1, n2, n3]) rfl ?_
    rw [hV.out, he.out]
    exact ⟨_, rfl, sto_empty _ _, hB9.out⟩
  · have hf' : (lfO s.1 s.2.1 k).isSome = false := by rw [hf]; rfl
    clear hf
    replace he := Lib.hid he
    replace hf' := Lib.hid hf'
    have hax := Lib.hid ha
    replace hV := Lib.hid hV
    clear ha
    go_enter Tryz.func10, Tryz.ntmps10
    go_upto_region 1 with fail
    clear hw1
    go_wp2_with fail
    with_reducible refine (refAsked9_any _ s (k : Int) _ H.out).mono ?_
    rintro e w2 ⟨rfl, hb2⟩
    rw [hax.out]
    have G2 := (hb2.block w.heap.size kg).trans f1
    have F2 := Lib.hid ((hb2.block (w.heap.size + 1) (by rw [hsz.out]; omega)).trans f2.out)
    obtain ⟨m0, m1, m2, m3, mf, mg⟩ := four_cells G2
    have H2 := Lib.hid (H.out.below hb2)
    have s2 : Hid (w.heap.size + 2 ≤ w2.heap.size) := Lib.hid (by have := hb2.size; have := hsz.out; omega)
    replace hb2 := Lib.hid (hB.trans (hb2.mono hB.size))
    replace G2 := Lib.hid G2
    clear k0 k1 k2 k3 kg f1 hB mf
    go_wp2_with fail
    with_reducible refine (refLeft9_any _ s k hm h8 h256 _ H2.out).mono ?_
    rintro e w3 ⟨t, rfl, ht, hb3⟩
    rw [hf'.out]
    obtain ⟨R, hR⟩ : ∃ R, lfR s k = R := ⟨_, rfl⟩
    rw [hR] at ht
    obtain ⟨P, p, Q, q, R1, r1, K, k9, rfl, _⟩ := id ht.open
    obtain ⟨w4, hw4, f4, hs4, hb4⟩ := box_4 w3 (.slice P R.1.1.length p) (.slice Q R.1.2.length q) (.slice R1 R.2.1.length r1) (.slice K R.2.2.length k9) 28
    have F4 := (hb4.block (w.heap.size + 1) (by have := s2.out; have := hb3.size; omega)).trans ((hb3.block (w.heap.size + 1) (by have := s2.out; omega)).trans F2.out)
    have T4 := Lib.hid (ht.below hb4)
    have B4 := Lib.hid (hb2.out.trans ((hb3.trans (hb4.mono hb3.size)).mono hb2.out.size))
    replace hR := Lib.hid hR
    replace hs4 := Lib.hid hs4
    have F4h := Lib.hid F4
    clear ht hb3 hb4 m0 m1 m2 m3 mg F4
    go_upto_region 5 with fail
    clear hw4
    obtain ⟨j0, j1, j2, j3, _, jg⟩ := four_cells f4
    replace f4 := Lib.hid f4
    clear j0 j1 j2 j3
    have F5 := F4h.out
    obtain ⟨k0, k1, k2, k3, k4, k5⟩ := four_cells F5
    obtain ⟨W9, hW9, g9, gr9, gs9⟩ := put_four (a' := .slice none 0 0) (b' := .slice none 0 0) (c' := .slice none 0 0) (d' := .slice none 0 0) F5
    obtain ⟨n0, n1, n2, n3, _, _⟩ := four_cells g9
    have hB9 := Lib.hid ((B4).out.grown gr9 (B4).out.size (fun q e => by cases e; omega))
    replace g9 := Lib.hid g9
    replace F5 := Lib.hid F5
    clear gr9 gs9
    go_wp2_with fail
    refine bodyPost_ret (v := .tuple #[.agg #[.slice none 0 0, .slice none 0 0, .slice none 0 0, .slice none 0 0], .int .i64 8]) (by simp [results, Tryz.results10, go_sem, n0, n1, n2, n3]) rfl ?_
    rw [hV.out, he.out]
    exact ⟨_, rfl, sto_empty _ _, hB9.out⟩
  · have hf' : (lfO s.1 s.2.1 k).isSome = true := by rw [hf]; rfl
    have hlr := Lib.hid (lfR_some hf)
    have hfu := Lib.hid (full_lf (k := k) hm)
    clear hf
    replace he := Lib.hid he
    replace hf' := Lib.hid hf'
    have hax := Lib.hid ha
    replace hV := Lib.hid hV
    clear ha
    go_enter Tryz.func10, Tryz.ntmps10
    go_upto_region 1 with fail
    clear hw1
    go_wp2_with fail
    with_reducible refine (refAsked9_any _ s (k : Int) _ H.out).mono ?_
    rintro e w2 ⟨rfl, hb2⟩
    rw [hax.out]
    have G2 := (hb2.block w.heap.size kg).trans f1
    have F2 := Lib.hid ((hb2.block (w.heap.size + 1) (by rw [hsz.out]; omega)).trans f2.out)
    obtain ⟨m0, m1, m2, m3, mf, mg⟩ := four_cells G2
    have H2 := Lib.hid (H.out.below hb2)
    have s2 : Hid (w.heap.size + 2 ≤ w2.heap.size) := Lib.hid (by have := hb2.size; have := hsz.out; omega)
    replace hb2 := Lib.hid (hB.trans (hb2.mono hB.size))
    replace G2 := Lib.hid G2
    clear k0 k1 k2 k3 kg f1 hB mf
    go_wp2_with fail
    with_reducible refine (refLeft9_any _ s k hm h8 h256 _ H2.out).mono ?_
    rintro e w3 ⟨t, rfl, ht, hb3⟩
    rw [hf'.out]
    obtain ⟨R, hR⟩ : ∃ R, lfR s k = R := ⟨_, rfl⟩
    rw [hR] at ht
    obtain ⟨P, p, Q, q, R1, r1, K, k9, rfl, _⟩ := id ht.open
    obtain ⟨w4, hw4, f4, hs4, hb4⟩ := box_4 w3 (.slice P R.1.1.length p) (.slice Q R.1.2.length q) (.slice R1 R.2.1.length r1) (.slice K R.2.2.length k9) 28
    have F4 := (hb4.block (w.heap.size + 1) (by have := s2.out; have := hb3.size; omega)).trans ((hb3.block (w.heap.size + 1) (by have := s2.out; omega)).trans F2.out)
    have T4 := Lib.hid (ht.below hb4)
    have B4 := Lib.hid (hb2.out.trans ((hb3.trans (hb4.mono hb3.size)).mono hb2.out.size))
    replace hR := Lib.hid hR
    replace hs4 := Lib.hid hs4
    have F4h := Lib.hid F4
    clear ht hb3 hb4 m0 m1 m2 m3 mg F4
    go_upto_region 5 with fail
    clear hw4
    obtain ⟨j0, j1, j2, j3, _, jg⟩ := four_cells f4
    replace f4 := Lib.hid f4
    have F5 := F4h.out
    obtain ⟨c0, c1, c2, c3, c4, c5⟩ := four_cells F5
    obtain ⟨W9, hW9, g9, gr9, gs9⟩ := put_four (a' := .slice P R.1.1.length p) (b' := .slice Q R.1.2.length q) (c' := .slice R1 R.2.1.length r1) (d' := .slice K R.2.2.length k9) F5
    obtain ⟨o0, o1, o2, o3, _, _⟩ := four_cells g9
    have hB9 := Lib.hid (B4.out.grown gr9 B4.out.size (fun q e => by cases e; omega))
    have hs9 : Hid (Sto (Old W9) W9 (.agg #[.slice P R.1.1.length p, .slice Q R.1.2.length q, .slice R1 R.2.1.length r1, .slice K R.2.2.length k9]) R) := Lib.hid (sto_put_zero T4.out (by rw [← hR.out]; exact hfu.out) F5 (by simp) gr9)
    replace g9 := Lib.hid g9
    replace F5 := Lib.hid F5
    clear gr9 gs9 F4h
    go_wp2_with fail
    refine bodyPost_ret (v := .tuple #[.agg #[.slice P R.1.1.length p, .slice Q R.1.2.length q, .slice R1 R.2.1.length r1, .slice K R.2.2.length k9], .int .i64 0]) (by simp [results, Tryz.results10, go_sem, o0, o1, o2, o3]) rfl ?_
    rw [hV.out, he.out]
    exact ⟨_, rfl, by rw [← hlr.out, hR.out]; exact hs9.out, hB9.out⟩
theorem full_lo (s : Rm) (n : Int) : FullR (loV s n) := by
  by_cases h : asE s n = 0
  · obtain ⟨_, _, hm, _⟩ := lo_ok h
    rw [loV, if_pos h]
    exact (full_rm hm : FullR s)
  · rw [loV, if_neg h]; exact full_empty
set_option maxRecDepth 100000 in
set_option maxHeartbeats 8000000 in
theorem refLoose9_any (v : Value) (s : Rm) (n : Int) (w : World) (h : Sto (Old w) w v s) :
    Calls Tryz.prog 12 #[v, .int .i64 n] w fun e w' => ∃ t, e = .returned (.tuple #[t, .int .i64 (asE s n)]) ∧ Sto (Old w') w' t (loV s n) ∧ Below w.heap.size w w' := by
  have H0 := Lib.hid h
  obtain ⟨A, ca, B, cb, N, cn, L, cl, w1, rfl, hw1, f1, f2, hsz, hB, H⟩ := box_sto2 h
  clear h
  obtain ⟨k0, k1, k2, k3, _, kg⟩ := four_cells f1
  replace hsz := Lib.hid hsz
  replace f2 := Lib.hid f2
  by_cases ha : asE s n = 0
  · obtain ⟨k, rfl, hm, _, h8, h256, hx0, hl1, hV⟩ := lo_ok ha
    obtain ⟨ad, bd, rfl, rfl, -, hl2, -, -, had, -, hc⟩ := tables_at hm H.out.parts.2.1 H.out.parts.2.2
    have hcell := (hc k h256).1
    obtain ⟨x, hx⟩ : ∃ x, s.2.1[k]?.getD 0 = x := ⟨_, rfl⟩
    rw [hx] at hcell hx0 hV
    have hVf := Lib.hid (full_lo s (k : Int))
    have i3 : k < s.2.1.length := by rw [hl1]; exact h256
    have hax := Lib.hid ha
    replace hl1 := Lib.hid hl1
    replace hl2 := Lib.hid hl2
    replace hx := Lib.hid hx
    replace hV := Lib.hid hV
    clear hc ha
    go_enter Tryz.func12, Tryz.ntmps12
    go_upto_region 1 with fail
    clear hw1
    go_wp2_with fail
    with_reducible refine (refAsked9_any _ s (k : Int) _ H.out).mono ?_
    rintro e w2 ⟨rfl, hb2⟩
    rw [hax.out]
    have G2 := (hb2.block w.heap.size kg).trans f1
    obtain ⟨m0, m1, m2, m3, mf, mg⟩ := four_cells G2
    have F2 := Lib.hid ((hb2.block (w.heap.size + 1) (by rw [hsz.out]; omega)).trans f2.out)
    have hc2 := (hb2.cell (p := ad.add k) (by rw [add_block]; exact had)).trans hcell
    have hcb : (ad.add k).block < w2.heap.size := World.block_lt_of_cell? _ _ hc2
    have s2 : Hid (w.heap.size + 2 ≤ w2.heap.size) := Lib.hid (by have := hb2.size; have := hsz.out; omega)
    replace hb2 := Lib.hid (hB.trans (hb2.mono hB.size))
    have G2h := Lib.hid G2
    clear k0 k1 k2 k3 kg f1 hB hcell G2 mf
    obtain ⟨hu, hu1, hu2⟩ := dn_byte hx0
    have hwr : Hid (IntKind.u8.wrap ((x.toNat : Int) - 1) = ((x - 1).toNat : Int)) := Lib.hid (by rw [← hu]; simp only [IntKind.wrap, IntKind.signed, IntKind.bits]; simp; omega)
    have i3h := Lib.hid i3
    have hlb : Hid (s.2.1.length ≤ 1000000) := Lib.hid (by have := hl1.out; omega)
    replace hu := Lib.hid hu
    clear hu1 hu2 hx0
    go_upto_region 4 with fail
    refine wp_region_tails (by kernel_rfl) 11 (fun W => Below w2.heap.size w2 W) (fun i => match i with
        | 9 => some (fun v W => ∃ Y y, v = .slice Y s.2.1.length y ∧ rBy (Off w.heap.size W) W [.slice Y s.2.1.length y] (s.2.1.set k (x - 1)))
        | _ => none) (fun i => match i with
        | 8 => some (.int .u8 ((x - 1).toNat : Int))
        | _ => none) (by decide) (by kernel_rfl) (by kernel_rfl) (Below.refl _ _).drew (fun w w' h hb => h.trans (hb.mono h.size)) ?tst ?_
    case tst =>
      intro j φ x W W' hp hx hb
      match j, hp with
      | 9, hp =>
        cases hp
        obtain ⟨Y, y, e, hy⟩ := hx
        exact ⟨Y, y, e, stab_by _ _ _ _ _ _ (fun _ _ hp hc => off_below hb hp hc) hy⟩
    simp only [List.take_succ_cons, List.take_zero, List.drop_succ_cons, List.drop_zero]
    repeat (first
      | (refine wpAs_skip rfl ?_; simp only [Act.put, List.setIfInBounds_toArray, List.set_cons_zero, List.set_cons_succ])
      | (refine wpAs_pure (v := ?_) rfl rfl ?_ ?_; rotate_left; (intro W hC hE; clear hE; (have i3' := i3h.out; have z2 := (hC.cell (p := ⟨w.heap.size, 2, none⟩) mg).trans m2; have zx := (hC.cell (p := ad.add k) hcb).trans hc2); clear hC; go_simp; done); simp only [Act.put, List.setIfInBounds_toArray, List.set_cons_zero, List.set_cons_succ])
      | (refine wpAs_pure (v := ?_) rfl rfl ?_ ?_; rotate_left; (intro W hC hE; clear hE; (have i3' := i3h.out; have z2 := (hC.cell (p := ⟨w.heap.size, 2, none⟩) mg).trans m2; have zx := (hC.cell (p := ad.add k) hcb).trans hc2); clear hC; go_simp; with_reducible rfl); simp only [Act.put, List.setIfInBounds_toArray, List.set_cons_zero, List.set_cons_succ]))
    refine wpAs_fixed rfl rfl rfl ?_ ?_
    · intro W hC hE
      have hwr' := hwr.out
      clear hE hC
      go_simp
      exact ⟨rfl, Below.refl _ _⟩
    simp only [Act.put, List.setIfInBounds_toArray, List.set_cons_zero, List.set_cons_succ]
    refine wpAs_act rfl rfl ?_ ?_
    · intro W hC hE
      clear hE
      refine does_enter (f := 28) (args := #[.slice (some ad) s.2.1.length cn, .int .i64 (k : Int), .int .u8 ((x - 1).toNat : Int)]) ?_ ?_
      · go_simp
      · refine (refWithT_any _ s.2.1 k (x - 1) _ rfl i3h.out hlb.out W (H0.out.below (hb2.out.trans (hC.mono hb2.out.size))).parts.2.1).mono ?_
        rintro e W' ⟨z, rfl, hz, hb⟩
        obtain ⟨Y, y, rfl, _⟩ := id (rBy_open hz)
        rw [List.length_set] at hz
        rw [List.length_set]
        exact ⟨_, rfl, ⟨Y, y, rfl, stab_by _ _ _ _ _ _ (fun _ _ hp hc => off_new (by have := s2.out; have := hC.size; omega) hp hc) hz⟩, hb⟩
    simp only [Act.put, List.setIfInBounds_toArray, List.set_cons_zero, List.set_cons_succ, envAdd]
    intro x30
    repeat (first
      | (refine wpAs_skip rfl ?_; simp only [Act.put, List.setIfInBounds_toArray, List.set_cons_zero, List.set_cons_succ])
      | (refine wpAs_pure (v := ?_) rfl rfl ?_ ?_; rotate_left; (intro W hC hE; clear hE; skip; clear hC; go_simp; done); simp only [Act.put, List.setIfInBounds_toArray, List.set_cons_zero, List.set_cons_succ])
      | (refine wpAs_pure (v := ?_) rfl rfl ?_ ?_; rotate_left; (intro W hC hE; clear hE; skip; clear hC; go_simp; with_reducible rfl); simp only [Act.put, List.setIfInBounds_toArray, List.set_cons_zero, List.set_cons_succ]))
    refine wpAs_end fun W hC hE => ?_
    obtain ⟨⟨Y, y, rfl, hy⟩, _⟩ := hE
    have bW := (hC.block w.heap.size mg).trans G2h.out
    obtain ⟨c0, c1, c2, c3, c4, c5⟩ := four_cells bW
    obtain ⟨W5, hW5, g5, gr5, gs5⟩ := put_third (c' := .slice Y s.2.1.length y) bW
    have hy5 := Lib.hid (stab_by _ _ _ _ _ _ (fun _ _ hp hc => off_put gr5 hp hc) hy)
    have F5 := (gr5.block (w.heap.size + 1) (by have := s2.out; have := hC.size; omega) (by simp)).trans ((hC.block (w.heap.size + 1) (by have := s2.out; omega)).trans F2.out)
    have B5 := Lib.hid ((hb2.out.trans (hC.mono hb2.out.size)).grown gr5 (Nat.le_trans hb2.out.size hC.size) (fun q e => by cases e; omega))
    have G5 := Lib.hid g5
    replace bW := Lib.hid bW
    replace g5 := Lib.hid g5
    clear hy gr5 gs5 hC m0 m1 m2 m3 mg
    go_upto_region 5 with fail
    clear hW5 c0 c1 c2 c3 c4 c5
    obtain ⟨w5, rfl⟩ : ∃ w5 : World, w5 = W5 := ⟨_, rfl⟩
    obtain ⟨m0, m1, m2, m3, _, mg⟩ := four_cells G5.out
    obtain ⟨c0, c1, c2, c3, c4, c5⟩ := four_cells F5
    obtain ⟨W9, hW9, g9, gr9, gs9⟩ := put_four (a' := .slice A s.1.1.length ca) (b' := .slice B s.1.2.length cb) (c' := .slice Y s.2.1.length y) (d' := .slice (some bd) s.2.2.length cl) F5
    obtain ⟨o0, o1, o2, o3, _, _⟩ := four_cells g9
    have hB9 := Lib.hid (B5.out.grown gr9 B5.out.size (fun q e => by cases e; omega))
    have hs9 : Hid (Sto (Old W9) W9 (.agg #[.slice A s.1.1.length ca, .slice B s.1.2.length cb, .slice Y s.2.1.length y, .slice (some bd) s.2.2.length cl]) (s.1, s.2.1.set k (x - 1), s.2.2)) := Lib.hid (by
      have hf := hVf.out
      rw [hV.out] at hf
      have h5 : Sto (Old w5) w5 (.agg #[.slice A s.1.1.length ca, .slice B s.1.2.length cb, .slice Y s.2.1.length y, .slice (some bd) s.2.2.length cl]) (s.1, s.2.1.set k (x - 1), s.2.2) :=
        Sto.mk (H0.out.below B5.out).parts.1 (stab_by _ _ _ _ _ _ (fun _ _ hp hc => off_old hp hc) hy5.out) (H0.out.below B5.out).parts.2.2
      exact sto_put_zero h5 hf F5 (by simp) gr9)
    replace g9 := Lib.hid g9
    replace F5 := Lib.hid F5
    clear gr9 gs9
    go_wp2_with fail
    refine bodyPost_ret (v := .tuple #[.agg #[.slice A s.1.1.length ca, .slice B s.1.2.length cb, .slice Y s.2.1.length y, .slice (some bd) s.2.2.length cl], .int .i64 0]) (by simp [results, Tryz.results12, go_sem, o0, o1, o2, o3]) rfl ?_
    rw [hax.out, hV.out]
    exact ⟨_, rfl, hs9.out, hB9.out⟩
  · have hV : Hid (loV s n = emptyR) := Lib.hid (by rw [loV, if_neg ha])
    obtain ⟨q, hq⟩ : ∃ q, asE s n = q := ⟨_, rfl⟩
    have hq1 : (q != 0) = true := by rw [← hq]; simpa using ha
    replace hq := Lib.hid hq
    clear ha
    go_enter Tryz.func12, Tryz.ntmps12
    go_upto_region 1 with fail
    clear hw1
    go_wp2_with fail
    with_reducible refine (refAsked9_any _ s n _ H.out).mono ?_
    rintro e w2 ⟨rfl, hb2⟩
    rw [hq.out]
    have F2 := (hb2.block (w.heap.size + 1) (by rw [hsz.out]; omega)).trans f2.out
    replace hb2 := Lib.hid (hB.trans (hb2.mono hB.size))
    clear k0 k1 k2 k3
    obtain ⟨k0, k1, k2, k3, k4, k5⟩ := four_cells F2
    obtain ⟨W9, hW9, g9, gr9, gs9⟩ := put_four (a' := .slice none 0 0) (b' := .slice none 0 0) (c' := .slice none 0 0) (d' := .slice none 0 0) F2
    obtain ⟨n0, n1, n2, n3, _, _⟩ := four_cells g9
    have hB9 := Lib.hid ((hb2).out.grown gr9 (hb2).out.size (fun q e => by cases e; omega))
    replace g9 := Lib.hid g9
    replace F2 := Lib.hid F2
    clear gr9 gs9
    go_wp2_with fail
    refine bodyPost_ret (v := .tuple #[.agg #[.slice none 0 0, .slice none 0 0, .slice none 0 0, .slice none 0 0], .int .i64 q]) (by simp [results, Tryz.results12, go_sem, n0, n1, n2, n3]) rfl ?_
    rw [hV.out, hq.out]
    exact ⟨_, rfl, sto_empty _ _, hB9.out⟩
end Go.Proofs.YtmdlgnlfgfhkmaaGreat

/-
  The document's answers of layer 9: Counted, Made, Make. Conditions: those that each lemma states.
-/
namespace Go.Proofs.YtmdlgnlfgfhkmaaGreat
open Go.RowKit

def ctR (s : Rm) (n : Nd) : Rm := if ctE s.2.1 n.2 = 0 then ctS s n else emptyR
theorem ct_split {l : List It} {i : Nat} {x : It} {t : List UInt8} (h : ctE t (l.take i) = 0) (hx : l[i]? = some x) : ctE t l = ctE (ctV t (l.take i)) (x :: l.drop (i + 1)) := by
  have hk := (List.getElem?_eq_some_iff.1 hx).1
  have hg : l[i] = x := (List.getElem?_eq_some_iff.1 hx).2
  have e : l = l.take i ++ x :: l.drop (i + 1) := by rw [← hg, List.getElem_cons_drop, List.take_append_drop]
  have : ctE t l = ctE t (l.take i ++ x :: l.drop (i + 1)) := by rw [← e]
  rw [this, ctE_app, if_pos h]
theorem ct_next {l : List It} {i : Nat} {x : It} {t : List UInt8} (h : ctE t (l.take i) = 0) (hx : l[i]? = some x) : ctE t (l.take (i + 1)) = ctE (ctV t (l.take i)) [x] ∧ ctV t (l.take (i + 1)) = ctV (ctV t (l.take i)) [x] := by
  have hk := (List.getElem?_eq_some_iff.1 hx).1
  have hg : l[i] = x := (List.getElem?_eq_some_iff.1 hx).2
  rw [← List.take_append_getElem hk, ctE_app, ctV_app, if_pos h, hg]
  exact ⟨rfl, rfl⟩
theorem box_three3 {w : World} (a b c d e f : Value) : ∃ w1, ((w.alloc (.cells #[a, b, c, d] 28)).alloc (.cells #[e, f] 31)).alloc (.cells #[.slice none 0 0, .slice none 0 0, .slice none 0 0, .slice none 0 0] 28) = w1 ∧
    w1.heap[w.heap.size]? = some (.cells #[a, b, c, d] 28 (0, 0)) ∧ w1.heap[w.heap.size + 1]? = some (.cells #[e, f] 31 (0, 0)) ∧ w1.heap[w.heap.size + 2]? = some (.cells #[.slice none 0 0, .slice none 0 0, .slice none 0 0, .slice none 0 0] 28 (0, 0)) ∧ w1.heap.size = w.heap.size + 3 ∧ Below w.heap.size w w1 := by
  refine ⟨_, rfl, alloc_block (alloc_block (heap_alloc_new _ _)), alloc_block ?_, ?_, by simp, (((Below.refl _ w).alloc (Nat.le_refl _) _).alloc (by simp) _).alloc (by simp; omega) _⟩
  · have := heap_alloc_new (w.alloc (.cells #[a, b, c, d] 28)) (.cells #[e, f] 31)
    rwa [World.size_alloc] at this
  · have := heap_alloc_new ((w.alloc (.cells #[a, b, c, d] 28)).alloc (.cells #[e, f] 31)) (.cells #[.slice none 0 0, .slice none 0 0, .slice none 0 0, .slice none 0 0] 28)
    rwa [World.size_alloc, World.size_alloc] at this

set_option maxRecDepth 100000 in
set_option maxHeartbeats 8000000 in
theorem refCounted_any (v u : Value) (s : Rm) (n : Nd) (hm : mayR s = true) (hn : mayN n = true) (w : World) (h : Sto (Old w) w v s) (hu : Nod (Old w) w u n) :
    Calls Tryz.prog 42 #[v, u] w fun e w' => ∃ t, e = .returned (.tuple #[t, .int .i64 (ctE s.2.1 n.2)]) ∧ Sto (Old w') w' t (ctR s n) ∧ Below w.heap.size w w' := by
  have H0 := Lib.hid h
  obtain ⟨A, ca, B, cb, N, cn, L, cl, rfl, _⟩ := id h.open
  obtain ⟨I, ci, rfl, _, _, _, hI⟩ := hu.open
  have HI := Lib.hid hI
  have hl0 := mayT_len (mayR_of hm).2.1
  obtain ⟨lw, hlw⟩ : ∃ q, n.1 = q := ⟨_, rfl⟩
  obtain ⟨l, hl⟩ : ∃ q, n.2 = q := ⟨_, rfl⟩
  obtain ⟨t0, ht0⟩ : ∃ q, s.2.1 = q := ⟨_, rfl⟩
  obtain ⟨m, hlm⟩ : ∃ q, l.length = q := ⟨_, rfl⟩
  have hrf := Lib.hid (refs_may hn)
  obtain ⟨⟨_, _, s3, _⟩, _⟩ := mayN_of hn
  have hfu := Lib.hid (full_rm hm)
  have hcr : Hid (ctR s n = if ctE t0 l = 0 then (s.1, ctV t0 l, s.2.2) else emptyR) := Lib.hid (by rw [← hl, ← ht0]; rfl)
  have hNW := Lib.hid h.parts.2.1
  rw [hl, hlm] at s3 HI
  rw [hl] at hrf
  rw [ht0] at hl0 hNW
  rw [hlw, hl, ht0, hlm]
  obtain ⟨w1, hw1, f1, fn, f2, hsz, hB⟩ := box_three3 (w := w) (.slice A s.1.1.length ca) (.slice B s.1.2.length cb) (.slice N t0.length cn) (.slice L s.2.2.length cl) (.int .i64 lw) (.slice I m ci)
  obtain ⟨v', w2, hr2, ho2, hb2⟩ := app_rows (.slice none 0 0) 0 [] (.slice N t0.length cn) t0 w1.heap.size w1 (World.ownsRow_nil _ _ _ _) (stab_by.old hNW.out hB) (by omega) (Nat.le_refl _)
  rw [Nat.zero_add, List.nil_append] at ho2
  obtain ⟨g, c2, rfl, hg1, hg2, hg3, hg4⟩ := own_head ho2 (by omega)
  obtain ⟨k0, k1, k2, k3, _, kg⟩ := four_cells f1
  obtain ⟨p0, p1, _, pg⟩ := two_cells fn
  have h3 : Hid (w1.heap.size = w.heap.size + 3) := Lib.hid hsz
  have hgg : Hid (w.heap.size + 3 ≤ g) := Lib.hid (by omega)
  replace ho2 := Lib.hid ho2
  have H2 := Lib.hid hr2
  have B1 := Lib.hid hB
  have B2 := Lib.hid hb2
  have f1h := Lib.hid f1
  replace fn := Lib.hid fn
  replace f2 := Lib.hid f2
  replace hl0 := Lib.hid hl0
  replace ht0 := Lib.hid ht0
  replace hl := Lib.hid hl
  replace hlw := Lib.hid hlw
  replace hlm := Lib.hid hlm
  clear hr2 hsz hB hb2 h hu hI f1 hg1
  go_enter Tryz.func42, Tryz.ntmps42
  go_upto_region 1 with fail
  clear hw1
  go_wp2_with (at_builtin; refine wpList_append_run rfl _ _ _ rfl rfl rfl H2.out ?_; clear H2)
  clear k0 k1 k2 k3 p0 p1
  go_loopw [7] (fun vi wr => ∃ i : Nat, i ≤ m ∧ vi = .int .i64 i ∧ ctE t0 (l.take i) = 0 ∧ wr.ownsRow w1.heap.size 5 1 (.slice (some ⟨g, 0, none⟩) t0.length c2) t0.length (u8s (ctV t0 (l.take i))) ∧ Below w1.heap.size w1 wr) (fun vi _ => m - (intOf vi).toNat)
  case atStart => exact ⟨0, by omega, rfl, rfl, ho2.out, B2.out⟩
  case round =>
    obtain ⟨i, hi, rfl, hE, hown, hbr⟩ := hrel
    have BF := Lib.hid (B1.out.trans (hbr.mono B1.out.size))
    have r1 := (hbr.block w.heap.size kg).trans f1h.out
    have r2 := (hbr.block (w.heap.size + 1) pg).trans fn.out
    have r3 := (hbr.block (w.heap.size + 2) (by rw [h3.out]; omega)).trans f2.out
    obtain ⟨p0, p1, _, _⟩ := two_cells r2
    by_cases hlt : i < m
    case neg =>
      have hlast : Hid (l.take i = l) := Lib.hid (List.take_of_length_le (by rw [hlm.out]; omega))
      have hEl : Hid (ctE t0 l = 0) := Lib.hid (by rw [← hE, hlast.out])
      obtain ⟨W5, hW5, g5, gr5, gs5⟩ := put_third (c' := .slice (some ⟨g, 0, none⟩) t0.length c2) r1
      have hx5 : Hid (rBy (New w1.heap.size W5) W5 [.slice (some ⟨g, 0, none⟩) t0.length c2] (ctV t0 l)) := Lib.hid (by
        have h1 := own_by hown
        rw [hlast.out] at h1
        exact stab_by.grown h1 gr5 (fun q e => by cases e; exact kg))
      have F5 := (gr5.block (w.heap.size + 2) (by have := hbr.size; have := h3.out; omega) (by simp)).trans r3
      have B5 := Lib.hid (BF.out.grown gr5 BF.out.size (fun q e => by cases e; omega))
      obtain ⟨c0, c1, cc2, c3, c4, c5⟩ := four_cells r1
      have G5 := Lib.hid g5
      replace r1 := Lib.hid r1
      replace r2 := Lib.hid r2
      replace r3 := Lib.hid r3
      have hlen : Hid ((ctV t0 l).length = t0.length) := Lib.hid (ctV_len l t0)
      clear hown hbr hE g5 gr5 gs5
      go_upto_region 13 with fail
      clear hW5 c0 c1 cc2 c3 c4 c5 p0 p1
      obtain ⟨w5, rfl⟩ : ∃ w5 : World, w5 = W5 := ⟨_, rfl⟩
      obtain ⟨m0, m1, m2, m3, _, mg⟩ := four_cells G5.out
      obtain ⟨c0, c1, cc2, c3, c4, c5⟩ := four_cells F5
      obtain ⟨W9, hW9, g9, gr9, gs9⟩ := put_four (a' := .slice A s.1.1.length ca) (b' := .slice B s.1.2.length cb) (c' := .slice (some ⟨g, 0, none⟩) t0.length c2) (d' := .slice L s.2.2.length cl) F5
      obtain ⟨o0, o1, o2, o3, _, _⟩ := four_cells g9
      have hB9 := Lib.hid (B5.out.grown gr9 B5.out.size (fun q e => by cases e; omega))
      have hs9 : Hid (Sto (Old W9) W9 (.agg #[.slice A s.1.1.length ca, .slice B s.1.2.length cb, .slice (some ⟨g, 0, none⟩) t0.length c2, .slice L s.2.2.length cl]) (s.1, ctV t0 l, s.2.2)) := Lib.hid (by
        have h5 : Sto (Old w5) w5 (.agg #[.slice A s.1.1.length ca, .slice B s.1.2.length cb, .slice (some ⟨g, 0, none⟩) t0.length c2, .slice L s.2.2.length cl]) (s.1, ctV t0 l, s.2.2) :=
          Sto.mk (H0.out.below B5.out).parts.1 (stab_by.drop hx5.out) (H0.out.below B5.out).parts.2.2
        exact sto_put_zero h5 hfu.out F5 (by simp) gr9)
      replace g9 := Lib.hid g9
      replace F5 := Lib.hid F5
      clear gr9 gs9
      go_wp2_with fail
      refine bodyPost_ret (v := .tuple #[.agg #[.slice A s.1.1.length ca, .slice B s.1.2.length cb, .slice (some ⟨g, 0, none⟩) t0.length c2, .slice L s.2.2.length cl], .int .i64 0]) (by simp [results, Tryz.results42, go_sem, o0, o1, o2, o3]) rfl ?_
      rw [hcr.out, if_pos hEl.out, hEl.out]
      exact ⟨_, rfl, hs9.out, hB9.out⟩
    obtain ⟨x, hx⟩ : ∃ x, l[i]? = some x := ⟨_, List.getElem?_eq_getElem (by rw [hlm.out]; exact hlt)⟩
    have hsp := Lib.hid (ct_split hE hx)
    have hnx := Lib.hid (ct_next hE hx)
    have hxr := hrf.out x (List.mem_of_getElem? hx)
    obtain ⟨ad5, E5, ce5, rfl, _, _, _, FX⟩ := its_old HI.out hx
    obtain ⟨⟨_, _, _, z3, _⟩, _⟩ := FX wr BF.out
    clear FX
    have i4 : (0 : Int) ≤ (i : Int) := by omega
    have i5 : (i : Int) < (m : Int) := by omega
    obtain ⟨z, hzz⟩ : ∃ z, x.2.1 = z := ⟨_, rfl⟩
    have hc1 : ∀ T, ctE T (x :: l.drop (i + 1)) = if z = 0 then ctE T (l.drop (i + 1)) else if T[z.toNat]?.getD 0 = 0 then 6 else if T[z.toNat]?.getD 0 = 255 then 70 else ctE (T.set z.toNat (T[z.toNat]?.getD 0 + 1)) (l.drop (i + 1)) := fun T => by rw [← hzz]; rfl
    have hc2 : ∀ T, ctE T [x] = if z = 0 then 0 else if T[z.toNat]?.getD 0 = 0 then 6 else if T[z.toNat]?.getD 0 = 255 then 70 else 0 := fun T => by rw [← hzz]; rfl
    have hc3 : ∀ T, ctV T [x] = if z = 0 then T else T.set z.toNat (T[z.toNat]?.getD 0 + 1) := fun T => by rw [← hzz]; rfl
    rw [hzz] at z3 hxr
    replace hx := Lib.hid hx
    replace hzz := Lib.hid hzz
    obtain ⟨T, hT⟩ : ∃ T, ctV t0 (l.take i) = T := ⟨_, rfl⟩
    have hTl : Hid (T.length = t0.length) := Lib.hid (by rw [← hT]; exact ctV_len _ _)
    rw [hT] at hown hsp hnx
    replace hT := Lib.hid hT
    by_cases hz0 : z = 0
    · have hn1 : Hid (ctE t0 (l.take (i + 1)) = 0 ∧ ctV t0 (l.take (i + 1)) = T) := Lib.hid ⟨by rw [hnx.out.1, hc2, if_pos hz0], by rw [hnx.out.2, hc3, if_pos hz0]⟩
      subst hz0
      have HO := Lib.hid hown
      replace r1 := Lib.hid r1
      replace r2 := Lib.hid r2
      replace r3 := Lib.hid r3
      replace hbr := Lib.hid hbr
      clear hc1 hc2 hc3 hxr hown hE hsp hnx
      go_wp2_with fail
      go_roundw
      case rel => exact ⟨i + 1, by omega, by go_num, hn1.out.1, by rw [hn1.out.2]; exact HO.out, hbr.out⟩
      case measure => simp [intOf]; omega
    obtain ⟨r, hr, r8, r256⟩ : ∃ r : Nat, z = r ∧ 8 ≤ r ∧ r < 256 := ⟨z.toNat, by omega, by omega, by omega⟩
    rw [hc1, if_neg hz0, show z.toNat = r by omega] at hsp
    rw [hc2, hc3, if_neg hz0, if_neg hz0, show z.toNat = r by omega] at hnx
    have j3 : (z == 0) = false := by simpa using hz0
    subst hr
    have hcell := own_cell hown (j := r) (by rw [hl0.out]; exact r256)
    have j5 : r < t0.length := by rw [hl0.out]; exact r256
    obtain ⟨y, hy⟩ : ∃ y, T[r]?.getD 0 = y := ⟨_, rfl⟩
    rw [hy] at hsp hnx hcell
    replace hy := Lib.hid hy
    by_cases hy0 : y = 0
    · have t1 := byte_same (y := 0) (q := 0) rfl hy0
      have hEl : Hid (ctE t0 l = 6) := Lib.hid (by rw [hsp.out, if_pos hy0])
      replace r1 := Lib.hid r1
      replace r2 := Lib.hid r2
      clear hc1 hc2 hc3 hxr hown hE hsp hnx hbr hz0
      obtain ⟨k0, k1, k2, k3, k4, k5⟩ := four_cells r3
      obtain ⟨W9, hW9, g9, gr9, gs9⟩ := put_four (a' := .slice none 0 0) (b' := .slice none 0 0) (c' := .slice none 0 0) (d' := .slice none 0 0) r3
      obtain ⟨n0, n1, n2, n3, _, _⟩ := four_cells g9
      have hB9 := Lib.hid ((BF).out.grown gr9 (BF).out.size (fun q e => by cases e; omega))
      replace g9 := Lib.hid g9
      replace r3 := Lib.hid r3
      clear gr9 gs9
      go_wp2_with fail
      refine bodyPost_ret (v := .tuple #[.agg #[.slice none 0 0, .slice none 0 0, .slice none 0 0, .slice none 0 0], .int .i64 6]) (by simp [results, Tryz.results42, go_sem, n0, n1, n2, n3]) rfl ?_
      rw [hcr.out, hEl.out]
      exact ⟨_, rfl, sto_empty _ _, hB9.out⟩
    have t1 := byte_unlike (y := 0) (q := 0) rfl hy0
    by_cases hy5 : y = 255
    · have t2 := byte_same (y := 255) (q := 255) rfl hy5
      have hEl : Hid (ctE t0 l = 70) := Lib.hid (by rw [hsp.out, if_neg hy0, if_pos hy5])
      replace r1 := Lib.hid r1
      replace r2 := Lib.hid r2
      clear hc1 hc2 hc3 hxr hown hE hsp hnx hbr hz0
      obtain ⟨k0, k1, k2, k3, k4, k5⟩ := four_cells r3
      obtain ⟨W9, hW9, g9, gr9, gs9⟩ := put_four (a' := .slice none 0 0) (b' := .slice none 0 0) (c' := .slice none 0 0) (d' := .slice none 0 0) r3
      obtain ⟨n0, n1, n2, n3, _, _⟩ := four_cells g9
      have hB9 := Lib.hid ((BF).out.grown gr9 (BF).out.size (fun q e => by cases e; omega))
      replace g9 := Lib.hid g9
      replace r3 := Lib.hid r3
      clear gr9 gs9
      go_wp2_with fail
      refine bodyPost_ret (v := .tuple #[.agg #[.slice none 0 0, .slice none 0 0, .slice none 0 0, .slice none 0 0], .int .i64 70]) (by simp [results, Tryz.results42, go_sem, n0, n1, n2, n3]) rfl ?_
      rw [hcr.out, hEl.out]
      exact ⟨_, rfl, sto_empty _ _, hB9.out⟩
    have t2 := byte_unlike (y := 255) (q := 255) rfl hy5
    have hfr : wr.frozen? ⟨g, r, none⟩ = false := by
      have := own_free hown r
      rwa [show (⟨g, 0, none⟩ : Addr).add r = ⟨g, r, none⟩ by simp [add_off]] at this
    obtain ⟨hu1, hu2, hu3⟩ := up_byte hy5
    have hset := own_set hown r (y + 1)
    have hn1 : Hid (ctE t0 (l.take (i + 1)) = 0 ∧ ctV t0 (l.take (i + 1)) = T.set r (y + 1)) := Lib.hid ⟨by rw [hnx.out.1, if_neg hy0, if_neg hy5], hnx.out.2⟩
    rw [← hu1] at hset
    replace hset := Lib.hid hset
    replace hu1 := Lib.hid hu1
    have hbn := Lib.hid (hbr.setCell (p := ⟨g, r, none⟩) (by show w1.heap.size ≤ g; have := h3.out; have := hgg.out; omega) (.int .u8 ((y.toNat : Int) + 1)))
    replace r1 := Lib.hid r1
    replace r2 := Lib.hid r2
    replace r3 := Lib.hid r3
    clear hc1 hc2 hc3 hxr hown hE hsp hnx hbr hz0
    go_wp2_with fail
    go_roundw
    case rel => exact ⟨i + 1, by omega, by go_num, hn1.out.1, by rw [hn1.out.2]; exact hset.out, hbn.out⟩
    case measure => simp [intOf]; omega

/-- What Taken tells is what Take tells. -/
theorem tn_ways {s : Rm} {b : List UInt8} (hm : mayR s = true) (hlb : b.length = 128) : FullR (tnV s b) ∧ ((tkE s b = 9 ∧ tnN s = -1) ∨ (tkE s b = 0 ∧ ∃ k : Nat, tnN s = k ∧ tkN s b = k ∧ tkV s b = tnV s b)) := by
  rcases tk_ways s b with ⟨h, _⟩ | ⟨_, h, _⟩ | ⟨_, _, h, e⟩ | ⟨_, _, _, h, e⟩ | ⟨_, _, h, h', e⟩
  · rw [hm] at h; cases h
  · exact absurd hlb h
  · exact ⟨by rw [tnV, if_pos (.inl h)]; exact full_rm hm, .inl ⟨e, by rw [tnN, if_pos (.inl h)]⟩⟩
  · exact ⟨by rw [tnV, if_pos (.inr h)]; exact full_rm hm, .inl ⟨e, by rw [tnN, if_pos (.inr h)]⟩⟩
  · have hno : ¬ (freeL s = [] ∨ 4096 ≤ s.1.2.length) := by
      rintro (h1 | h1)
      · exact h h1
      · omega
    obtain ⟨-, -, -, -, -, -, -, -, hN, hV⟩ := tk_ok e
    have hv : tkV s b = tnV s b := by rw [hV, tnV, if_neg hno]
    exact ⟨by rw [← hv]; exact full_tk s b, .inr ⟨e, tkK s, by rw [tnN, if_neg hno], hN, hv⟩⟩
theorem mk_ways {s : Rm} {n : Nd} (hm : mayR s = true) (hn : mayN n = true) : (ctE s.2.1 n.2 ≠ 0 ∧ mkE s n = ctE s.2.1 n.2 ∧ mkN s n = 0 ∧ mkV s n = emptyR) ∨ (ctE s.2.1 n.2 = 0 ∧ mkE s n = tkE (ctS s n) (blkN n) ∧ mkN s n = tkN (ctS s n) (blkN n) ∧ mkV s n = tkV (ctS s n) (blkN n)) := by
  by_cases hc : ctE s.2.1 n.2 = 0
  · have e : mkE s n = tkE (ctS s n) (blkN n) := by simp [mkE, hm, hn, hc]
    refine .inr ⟨hc, e, ?_, ?_⟩
    · by_cases h : mkE s n = 0
      · rw [mkN, if_pos h]
      · rw [mkN, if_neg h, (tk_no (by rw [← e]; exact h)).1]
    · by_cases h : mkE s n = 0
      · rw [mkV, if_pos h]
      · rw [mkV, if_neg h, (tk_no (by rw [← e]; exact h)).2]
  · have e : mkE s n = ctE s.2.1 n.2 := by simp [mkE, hm, hn, hc]
    have h : mkE s n ≠ 0 := by rw [e]; exact hc
    exact .inl ⟨hc, e, (mk_no h).1, (mk_no h).2⟩

set_option maxRecDepth 100000 in
set_option maxHeartbeats 8000000 in
theorem refMade_any (v u : Value) (s : Rm) (n : Nd) (hm : mayR s = true) (hn : mayN n = true) (w : World) (h : Sto (Old w) w v s) (hu : Nod (Old w) w u n) :
    Calls Tryz.prog 24 #[v, u] w fun e w' => ∃ t, e = .returned (.tuple #[t, .int .i64 (mkN s n), .int .i64 (mkE s n)]) ∧ Sto (Old w') w' t (mkV s n) ∧ Below w.heap.size w w' := by
  obtain ⟨A, ca, B, cb, N, cn, L, cl, rfl, _⟩ := id h.open
  obtain ⟨I, ci, rfl, _⟩ := id hu.open
  obtain ⟨w1, hw1, f1, fn, f2, hsz, hB⟩ := box_three3 (w := w) (.slice A s.1.1.length ca) (.slice B s.1.2.length cb) (.slice N s.2.1.length cn) (.slice L s.2.2.length cl) (.int .i64 n.1) (.slice I n.2.length ci)
  have H := Lib.hid (h.below hB)
  have U := Lib.hid (hu.below hB)
  clear h hu
  have hCt := Lib.hid (refCounted_any _ _ s n hm hn w1 H.out U.out)
  obtain ⟨k0, k1, k2, k3, _, kg⟩ := four_cells f1
  obtain ⟨p0, p1, _, pg⟩ := two_cells fn
  replace hsz := Lib.hid hsz
  replace f1 := Lib.hid f1
  replace f2 := Lib.hid f2
  have fnh := Lib.hid fn
  clear fn
  rcases mk_ways hm hn with ⟨hc, hE, hN, hV⟩ | ⟨hc, hE, hN, hV⟩
  · obtain ⟨q, hq⟩ : ∃ q, ctE s.2.1 n.2 = q := ⟨_, rfl⟩
    have hq1 : (q != 0) = true := by rw [← hq]; simpa using hc
    have hcr : ctR s n = emptyR := by rw [ctR, if_neg hc]
    rw [hcr, hq] at hCt
    rw [hq] at hE
    replace hE := Lib.hid hE
    replace hN := Lib.hid hN
    replace hV := Lib.hid hV
    replace hq := Lib.hid hq
    clear hc hcr hm hn
    go_enter Tryz.func24, Tryz.ntmps24
    go_upto_region 1 with fail
    clear hw1
    go_wp2_with fail
    with_reducible refine hCt.out.mono ?_
    rintro e w2 ⟨t, rfl, ht, hb2⟩
    obtain ⟨P, p, Q, q', R1, r1, K, k9, rfl, _⟩ := id ht.open
    obtain ⟨w3, hw3, f3, hs3, hb3⟩ := box_4 w2 (.slice P emptyR.1.1.length p) (.slice Q emptyR.1.2.length q') (.slice R1 emptyR.2.1.length r1) (.slice K emptyR.2.2.length k9) 28
    have F3 := (hb3.block (w.heap.size + 2) (by have := hsz.out; have := hb2.size; omega)).trans ((hb2.block (w.heap.size + 2) (by rw [hsz.out]; omega)).trans f2.out)
    have B3 := Lib.hid (hB.trans ((hb2.trans (hb3.mono hb2.size)).mono hB.size))
    replace hs3 := Lib.hid hs3
    replace f3 := Lib.hid f3
    replace F3 := Lib.hid F3
    clear hCt ht hb2 hb3 k0 k1 k2 k3 p0 p1
    go_upto_region 2 with fail
    clear hw3
    have F3 := F3.out
    obtain ⟨k0, k1, k2, k3, k4, k5⟩ := four_cells F3
    obtain ⟨W9, hW9, g9, gr9, gs9⟩ := put_four (a' := .slice none 0 0) (b' := .slice none 0 0) (c' := .slice none 0 0) (d' := .slice none 0 0) F3
    obtain ⟨n0, n1, n2, n3, _, _⟩ := four_cells g9
    have hB9 := Lib.hid ((B3).out.grown gr9 (B3).out.size (fun q e => by cases e; omega))
    replace g9 := Lib.hid g9
    replace F3 := Lib.hid F3
    clear gr9 gs9
    go_wp2_with fail
    refine bodyPost_ret (v := .tuple #[.agg #[.slice none 0 0, .slice none 0 0, .slice none 0 0, .slice none 0 0], .int .i64 0, .int .i64 q]) (by simp [results, Tryz.results24, go_sem, n0, n1, n2, n3]) rfl ?_
    rw [hE.out, hN.out, hV.out]
    exact ⟨_, rfl, sto_empty _ _, hB9.out⟩
  have hcr : ctR s n = ctS s n := by rw [ctR, if_pos hc]
  rw [hcr, hc] at hCt
  have hbl := blkN_length hn
  have hSm := ctS_may hm hn hc
  obtain ⟨S, hS⟩ : ∃ S, ctS s n = S := ⟨_, rfl⟩
  rw [hS] at hCt hSm hE hN hV
  obtain ⟨bl, hblk⟩ : ∃ b, blkN n = b := ⟨_, rfl⟩
  rw [hblk] at hbl hE hN hV
  obtain ⟨hfull, hways⟩ := tn_ways hSm hbl
  have hTk : Hid (∀ v u W, Sto (Old W) W v S → rBy (Old W) W [u] bl → Calls Tryz.prog 43 #[v, u] W fun e w' => ∃ A ca B cb N cn L cl, e = .returned (.tuple #[.agg #[.slice A (tnV S bl).1.1.length ca, .slice B (tnV S bl).1.2.length cb, .slice N (tnV S bl).2.1.length cn, .slice L (tnV S bl).2.2.length cl], .int .i64 (tnN S)]) ∧
      Sto (Old w') w' (.agg #[.slice A (tnV S bl).1.1.length ca, .slice B (tnV S bl).1.2.length cb, .slice N (tnV S bl).2.1.length cn, .slice L (tnV S bl).2.2.length cl]) (tnV S bl) ∧ Below W.heap.size W w') := Lib.hid fun v u W h hu => refTakenR_any v u S bl hSm hbl W h hu
  have hBk : Hid (∀ v W, Nod (Old W) W v n → Calls Tryz.prog 44 #[v] W fun e w' => ∃ u, e = .returned u ∧ rBy (Old w') w' [u] bl ∧ Below W.heap.size W w') := Lib.hid fun v W h => by
    refine (refBlockN_ok v n W h hn).mono ?_
    rintro e w' ⟨u, rfl, h1, h2⟩
    rw [hblk] at h1
    exact ⟨u, rfl, stab_by.drop h1, h2⟩
  obtain ⟨T, hT⟩ : ∃ T, tnV S bl = T := ⟨_, rfl⟩
  obtain ⟨tn, htn⟩ : ∃ q, tnN S = q := ⟨_, rfl⟩
  rw [hT, htn] at hTk hways
  rw [hT] at hfull
  replace hfull := Lib.hid hfull
  replace hE := Lib.hid hE
  replace hN := Lib.hid hN
  replace hV := Lib.hid hV
  replace hS := Lib.hid hS
  replace hT := Lib.hid hT
  replace htn := Lib.hid htn
  replace hblk := Lib.hid hblk
  clear hc hcr hm hn hbl hSm
  go_enter Tryz.func24, Tryz.ntmps24
  go_upto_region 1 with fail
  clear hw1
  go_wp2_with fail
  with_reducible refine hCt.out.mono ?_
  rintro e w2 ⟨t, rfl, ht, hb2⟩
  obtain ⟨P, p, Q, q', R1, r1, K, k9, rfl, _⟩ := id ht.open
  obtain ⟨w3, hw3, f3, hs3, hb3⟩ := box_4 w2 (.slice P S.1.1.length p) (.slice Q S.1.2.length q') (.slice R1 S.2.1.length r1) (.slice K S.2.2.length k9) 28
  have F3 := Lib.hid ((hb3.block (w.heap.size + 2) (by have := hsz.out; have := hb2.size; omega)).trans ((hb2.block (w.heap.size + 2) (by rw [hsz.out]; omega)).trans f2.out))
  have E3 := (hb3.block (w.heap.size + 1) (by have := hsz.out; have := hb2.size; omega)).trans ((hb2.block (w.heap.size + 1) pg).trans fnh.out)
  have U3 := Lib.hid (U.out.below (hb2.trans (hb3.mono hb2.size)))
  have S3 := Lib.hid (ht.below hb3)
  have B3 := Lib.hid (hB.trans ((hb2.trans (hb3.mono hb2.size)).mono hB.size))
  have z3 : Hid (w.heap.size + 3 ≤ w2.heap.size) := Lib.hid (by have := hsz.out; have := hb2.size; omega)
  obtain ⟨m0, m1, m2, m3, _, mg⟩ := four_cells f3
  obtain ⟨p0, p1, _, pg⟩ := two_cells E3
  replace hs3 := Lib.hid hs3
  replace f3 := Lib.hid f3
  replace E3 := Lib.hid E3
  clear hCt ht hb2 hb3 k0 k1 k2 k3 hB
  go_upto_region 4 with fail
  clear hw3
  refine wp_region_late (ops' := ?opsLate) (by kernel_rfl) [(8, 6)] ?he (by kernel_rfl) (fun d _ _ _ _ h => by cases d <;> exact h) 8 (fun W => Below w3.heap.size w3 W) (fun i => match i with
      | 2 => some (fun v W => rBy (Old W) W [v] bl)
      | 3 => some (fun v W => ∃ A ca B cb N cn L cl, v = .tuple #[.agg #[.slice A T.1.1.length ca, .slice B T.1.2.length cb, .slice N T.2.1.length cn, .slice L T.2.2.length cl], .int .i64 tn] ∧ Sto (Old W) W (.agg #[.slice A T.1.1.length ca, .slice B T.1.2.length cb, .slice N T.2.1.length cn, .slice L T.2.2.length cl]) T)
      | 4 => some (fun v W => ∃ A ca B cb N cn L cl, v = .tuple #[.agg #[.slice A T.1.1.length ca, .slice B T.1.2.length cb, .slice N T.2.1.length cn, .slice L T.2.2.length cl], .int .i64 tn] ∧ Sto (Old W) W (.agg #[.slice A T.1.1.length ca, .slice B T.1.2.length cb, .slice N T.2.1.length cn, .slice L T.2.2.length cl]) T)
      | 5 => some (fun v W => ∃ A ca B cb N cn L cl, v = .agg #[.slice A T.1.1.length ca, .slice B T.1.2.length cb, .slice N T.2.1.length cn, .slice L T.2.2.length cl] ∧ Sto (Old W) W (.agg #[.slice A T.1.1.length ca, .slice B T.1.2.length cb, .slice N T.2.1.length cn, .slice L T.2.2.length cl]) T)
      | 7 => some (fun v W => ∃ g, v = .pointer (some ⟨g, 0, none⟩) ∧ w3.heap.size ≤ g ∧ W.heap[g]? = some (.cells #[.slice none 0 0, .slice none 0 0, .slice none 0 0, .slice none 0 0] 28 (0, 0)))
      | _ => none) (fun i => match i with
      | 6 => some (.int .i64 tn)
      | _ => none) ?h1 ?h2 ?h3 (Below.refl _ _).drew (fun w w' h hb => h.trans (hb.mono h.size)) ?tst ?_
  case he =>
    simp [withEdges]
    rfl
  case h1 => decide
  case h2 => kernel_rfl
  case h3 => kernel_rfl
  case tst =>
    intro j φ x W W' hp hx hb
    match j, hp with
    | 2, hp => cases hp; exact stab_by.old hx hb
    | 3, hp => cases hp; obtain ⟨A, ca, B, cb, N, cn, L, cl, e, h⟩ := hx; exact ⟨A, ca, B, cb, N, cn, L, cl, e, h.below hb⟩
    | 4, hp => cases hp; obtain ⟨A, ca, B, cb, N, cn, L, cl, e, h⟩ := hx; exact ⟨A, ca, B, cb, N, cn, L, cl, e, h.below hb⟩
    | 5, hp => cases hp; obtain ⟨A, ca, B, cb, N, cn, L, cl, e, h⟩ := hx; exact ⟨A, ca, B, cb, N, cn, L, cl, e, h.below hb⟩
    | 7, hp => cases hp; obtain ⟨g, e, h1, h2⟩ := hx; exact ⟨g, e, h1, (hb.block g (Array.getElem?_eq_some_iff.1 h2).1).trans h2⟩
  simp only [List.take_succ_cons, List.take_zero, List.drop_succ_cons, List.drop_zero]
  repeat (first
    | (refine wpAs_skip rfl ?_; simp only [Act.put, List.setIfInBounds_toArray, List.set_cons_zero, List.set_cons_succ])
    | (refine wpAs_pure (v := ?_) rfl rfl ?_ ?_; rotate_left; (intro W hC hE; clear hE; (have a0 := (hC.cell (p := ⟨w2.heap.size, 0, none⟩) mg).trans m0; have a1 := (hC.cell (p := ⟨w2.heap.size, 1, none⟩) mg).trans m1; have a2 := (hC.cell (p := ⟨w2.heap.size, 2, none⟩) mg).trans m2; have a3 := (hC.cell (p := ⟨w2.heap.size, 3, none⟩) mg).trans m3; have b0 := (hC.cell (p := ⟨w.heap.size + 1, 0, none⟩) pg).trans p0; have b1 := (hC.cell (p := ⟨w.heap.size + 1, 1, none⟩) pg).trans p1); clear hC; go_simp; done); simp only [Act.put, List.setIfInBounds_toArray, List.set_cons_zero, List.set_cons_succ])
    | (refine wpAs_pure (v := ?_) rfl rfl ?_ ?_; rotate_left; (intro W hC hE; clear hE; (have a0 := (hC.cell (p := ⟨w2.heap.size, 0, none⟩) mg).trans m0; have a1 := (hC.cell (p := ⟨w2.heap.size, 1, none⟩) mg).trans m1; have a2 := (hC.cell (p := ⟨w2.heap.size, 2, none⟩) mg).trans m2; have a3 := (hC.cell (p := ⟨w2.heap.size, 3, none⟩) mg).trans m3; have b0 := (hC.cell (p := ⟨w.heap.size + 1, 0, none⟩) pg).trans p0; have b1 := (hC.cell (p := ⟨w.heap.size + 1, 1, none⟩) pg).trans p1); clear hC; go_simp; with_reducible rfl); simp only [Act.put, List.setIfInBounds_toArray, List.set_cons_zero, List.set_cons_succ]))
  refine wpAs_act rfl rfl ?_ ?_
  · intro W hC hE
    clear hE
    refine does_enter (f := 44) (args := #[.agg #[.int .i64 n.1, .slice I n.2.length ci]]) ?_ ?_
    · go_simp
    · refine (hBk.out _ W (U3.out.below hC)).mono ?_
      rintro e W' ⟨u, rfl, hu, hb⟩
      exact ⟨_, rfl, hu, hb⟩
  simp only [Act.put, List.setIfInBounds_toArray, List.set_cons_zero, List.set_cons_succ, envAdd]
  intro x24
  refine wpAs_act rfl rfl ?_ ?_
  · intro W hC hE
    have h24 := hE.1 rfl
    clear hE
    refine does_enter (f := 43) (args := #[.agg #[.slice P S.1.1.length p, .slice Q S.1.2.length q', .slice R1 S.2.1.length r1, .slice K S.2.2.length k9], x24]) ?_ ?_
    · go_simp
    · refine (hTk.out _ x24 W (S3.out.below hC) h24).mono ?_
      rintro e W' ⟨A, ca, B, cb, N, cn, L, cl, rfl, hz, hb⟩
      exact ⟨_, rfl, ⟨A, ca, B, cb, N, cn, L, cl, rfl, hz⟩, hb⟩
  simp only [Act.put, List.setIfInBounds_toArray, List.set_cons_zero, List.set_cons_succ, envAdd]
  intro x25
  refine wpAs_act rfl rfl ?_ ?_
  · intro W hC hE
    have h7 := hE.1 rfl
    clear hE
    go_simp
    exact ⟨h7, Below.refl _ _⟩
  simp only [Act.put, List.setIfInBounds_toArray, List.set_cons_zero, List.set_cons_succ, envAdd]
  intro x21
  refine wpAs_act rfl rfl ?_ ?_
  · intro W hC hE
    obtain ⟨A, ca, B, cb, N, cn, L, cl, rfl, hz⟩ := hE.1 rfl
    have hz' := Lib.hid hz
    clear hE hz
    go_simp
    exact ⟨⟨A, ca, B, cb, N, cn, L, cl, rfl, hz'.out⟩, Below.refl _ _⟩
  simp only [Act.put, List.setIfInBounds_toArray, List.set_cons_zero, List.set_cons_succ, envAdd]
  intro x26
  refine wpAs_fixed rfl rfl rfl ?_ ?_
  · intro W hC hE
    obtain ⟨A, ca, B, cb, N, cn, L, cl, rfl, hz⟩ := hE.2.1 rfl
    clear hE hz
    go_simp
    exact ⟨rfl, Below.refl _ _⟩
  simp only [Act.put, List.setIfInBounds_toArray, List.set_cons_zero, List.set_cons_succ]
  refine wpAs_act rfl rfl ?_ ?_
  · intro W hC hE
    have hs := hC.size
    clear hE hC
    go_simp
    exact ⟨⟨W.heap.size, rfl, hs, heap_alloc_new _ _⟩, (Below.refl _ _).alloc (Nat.le_refl _) _⟩
  simp only [Act.put, List.setIfInBounds_toArray, List.set_cons_zero, List.set_cons_succ, envAdd]
  intro x9
  refine wpAs_end fun W hC hE => ?_
  obtain ⟨⟨g, rfl, hg, hz⟩, ⟨A5, a5, B5, b5, N5, n5, L5, l5, rfl, hs⟩, _⟩ := hE
  obtain ⟨c0, c1, c2, c3, c4, c5⟩ := four_cells hz
  obtain ⟨W5, hW5, g5, gr5, gs5⟩ := put_four (a' := .slice A5 T.1.1.length a5) (b' := .slice B5 T.1.2.length b5) (c' := .slice N5 T.2.1.length n5) (d' := .slice L5 T.2.2.length l5) hz
  have hs5 := Lib.hid (sto_put_zero hs hfull.out hz (by simp) gr5)
  have hb5 := hC.grown gr5 hC.size (fun q e => by cases e; exact hg)
  have B9 := Lib.hid (B3.out.trans (hb5.mono B3.out.size))
  have F5 := Lib.hid ((hb5.block (w.heap.size + 2) (by have := z3.out; omega)).trans F3.out)
  have G5 := Lib.hid g5
  replace hz := Lib.hid hz
  clear hs hC gr5 gs5 hb5 g5 m0 m1 m2 m3 p0 p1
  go_upto_region 5 with fail
  clear hW5 c0 c1 c2 c3 c4 c5
  obtain ⟨w5, rfl⟩ : ∃ w5 : World, w5 = W5 := ⟨_, rfl⟩
  rcases hways with ⟨e9, hp⟩ | ⟨e0, k, hp, hkN, hkV⟩
  · subst hp
    replace e9 := Lib.hid e9
    have F9 := F5.out
    obtain ⟨k0, k1, k2, k3, k4, k5⟩ := four_cells F9
    obtain ⟨W9, hW9, g9, gr9, gs9⟩ := put_four (a' := .slice none 0 0) (b' := .slice none 0 0) (c' := .slice none 0 0) (d' := .slice none 0 0) F9
    obtain ⟨n0, n1, n2, n3, _, _⟩ := four_cells g9
    have hB9 := Lib.hid ((B9).out.grown gr9 (B9).out.size (fun q e => by cases e; omega))
    replace g9 := Lib.hid g9
    replace F9 := Lib.hid F9
    clear gr9 gs9
    go_wp2_with fail
    refine bodyPost_ret (v := .tuple #[.agg #[.slice none 0 0, .slice none 0 0, .slice none 0 0, .slice none 0 0], .int .i64 0, .int .i64 9]) (by simp [results, Tryz.results24, go_sem, n0, n1, n2, n3]) rfl ?_
    obtain ⟨hn0, hv0⟩ := tk_no (s := S) (b := bl) (by rw [e9.out]; decide)
    rw [hE.out, hN.out, hV.out, e9.out, hn0, hv0]
    exact ⟨_, rfl, sto_empty _ _, hB9.out⟩
  · subst hp
    have F9 := F5.out
    obtain ⟨m0, m1, m2, m3, _, _⟩ := four_cells G5.out
    obtain ⟨c0, c1, c2, c3, c4, c5⟩ := four_cells F9
    obtain ⟨W9, hW9, g9, gr9, gs9⟩ := put_four (a' := .slice A5 T.1.1.length a5) (b' := .slice B5 T.1.2.length b5) (c' := .slice N5 T.2.1.length n5) (d' := .slice L5 T.2.2.length l5) F9
    obtain ⟨o0, o1, o2, o3, _, _⟩ := four_cells g9
    have hfin := Lib.hid (sto_put_zero hs5.out hfull.out F9 (by simp) gr9)
    have hB9 := Lib.hid (B9.out.grown gr9 B9.out.size (fun q e => by cases e; omega))
    have i1 : ¬ (k : Int) < 0 := by omega
    replace e0 := Lib.hid e0
    replace hkN := Lib.hid hkN
    replace hkV := Lib.hid hkV
    replace g9 := Lib.hid g9
    replace F9 := Lib.hid F9
    clear gr9 gs9
    go_wp2_with fail
    refine bodyPost_ret (v := .tuple #[.agg #[.slice A5 T.1.1.length a5, .slice B5 T.1.2.length b5, .slice N5 T.2.1.length n5, .slice L5 T.2.2.length l5], .int .i64 (k : Int), .int .i64 0]) (by simp [results, Tryz.results24, go_sem, o0, o1, o2, o3]) rfl ?_
    rw [hE.out, hN.out, hV.out, e0.out, hkN.out, hkV.out]
    exact ⟨_, rfl, hfin.out, hB9.out⟩
theorem full_mk (s : Rm) (n : Nd) : FullR (mkV s n) := by
  by_cases h : mkE s n = 0
  · obtain ⟨_, _, _, ht, _, hV⟩ := mk_ok h
    rw [hV]
    exact full_tk _ _
  · rw [(mk_no h).2]; exact full_empty
set_option maxRecDepth 100000 in
set_option maxHeartbeats 8000000 in
theorem refMake9_any (v u : Value) (s : Rm) (n : Nd) (w : World) (h : Sto (Old w) w v s) (hu : Nod (Old w) w u n) :
    Calls Tryz.prog 8 #[v, u] w fun e w' => ∃ t, e = .returned (.tuple #[t, .int .i64 (mkN s n), .int .i64 (mkE s n)]) ∧ Sto (Old w') w' t (mkV s n) ∧ Below w.heap.size w w' := by
  obtain ⟨A, ca, B, cb, N, cn, L, cl, rfl, _⟩ := id h.open
  obtain ⟨I, ci, rfl, _⟩ := id hu.open
  obtain ⟨w1, hw1, f1, fn, f2, hsz, hB⟩ := box_three3 (w := w) (.slice A s.1.1.length ca) (.slice B s.1.2.length cb) (.slice N s.2.1.length cn) (.slice L s.2.2.length cl) (.int .i64 n.1) (.slice I n.2.length ci)
  have H := Lib.hid (h.below hB)
  have U := Lib.hid (hu.below hB)
  clear h hu
  obtain ⟨k0, k1, k2, k3, _, kg⟩ := four_cells f1
  obtain ⟨p0, p1, _, pg⟩ := two_cells fn
  replace hsz := Lib.hid hsz
  have f1h := Lib.hid f1
  replace f2 := Lib.hid f2
  have fnh := Lib.hid fn
  clear fn f1
  cases hm : mayR s with
  | false =>
    have hE : mkE s n = 8 := by simp [mkE, hm]
    obtain ⟨hN, hV⟩ := mk_no (s := s) (n := n) (by rw [hE]; decide)
    replace hE := Lib.hid hE
    replace hN := Lib.hid hN
    replace hV := Lib.hid hV
    go_enter Tryz.func8, Tryz.ntmps8
    go_upto_region 1 with fail
    clear hw1
    go_wp2_with fail
    with_reducible refine (refMayR_any _ s _ H.out).mono ?_
    rintro e w2 ⟨rfl, hb2⟩
    rw [hm]
    have F2 := (hb2.block (w.heap.size + 2) (by rw [hsz.out]; omega)).trans f2.out
    replace hb2 := Lib.hid (hB.trans (hb2.mono hB.size))
    clear k0 k1 k2 k3 p0 p1
    obtain ⟨k0, k1, k2, k3, k4, k5⟩ := four_cells F2
    obtain ⟨W9, hW9, g9, gr9, gs9⟩ := put_four (a' := .slice none 0 0) (b' := .slice none 0 0) (c' := .slice none 0 0) (d' := .slice none 0 0) F2
    obtain ⟨n0, n1, n2, n3, _, _⟩ := four_cells g9
    have hB9 := Lib.hid ((hb2).out.grown gr9 (hb2).out.size (fun q e => by cases e; omega))
    replace g9 := Lib.hid g9
    replace F2 := Lib.hid F2
    clear gr9 gs9
    go_wp2_with fail
    refine bodyPost_ret (v := .tuple #[.agg #[.slice none 0 0, .slice none 0 0, .slice none 0 0, .slice none 0 0], .int .i64 0, .int .i64 8]) (by simp [results, Tryz.results8, go_sem, n0, n1, n2, n3]) rfl ?_
    rw [hE.out, hN.out, hV.out]
    exact ⟨_, rfl, sto_empty _ _, hB9.out⟩
  | true =>
  have hmm := Lib.hid hm
  cases hn : mayN n with
  | false =>
    have hE : mkE s n = 8 := by simp [mkE, hn]
    obtain ⟨hN, hV⟩ := mk_no (s := s) (n := n) (by rw [hE]; decide)
    replace hE := Lib.hid hE
    replace hN := Lib.hid hN
    replace hV := Lib.hid hV
    go_enter Tryz.func8, Tryz.ntmps8
    go_upto_region 1 with fail
    clear hw1
    go_wp2_with fail
    with_reducible refine (refMayR_any _ s _ H.out).mono ?_
    rintro e w2 ⟨rfl, hb2⟩
    rw [hm]
    have F2 := Lib.hid ((hb2.block (w.heap.size + 2) (by rw [hsz.out]; omega)).trans f2.out)
    have E2 := (hb2.block (w.heap.size + 1) pg).trans fnh.out
    have U2 := Lib.hid (U.out.below hb2)
    have s2 : Hid (w.heap.size + 3 ≤ w2.heap.size) := Lib.hid (by have := hsz.out; have := hb2.size; omega)
    replace hb2 := Lib.hid (hB.trans (hb2.mono hB.size))
    clear k0 k1 k2 k3 p0 p1 hm
    obtain ⟨p0, p1, _, pg⟩ := two_cells E2
    replace E2 := Lib.hid E2
    go_wp2_with fail
    with_reducible refine (refMayN_any _ n _ U2.out).mono ?_
    rintro e w3 ⟨rfl, hb3⟩
    rw [hn]
    have F3 := (hb3.block (w.heap.size + 2) (by have := s2.out; omega)).trans F2.out
    replace hb3 := Lib.hid (hb2.out.trans (hb3.mono hb2.out.size))
    clear p0 p1
    obtain ⟨k0, k1, k2, k3, k4, k5⟩ := four_cells F3
    obtain ⟨W9, hW9, g9, gr9, gs9⟩ := put_four (a' := .slice none 0 0) (b' := .slice none 0 0) (c' := .slice none 0 0) (d' := .slice none 0 0) F3
    obtain ⟨n0, n1, n2, n3, _, _⟩ := four_cells g9
    have hB9 := Lib.hid ((hb3).out.grown gr9 (hb3).out.size (fun q e => by cases e; omega))
    replace g9 := Lib.hid g9
    replace F3 := Lib.hid F3
    clear gr9 gs9
    go_wp2_with fail
    refine bodyPost_ret (v := .tuple #[.agg #[.slice none 0 0, .slice none 0 0, .slice none 0 0, .slice none 0 0], .int .i64 0, .int .i64 8]) (by simp [results, Tryz.results8, go_sem, n0, n1, n2, n3]) rfl ?_
    rw [hE.out, hN.out, hV.out]
    exact ⟨_, rfl, sto_empty _ _, hB9.out⟩
  | true =>
    have hnn := Lib.hid hn
    have hfull := Lib.hid (full_mk s n)
    go_enter Tryz.func8, Tryz.ntmps8
    go_upto_region 1 with fail
    clear hw1
    go_wp2_with fail
    with_reducible refine (refMayR_any _ s _ H.out).mono ?_
    rintro e w2 ⟨rfl, hb2⟩
    rw [hm]
    have F2 := Lib.hid ((hb2.block (w.heap.size + 2) (by rw [hsz.out]; omega)).trans f2.out)
    have G2 := Lib.hid ((hb2.block w.heap.size kg).trans f1h.out)
    have E2 := (hb2.block (w.heap.size + 1) pg).trans fnh.out
    have U2 := Lib.hid (U.out.below hb2)
    have H2 := Lib.hid (H.out.below hb2)
    have s2 : Hid (w.heap.size + 3 ≤ w2.heap.size) := Lib.hid (by have := hsz.out; have := hb2.size; omega)
    replace hb2 := Lib.hid (hB.trans (hb2.mono hB.size))
    clear k0 k1 k2 k3 p0 p1 hm
    obtain ⟨p0, p1, _, pg⟩ := two_cells E2
    replace E2 := Lib.hid E2
    go_wp2_with fail
    with_reducible refine (refMayN_any _ n _ U2.out).mono ?_
    rintro e w3 ⟨rfl, hb3⟩
    rw [hn]
    have F3 := Lib.hid ((hb3.block (w.heap.size + 2) (by have := s2.out; omega)).trans F2.out)
    have G3 := (hb3.block w.heap.size (by have := s2.out; omega)).trans G2.out
    have E3 := (hb3.block (w.heap.size + 1) pg).trans E2.out
    have U3 := Lib.hid (U2.out.below hb3)
    have H3 := Lib.hid (H2.out.below hb3)
    have s3 : Hid (w.heap.size + 3 ≤ w3.heap.size) := Lib.hid (by have := s2.out; have := hb3.size; omega)
    replace hb3 := Lib.hid (hb2.out.trans (hb3.mono hb2.out.size))
    clear p0 p1 hn
    obtain ⟨p0, p1, _, _⟩ := two_cells E3
    obtain ⟨m0, m1, m2, m3, _, _⟩ := four_cells G3
    replace E3 := Lib.hid E3
    replace G3 := Lib.hid G3
    go_wp2_with fail
    with_reducible refine (refMade_any _ _ s n hmm.out hnn.out _ H3.out U3.out).mono ?_
    rintro e w4 ⟨t, rfl, ht, hb4⟩
    obtain ⟨V, hV⟩ : ∃ V, mkV s n = V := ⟨_, rfl⟩
    rw [hV] at ht hfull
    obtain ⟨P, p, Q, q', R1, r1, K, k9, rfl, _⟩ := id ht.open
    have F4 := (hb4.block (w.heap.size + 2) (by have := s3.out; omega)).trans F3.out
    have B4 := Lib.hid (hb3.out.trans (hb4.mono hb3.out.size))
    obtain ⟨c0, c1, c2, c3, c4, c5⟩ := four_cells F4
    obtain ⟨W9, hW9, g9, gr9, gs9⟩ := put_four (a' := .slice P V.1.1.length p) (b' := .slice Q V.1.2.length q') (c' := .slice R1 V.2.1.length r1) (d' := .slice K V.2.2.length k9) F4
    obtain ⟨o0, o1, o2, o3, _, _⟩ := four_cells g9
    have hfin := Lib.hid (sto_put_zero ht hfull.out F4 (by simp) gr9)
    have hB9 := Lib.hid (B4.out.grown gr9 B4.out.size (fun q e => by cases e; omega))
    replace hV := Lib.hid hV
    replace g9 := Lib.hid g9
    replace F4 := Lib.hid F4
    clear gr9 gs9 ht hb4 m0 m1 m2 m3 p0 p1
    obtain ⟨qn, hqn⟩ : ∃ q, mkN s n = q := ⟨_, rfl⟩
    obtain ⟨qe, hqe⟩ : ∃ q, mkE s n = q := ⟨_, rfl⟩
    rw [hqn, hqe]
    replace hqn := Lib.hid hqn
    replace hqe := Lib.hid hqe
    go_wp2_with fail
    refine bodyPost_ret (v := .tuple #[.agg #[.slice P V.1.1.length p, .slice Q V.1.2.length q', .slice R1 V.2.1.length r1, .slice K V.2.2.length k9], .int .i64 qn, .int .i64 qe]) (by simp [results, Tryz.results8, go_sem, o0, o1, o2, o3]) rfl ?_
    rw [hV.out, hqn.out, hqe.out]
    exact ⟨_, rfl, hfin.out, hB9.out⟩
end Go.Proofs.YtmdlgnlfgfhkmaaGreat

/-
  Package drop: refer, which counts all Refs of a node in a table of the caller's own. Conditions: those that each lemma states.
-/
namespace Go.Proofs.YtmdlgnlfgfhkmaaGreat
open Go.RowKit

theorem grow_of {a b : World} {row : Option Nat} (h : Below a.heap.size a b) : a.grownBy b row := grow_later (grow_refl a row) h
/-- What lies elsewhere, behind a row's turning. -/
theorem Nod.off {g : Nat} {W W1 : World} {v : Value} {n : Nd} (h : Nod (Off g W) W v n) (gr : W.grownBy W1 (some g)) : Nod (Off g W1) W1 v n := h.map fun _ _ hp hc => off_put gr hp hc

set_option maxRecDepth 100000 in
set_option maxHeartbeats 8000000 in
theorem refer_any (g c lo : Nat) (t0 : List UInt8) (u : Value) (n : Nd) (hn : mayN n = true) (hl0 : t0.length = 256) (w : World) (hown : w.ownsRow lo 5 1 (.slice (some ⟨g, 0, none⟩) 256 c) 256 (u8s t0)) (hu : Nod (Off g w) w u n) :
    Calls Tryz.prog 20 #[.slice (some ⟨g, 0, none⟩) 256 c, u] w fun e w' => e = .returned (.int .i64 (ctE t0 n.2)) ∧ w.grownBy w' (some g) ∧ (ctE t0 n.2 = 0 → w'.ownsRow lo 5 1 (.slice (some ⟨g, 0, none⟩) 256 c) 256 (u8s (ctV t0 n.2))) := by
  obtain ⟨I, ci, rfl, _, _, _, hI⟩ := hu.open
  obtain ⟨lw, hlw⟩ : ∃ q, n.1 = q := ⟨_, rfl⟩
  obtain ⟨l, hl⟩ : ∃ q, n.2 = q := ⟨_, rfl⟩
  obtain ⟨m, hlm⟩ : ∃ q, l.length = q := ⟨_, rfl⟩
  have hrf := Lib.hid (refs_may hn)
  obtain ⟨⟨_, _, s3, _⟩, _⟩ := mayN_of hn
  rw [hl, hlm] at s3 hI
  rw [hl] at hrf ⊢
  rw [hlw, hlm]
  have hg0 : g < w.heap.size := ((hown.lt g rfl).2)
  obtain ⟨w1, hw1, b1, hs1, hB1⟩ := box_pair' w (.int .i64 lw) (.slice I m ci) 31
  have HI := Lib.hid (stab_its _ _ _ _ _ _ (fun _ _ hp hc => off_below (g := g) hB1 hp hc) hI)
  have HO := Lib.hid (own_below hown hB1)
  have GB := Lib.hid (grow_of (row := some g) hB1)
  obtain ⟨p0, p1, _, pg⟩ := two_cells b1
  have hgs : Hid (g ≠ w.heap.size) := Lib.hid (by omega)
  have b1h := Lib.hid b1
  replace hl0 := Lib.hid hl0
  replace hl := Lib.hid hl
  replace hlw := Lib.hid hlw
  replace hlm := Lib.hid hlm
  replace hs1 := Lib.hid hs1
  clear hown hu hI b1 hB1
  go_enter Tryz.func20, Tryz.ntmps20
  go_upto_region 1 with fail
  clear hw1
  go_wp2_with fail
  clear p0 p1
  go_loopw [10] (fun vi wr => ∃ i : Nat, i ≤ m ∧ vi = .int .i64 i ∧ ctE t0 (l.take i) = 0 ∧ wr.ownsRow lo 5 1 (.slice (some ⟨g, 0, none⟩) 256 c) 256 (u8s (ctV t0 (l.take i))) ∧ w1.grownBy wr (some g)) (fun vi _ => m - (intOf vi).toNat)
  case atStart => exact ⟨0, by omega, rfl, rfl, HO.out, grow_refl _ _⟩
  case round =>
    obtain ⟨i, hi, rfl, hE, hown, hgr⟩ := hrel
    have GF := Lib.hid (grow_trans GB.out hgr)
    by_cases hlt : i < m
    case neg =>
      have hlast : Hid (l.take i = l) := Lib.hid (List.take_of_length_le (by rw [hlm.out]; omega))
      have hEl : Hid (ctE t0 l = 0) := Lib.hid (by rw [← hE, hlast.out])
      rw [hlast.out] at hown
      have HO2 := Lib.hid hown
      clear hown hgr hE
      go_wp2_with fail
      go_ret
      exact ⟨ret_int hEl.out.symm, GF.out, fun _ => HO2.out⟩
    obtain ⟨x, hx⟩ : ∃ x, l[i]? = some x := ⟨_, List.getElem?_eq_getElem (by rw [hlm.out]; exact hlt)⟩
    have hsp := Lib.hid (ct_split hE hx)
    have hnx := Lib.hid (ct_next hE hx)
    have hxr := hrf.out x (List.mem_of_getElem? hx)
    have hIr := stab_its _ _ _ _ _ _ (fun _ _ hp hc => off_put (g := g) hgr hp hc) HI.out
    obtain ⟨ad5, E5, ce5, rfl, _, ⟨z0, z1, z2, z3, z4⟩, _⟩ := its_at hIr hx
    clear hIr
    obtain ⟨w5, hw5, y0, y1, y2, y3, y4, hs5, hB5, _⟩ := box_five wr (.int .u8 (x.1.1.toNat : Int)) (.int .u32 x.1.2.1) (.int .u32 x.1.2.2) (.int .i64 x.2.1) (.slice E5 x.2.2.length ce5) 52
    have hown5 := own_below hown hB5
    have hgr5 := Lib.hid (grow_later hgr (hB5.mono hgr.size))
    have GF5 := Lib.hid (grow_trans GB.out hgr5.out)
    replace hs5 := Lib.hid hs5
    have i4 : (0 : Int) ≤ (i : Int) := by omega
    have i5 : (i : Int) < (m : Int) := by omega
    obtain ⟨z, hzz⟩ : ∃ z, x.2.1 = z := ⟨_, rfl⟩
    have hc1 : ∀ T, ctE T (x :: l.drop (i + 1)) = if z = 0 then ctE T (l.drop (i + 1)) else if T[z.toNat]?.getD 0 = 0 then 6 else if T[z.toNat]?.getD 0 = 255 then 70 else ctE (T.set z.toNat (T[z.toNat]?.getD 0 + 1)) (l.drop (i + 1)) := fun T => by rw [← hzz]; rfl
    have hc2 : ∀ T, ctE T [x] = if z = 0 then 0 else if T[z.toNat]?.getD 0 = 0 then 6 else if T[z.toNat]?.getD 0 = 255 then 70 else 0 := fun T => by rw [← hzz]; rfl
    have hc3 : ∀ T, ctV T [x] = if z = 0 then T else T.set z.toNat (T[z.toNat]?.getD 0 + 1) := fun T => by rw [← hzz]; rfl
    rw [hzz] at z3 hxr hw5 y3
    replace hx := Lib.hid hx
    replace hzz := Lib.hid hzz
    obtain ⟨T, hT⟩ : ∃ T, ctV t0 (l.take i) = T := ⟨_, rfl⟩
    have hTl : Hid (T.length = 256) := Lib.hid (by rw [← hT, ctV_len, hl0.out])
    rw [hT] at hown5 hsp hnx
    replace hT := Lib.hid hT
    replace hE := Lib.hid hE
    clear hown hgr hB5
    go_upto_region 4 with fail
    clear hw5 z0 z1 z2 z3 z4
    by_cases hz0 : z = 0
    · have hn1 : Hid (ctE t0 (l.take (i + 1)) = 0 ∧ ctV t0 (l.take (i + 1)) = T) := Lib.hid ⟨by rw [hnx.out.1, hc2, if_pos hz0], by rw [hnx.out.2, hc3, if_pos hz0]⟩
      subst hz0
      have HO := Lib.hid hown5
      clear hc1 hc2 hc3 hxr hown5 hE hsp hnx
      go_wp2_with fail
      go_roundw
      case rel => exact ⟨i + 1, by omega, by go_num, hn1.out.1, by rw [hn1.out.2]; exact HO.out, hgr5.out⟩
      case measure => simp [intOf]; omega
    obtain ⟨r, hr, r8, r256⟩ : ∃ r : Nat, z = r ∧ 8 ≤ r ∧ r < 256 := ⟨z.toNat, by omega, by omega, by omega⟩
    rw [hc1, if_neg hz0, show z.toNat = r by omega] at hsp
    rw [hc2, hc3, if_neg hz0, if_neg hz0, show z.toNat = r by omega] at hnx
    have j3 : (z == 0) = false := by simpa using hz0
    subst hr
    have hcell := own_cell hown5 (j := r) r256
    obtain ⟨y, hy⟩ : ∃ y, T[r]?.getD 0 = y := ⟨_, rfl⟩
    rw [hy] at hsp hnx hcell
    replace hy := Lib.hid hy
    by_cases hy0 : y = 0
    · have t1 := byte_same (y := 0) (q := 0) rfl hy0
      have hEl : Hid (ctE t0 l = 6) := Lib.hid (by rw [hsp.out, if_pos hy0])
      clear hc1 hc2 hc3 hxr hown5 hE hsp hnx hz0
      go_wp2_with fail
      go_ret
      exact ⟨ret_int hEl.out.symm, GF5.out, fun h => by rw [hEl.out] at h; cases h⟩
    have t1 := byte_unlike (y := 0) (q := 0) rfl hy0
    by_cases hy5 : y = 255
    · have t2 := byte_same (y := 255) (q := 255) rfl hy5
      have hEl : Hid (ctE t0 l = 70) := Lib.hid (by rw [hsp.out, if_neg hy0, if_pos hy5])
      clear hc1 hc2 hc3 hxr hown5 hE hsp hnx hz0
      go_wp2_with fail
      go_ret
      exact ⟨ret_int hEl.out.symm, GF5.out, fun h => by rw [hEl.out] at h; cases h⟩
    have t2 := byte_unlike (y := 255) (q := 255) rfl hy5
    have hfr : w5.frozen? ⟨g, r, none⟩ = false := hown5.frozenAt r
    obtain ⟨hu1, hu2, hu3⟩ := up_byte hy5
    have hset := own_set hown5 r (y + 1)
    have hn1 : Hid (ctE t0 (l.take (i + 1)) = 0 ∧ ctV t0 (l.take (i + 1)) = T.set r (y + 1)) := Lib.hid ⟨by rw [hnx.out.1, if_neg hy0, if_neg hy5], hnx.out.2⟩
    rw [← hu1] at hset
    replace hset := Lib.hid hset
    replace hu1 := Lib.hid hu1
    have hgn := Lib.hid (grow_put hgr5.out (p := ⟨g, r, none⟩) rfl (.int .u8 ((y.toNat : Int) + 1)))
    clear hc1 hc2 hc3 hxr hown5 hE hsp hnx hz0
    go_wp2_with fail
    go_roundw
    case rel => exact ⟨i + 1, by omega, by go_num, hn1.out.1, by rw [hn1.out.2]; exact hset.out, hgn.out⟩
    case measure => simp [intOf]; omega
end Go.Proofs.YtmdlgnlfgfhkmaaGreat

/-
  Package drop: refs, which ranges over slices.Backward of items. Conditions: those that each lemma states.
-/
namespace Go.Proofs.YtmdlgnlfgfhkmaaGreat
open Go.RowKit Go.Shelf Go.Maps
attribute [local go_sem] Oper.semAt_some

theorem rf_info0 : (Tryz.prog.info? 63).map (fun i => (i.zero, i.size, i.bytes)) = some (some (.agg #[.int .i64 0, .int .i64 0]), 2, 16) := by kernel_rfl
/-- The cells of references. -/
def rfV (l : List Rf) : List Value := l.flatMap fun x => [.int .i64 x.1, .int .i64 x.2]
theorem rfV_len (l : List Rf) : (rfV l).length = l.length * 2 := by
  induction l with
  | nil => rfl
  | cons x l ih =>
    show (rfV l).length + 2 = _
    rw [ih, List.length_cons]
    omega
theorem rfV_app (a b : List Rf) : rfV (a ++ b) = rfV a ++ rfV b := by simp [rfV]
theorem rfV_one (l : List Rf) : ∀ v ∈ rfV l, v.oneCell' = true := by
  intro v hv
  simp only [rfV, List.mem_flatMap] at hv
  obtain ⟨x, _, hx⟩ := hv
  simp at hx
  rcases hx with rfl | rfl <;> rfl
theorem rfV_at {l : List Rf} {i : Nat} {x : Rf} (h : l[i]? = some x) : (rfV l)[i * 2]? = some (.int .i64 x.1) ∧ (rfV l)[i * 2 + 1]? = some (.int .i64 x.2) := by
  induction l generalizing i with
  | nil => simp at h
  | cons y l ih =>
    cases i with
    | zero =>
      simp at h
      subst h
      exact ⟨rfl, rfl⟩
    | succ i =>
      have := ih (i := i) (by simpa using h)
      rw [show (i + 1) * 2 = i * 2 + 1 + 1 by omega]
      exact this

set_option maxRecDepth 100000 in
set_option maxHeartbeats 4000000 in
/-- The closure of slices.Backward at items, for every loop body that keeps what lay below n₀. -/
theorem backI_in (F : Fence) (n : Nat) (hf : F.fn 92) (hro : F.round = none) (hn : 1 ≤ n) (l Bs n₀ cap m : Nat) (A : Option Addr) (ad : Addr) (f : Nat → It) (E : Nat → Option Addr) (ca : Nat → Nat) (hm : m ≤ 9223372036854775807) (hA : 0 < m → A = some ad ∧ ad.block < n₀) (J Jx : List Nat → World → Prop)
    (hY : ∀ (pre : List Nat) (x : Nat) (W : World), J pre W → pre.length < m → YieldAt F (n - 1) Tryz.prog l #[.int .i64 (x : Int), .agg #[.int .u8 ((f x).1.1.toNat : Int), .int .u32 (f x).1.2.1, .int .u32 (f x).1.2.2, .int .i64 (f x).2.1, .slice (E x) (f x).2.2.length (ca x)]] W fun e W' =>
      (e = .returned (.bool true) ∧ J (pre ++ [x]) W' ∧ Keeps n₀ Bs W W') ∨ (e = .returned (.bool false) ∧ Jx (pre ++ [x]) W'))
    (W : World) (hBs : W.cell? ⟨Bs, 0, none⟩ = some (.slice A m cap)) (hc : ∀ j, j < m → At5 W (ad.add (j * 5)) (f j) (.slice (E j) (f j).2.2.length (ca j))) (h0 : J [] W) :
    CallsIn F n Tryz.prog 92 #[.func (.yield l) #[] #[], .pointer (some ⟨Bs, 0, none⟩)] W fun e W' => (∃ v, e = .returned v) ∧
      ((∃ ys, ys = downs m m ∧ J ys W') ∨ (∃ pre, (∃ k, k ≤ m ∧ pre = downs m k) ∧ Jx pre W')) := by
  refine callsIn_of_wp Tryz.func92 rfl hf ?_ hro
  simp only [Tryz.ntmps92, List.size_toArray, List.length_cons, List.length_nil, Nat.reduceAdd, Nat.reduceSub, Array.replicate_succ, Array.replicate_zero, List.push_toArray, List.append_toArray, List.nil_append, List.cons_append]
  have HC := Lib.hid hc
  clear hc
  replace hA := Lib.hid hA
  gi_wp2
  gi_loopw [3] (fun i wr => ∃ k : Nat, k ≤ m ∧ i = .int .i64 ((m : Int) - 1 - k) ∧ J (downs m k) wr ∧ Below n₀ W wr ∧ wr.cell? ⟨Bs, 0, none⟩ = some (.slice A m cap))
    (fun i _ => (intOf i + 1).toNat)
  case atStart => exact ⟨0, Nat.zero_le _, by simp, h0, Below.refl _ _, hBs⟩
  case round =>
    obtain ⟨k, hk, rfl, hJs, hnx, hbs⟩ := hrel
    by_cases hlt : k < m
    · obtain ⟨rfl, hb⟩ := hA.out (by omega)
      have hx := HC.out (m - 1 - k) (by omega)
      have g1 := (hnx.cell (p := ad.add ((m - 1 - k) * 5)) (by rw [add_block]; exact hb)).trans hx.c0
      have g2 := (hnx.cell (p := ⟨(ad.add ((m - 1 - k) * 5)).block, (ad.add ((m - 1 - k) * 5)).off + 1, none⟩) (by rw [add_block]; exact hb)).trans hx.c1
      have g3 := (hnx.cell (p := ⟨(ad.add ((m - 1 - k) * 5)).block, (ad.add ((m - 1 - k) * 5)).off + 2, none⟩) (by rw [add_block]; exact hb)).trans hx.c2
      have g4 := (hnx.cell (p := ⟨(ad.add ((m - 1 - k) * 5)).block, (ad.add ((m - 1 - k) * 5)).off + 3, none⟩) (by rw [add_block]; exact hb)).trans hx.c3
      have g5 := (hnx.cell (p := ⟨(ad.add ((m - 1 - k) * 5)).block, (ad.add ((m - 1 - k) * 5)).off + 4, none⟩) (by rw [add_block]; exact hb)).trans hx.c4
      clear hx
      obtain ⟨fn, tmps, assign, body, hy, hR⟩ := hY _ (m - 1 - k) wr hJs (by rw [downs_length]; exact hlt)
      try dsimp only at hy
      have e1 : ((m : Int) - 1 - k).toNat = m - 1 - k := by omega
      have e2 : ((m - 1 - k : Nat) : Int) = (m : Int) - 1 - k := by omega
      rw [e2] at hy
      clear e2
      have hds := Lib.hid (downs_succ m k)
      generalize ((f (m - 1 - k)).1.1.toNat : Int) = q1 at *
      generalize (f (m - 1 - k)).1.2.1 = q2 at *
      generalize (f (m - 1 - k)).1.2.2 = q3 at *
      generalize (f (m - 1 - k)).2.1 = q4 at *
      generalize (f (m - 1 - k)).2.2.length = q5 at *
      generalize E (m - 1 - k) = q6 at *
      generalize ca (m - 1 - k) = q7 at *
      gi_wp2
      refine hR.mono ?_
      rintro e W3 (⟨rfl, hJ3, hk3⟩ | ⟨rfl, hJx3⟩)
      · gi_wp2
        go_roundw
        case rel => exact ⟨k + 1, by omega, by go_num, by rw [hds.out]; exact hJ3, hnx.trans hk3.1, hk3.2.trans hbs⟩
        case measure => simp [intOf]; omega
      · gi_wp2
        refine bodyPost_ret (results_none rfl _ _ _) rfl ?_
        exact ⟨⟨_, rfl⟩, .inr ⟨_, ⟨k + 1, by omega, hds.out.symm⟩, hJx3⟩⟩
    · obtain rfl : k = m := by omega
      gi_wp2
      go_end0
      exact ⟨⟨_, rfl⟩, .inl ⟨_, rfl, hJs⟩⟩

set_option maxHeartbeats 1000000 in
/-- slices.Backward(s): the slice value is boxed; the function value captures the box. -/
theorem backwardI_in (F : Fence) (n : Nat) (hf : F.fn 81) (hro : F.round = none) (a : Option Addr) (len cap : Nat) (w : World) :
    CallsIn F n Tryz.prog 81 #[.slice a len cap] w fun e w' => e = .returned (.func (.func 92) #[] #[.pointer (some ⟨w.heap.size, 0, none⟩)]) ∧ w' = w.alloc (.cells #[.slice a len cap] 29) := by
  refine callsIn_of_wp Tryz.func81 rfl hf ?_ hro
  simp only [Tryz.ntmps81, List.size_toArray, List.length_cons, List.length_nil, Nat.reduceAdd, Nat.reduceSub, Array.replicate_succ, Array.replicate_zero, List.push_toArray, List.append_toArray, List.nil_append, List.cons_append]
  gi_wp2
  go_ret
  exact ⟨rfl, rfl⟩

/-- slices.Backward(s) hands back a value that gives the elements from behind: all, or the first k of them. -/
theorem backwardI_stops (F : Fence) (n : Nat) (hf : F.fn 92) (hro : F.round = none) (hn : 1 ≤ n) (Bs n₀ cap m : Nat) (A : Option Addr) (ad : Addr) (f : Nat → It) (E : Nat → Option Addr) (ca : Nat → Nat) (hm : m ≤ 9223372036854775807) (w : World) (hBs : Bs < w.heap.size) (_hn₀ : n₀ ≤ w.heap.size)
    (hc : w.cell? ⟨Bs, 0, none⟩ = some (.slice A m cap)) (hA : 0 < m → A = some ad ∧ ad.block < n₀) (hx : ∀ j, j < m → At5 w (ad.add (j * 5)) (f j) (.slice (E j) (f j).2.2.length (ca j))) :
    SeqStopsK F n Tryz.prog 92 #[.pointer (some ⟨Bs, 0, none⟩)] (fun x : Nat => #[Value.int .i64 (x : Int), Value.agg #[.int .u8 ((f x).1.1.toNat : Int), .int .u32 (f x).1.2.1, .int .u32 (f x).1.2.2, .int .i64 (f x).2.1, .slice (E x) (f x).2.2.length (ca x)]]) (Keeps n₀ Bs) (fun ys => ys = downs m m)
      (fun pre => ∃ k, k ≤ m ∧ pre = downs m k) m w := fun l J Jx W hW _ _ hY h0 => by
  have hc' := (hW.cell (p := ⟨Bs, 0, none⟩) hBs).trans hc
  exact backI_in F n hf hro hn l Bs n₀ cap m A ad f E ca hm hA J Jx hY W hc' (fun j hj => (hx j hj).below hW) h0

/-- A row of items, as functions of the place. -/
theorem its_fn {w : World} {A : Option Addr} {n c : Nat} {xs : List It} (h : rIts (Old w) w [.slice A n c] xs) (hn : xs.length = n) :
    ∃ (ad : Addr) (f : Nat → It) (E : Nat → Option Addr) (ca : Nat → Nat), (0 < n → A = some ad ∧ ad.block < w.heap.size) ∧ (∀ i x, xs[i]? = some x → f i = x) ∧ ∀ i, i < n → At5 w (ad.add (i * 5)) (f i) (.slice (E i) (f i).2.2.length (ca i)) := by
  subst hn
  have h2 : ∀ i, ∃ g : It × Option Addr × Nat, ∀ x, xs[i]? = some x → g.1 = x ∧ ∃ ad, A = some ad ∧ ad.block < w.heap.size ∧ At5 w (ad.add (i * 5)) x (.slice g.2.1 x.2.2.length g.2.2) := fun i => by
    cases hx : xs[i]? with
    | none => exact ⟨(((0, 0, 0), 0, []), none, 0), fun x e => by cases e⟩
    | some x =>
      obtain ⟨ad, E, ce, rfl, hok, h5, _⟩ := its_at h hx
      exact ⟨(x, E, ce), fun y e => by cases e; exact ⟨rfl, ad, rfl, by have := h5.lt; rwa [add_block] at this, h5⟩⟩
  obtain ⟨g, hg⟩ : ∃ g : Nat → It × Option Addr × Nat, ∀ i x, xs[i]? = some x → (g i).1 = x ∧ ∃ ad, A = some ad ∧ ad.block < w.heap.size ∧ At5 w (ad.add (i * 5)) x (.slice (g i).2.1 x.2.2.length (g i).2.2) :=
    ⟨fun i => Classical.choose (h2 i), fun i => Classical.choose_spec (h2 i)⟩
  rcases A with _ | ad
  · refine ⟨⟨0, 0, none⟩, fun i => (g i).1, fun i => (g i).2.1, fun i => (g i).2.2, fun h0 => ?_, fun i x hi => (hg i x hi).1, fun i hi => ?_⟩
    · obtain ⟨_, _, e, _⟩ := hg 0 _ (List.getElem?_eq_getElem h0)
      cases e
    · obtain ⟨_, _, e, _⟩ := hg i _ (List.getElem?_eq_getElem hi)
      cases e
  · refine ⟨ad, fun i => (g i).1, fun i => (g i).2.1, fun i => (g i).2.2, fun h0 => ?_, fun i x hi => (hg i x hi).1, fun i hi => ?_⟩
    · obtain ⟨_, _, e, hb, _⟩ := hg 0 _ (List.getElem?_eq_getElem h0)
      cases e
      exact ⟨rfl, hb⟩
    · obtain ⟨e1, _, e, _, h5⟩ := hg i _ (List.getElem?_eq_getElem hi)
      cases e
      rw [← e1] at h5
      exact h5

/-! ### What is collected -/
def colF (lv : Int) (f : Nat → It) (pre : List Nat) : List Rf := rfsL lv (pre.map f)
theorem colF_nil (lv : Int) (f : Nat → It) : colF lv f [] = [] := rfl
theorem colF_zero {lv : Int} {f : Nat → It} {pre : List Nat} {x : Nat} (h : (f x).2.1 = 0) : colF lv f (pre ++ [x]) = colF lv f pre := by
  rw [colF, List.map_append, rfsL_app, List.map_cons, List.map_nil, rfsL_zero h, rfsL_nil, List.append_nil]
  rfl
theorem colF_more {lv : Int} {f : Nat → It} {pre : List Nat} {x : Nat} (h : (f x).2.1 ≠ 0) : colF lv f (pre ++ [x]) = colF lv f pre ++ [((f x).2.1, lv)] := by
  rw [colF, List.map_append, rfsL_app, List.map_cons, List.map_nil, rfsL_more h, rfsL_nil]
  rfl
theorem downs_all {f : Nat → It} {xs : List It} (h : ∀ i x, xs[i]? = some x → f i = x) : (downs xs.length xs.length).map f = xs.reverse := by
  refine List.ext_getElem (by simp [downs]) fun i h1 h2 => ?_
  have hi : i < xs.length := by simpa using h2
  simp only [downs, List.map_map, List.getElem_map, List.getElem_range, Function.comp, List.getElem_reverse]
  exact h _ _ (List.getElem?_eq_getElem (by omega))
theorem rfsL_rev (lv : Int) (l : List It) : rfsL lv l.reverse = (rfsL lv l).reverse := by simp [rfsL, List.filter_reverse]
theorem colF_all {lv : Int} {f : Nat → It} {xs : List It} (h : ∀ i x, xs[i]? = some x → f i = x) : colF lv f (downs xs.length xs.length) = (rfsL lv xs).reverse := by
  rw [colF, downs_all h, rfsL_rev]
end Go.Proofs.YtmdlgnlfgfhkmaaGreat

/-
  Package drop: refs, all references of a node, the last one first. Conditions: those that each lemma states.
-/
namespace Go.Proofs.YtmdlgnlfgfhkmaaGreat
open Go.RowKit Go.Shelf Go.Maps
attribute [local go_sem] Oper.semAt_some

theorem cells_two {w : World} {a b : Value} {t : TypeId} : ∀ j u, ([a, b] : List Value)[j]? = some u → (w.alloc (.cells #[a, b] t)).cell? ((⟨w.heap.size, 0, none⟩ : Addr).add j) = some u := by
  intro j u hj
  rw [add_off, Nat.zero_add, cell_of_row _ _ _ #[a, b] t _ (heap_alloc_new w _)]
  simpa using hj

/-- A block of another type stays where a row is pushed to, and the row's box is turned. -/
theorem block_appended {W w1 : World} {g B base size k : Nat} {cs : Array Value} {t e : TypeId} {tmp : Obj} {v v' : Value} {xs : List Value} (h : W.heap[g]? = some (.cells cs t (0, 0))) (hte : t ≠ e) (hr : W.ownsRow base e size v k xs) (hg : (W.alloc tmp).grownBy w1 v.ownBlock) (hB : g ≠ B) :
    (w1.setCell ⟨B, 0, none⟩ v').heap[g]? = some (.cells cs t (0, 0)) := by
  have hlt : g < W.heap.size := (Array.getElem?_eq_some_iff.1 h).1
  have hne : some g ≠ v.ownBlock := by
    rcases hr.2 with ⟨rfl, _⟩ | ⟨q, cap, cur, rfl, _, hq, _⟩
    · simp [Value.ownBlock]
    · intro e'
      obtain rfl : g = q := by simpa [Value.ownBlock] using e'
      rw [h] at hq
      simp at hq
      exact hte hq.2
  rw [Below.heap_setCell w1 ⟨B, 0, none⟩ v' g hB, hg.block g (by simp; omega) hne, Below.heap_alloc W tmp g hlt, h]

set_option maxRecDepth 100000 in
set_option maxHeartbeats 4000000 in
theorem refs_in (F : Fence) (n : Nat) (h3 : F.fn 66) (h5 : F.fn 81) (h7 : F.fn 92) (hro : F.round = none) (hn : 3 ≤ n)
    (v : Value) (nd : Nd) (h0 : 0 ≤ nd.1) (h6 : nd.1 < 6) (hl5 : nd.2.length ≤ 5) (w : World) (h : Nod (Old w) w v nd) :
    CallsIn F n Tryz.prog 66 #[v] w fun e W' => ∃ u, e = .returned u ∧ W'.ownsRow w.heap.size 63 2 u (rfsT nd).length (rfV (rfsT nd).reverse) ∧ Below w.heap.size w W' := by
  have h1 : 1 ≤ n := by omega
  obtain ⟨i0, hi, hz0, hz1, hz2⟩ := info_parts rf_info0
  obtain ⟨A, c, rfl, _, l1, m1, hI⟩ := h.open
  obtain ⟨m, hm⟩ : ∃ m, nd.2.length = m := ⟨_, rfl⟩
  obtain ⟨lv, hlv⟩ : ∃ lv, nd.1 = lv := ⟨_, rfl⟩
  rw [hm] at l1 hI hl5 ⊢
  obtain ⟨ad, f, E, ca, hA, hf, hc⟩ := its_fn hI hm
  have hcol : Hid (colF (lv - 1) f (downs m m) = (rfsT nd).reverse) := Lib.hid (by rw [← hm, colF_all hf, rfsT, hlv])
  rw [hlv] at h0 h6 ⊢
  replace hlv := Lib.hid hlv
  replace hm := Lib.hid hm
  replace hc := Lib.hid hc
  replace hA := Lib.hid hA
  replace hf := Lib.hid hf
  clear hI h
  refine callsIn_of_wp_marks Tryz.func66 rfl h3 ?_ hro
  simp only [Tryz.ntmps66, List.size_toArray, List.length_cons, List.length_nil, Nat.reduceAdd, Nat.reduceSub, Array.replicate_succ, Array.replicate_zero, List.push_toArray, List.append_toArray, List.nil_append, List.cons_append]
  gi_wp2_with (gi_at_call 81; refine (backwardI_in F (n - 1) h5 hro _ _ _ _).mono ?_; rintro e w' ⟨rfl, rfl⟩)
  obtain ⟨W0, hW0, hB0, hs0, b0, bx, b3⟩ : ∃ W0, ((w.alloc (.cells #[.int .i64 lv, .slice A m c] 31)).alloc (.cells #[.slice none 0 0] 105)).alloc (.cells #[.slice A m c] 29) = W0 ∧ Below w.heap.size w W0 ∧ W0.heap.size = w.heap.size + 3 ∧
      W0.heap[w.heap.size]? = some (.cells #[.int .i64 lv, .slice A m c] 31 (0, 0)) ∧ Boxed W0 (w.heap.size + 1) 105 (.slice none 0 0) ∧ Boxed W0 (w.heap.size + 1 + 1) 29 (.slice A m c) :=
    ⟨_, rfl, (((Below.refl _ w).alloc (Nat.le_refl _) _).alloc (by simp) _).alloc (by simp; omega) _, by simp, (Below.heap_alloc _ _ _ (by simp; omega)).trans ((Below.heap_alloc _ _ _ (by simp)).trans (heap_alloc_new w _)), ((by have := Boxed.new (w.alloc (.cells #[.int .i64 lv, .slice A m c] 31)) 105 (.slice none 0 0); simpa using this : Boxed ((w.alloc (.cells #[.int .i64 lv, .slice A m c] 31)).alloc (.cells #[.slice none 0 0] 105)) (w.heap.size + 1) 105 (.slice none 0 0))).alloc _, by have := Boxed.new ((w.alloc (.cells #[.int .i64 lv, .slice A m c] 31)).alloc (.cells #[.slice none 0 0] 105)) 29 (.slice A m c); simpa using this⟩
  rw [hW0]
  clear hW0
  have hlo : w.heap.size ≤ W0.heap.size := hB0.size
  have hA0 : 0 < m → A = some ad ∧ ad.block < w.heap.size := hA.out
  refine wpIn_rangeFunc_ownH hro h1 (gf := 92) (lb := #[.pointer (some ⟨w.heap.size + 1 + 1, 0, none⟩)]) rfl h7 (enters_of Tryz.func92 (by kernel_rfl) rfl)
    (backwardI_stops F (n - 1) h7 hro (by omega) (w.heap.size + 1 + 1) w.heap.size c m A ad f E ca (by omega) W0 (by omega) hlo b3.cell hA0 (fun j hj => (hc.out j hj).below hB0))
    (fun h h' => Keeps.trans h h') (fun W l o o' hl h1 h2 h3 => keeps_b (w := W0) (by omega) hlo l o o' hl h1 h2 h3) (Below.refl _ _) (fun _ => rfl)
    (fun pre W => ((∃ v, Boxed W (w.heap.size + 1) 105 v ∧ W.ownsRow w.heap.size 63 2 v (colF (lv - 1) f pre).length (rfV (colF (lv - 1) f pre)) ∧ True) ∧ (W.heap[w.heap.size]? = some (.cells #[.int .i64 lv, .slice A m c] 31 (0, 0)) ∧ Boxed W (w.heap.size + 1 + 1) 29 (.slice A m c))) ∧ Below w.heap.size w W)
    (fun _ _ _ => False)
    (OwnFrom.and (OwnFrom.and (Own.from (holdsRow_own w.heap.size (w.heap.size + 1) 105 63 2 (fun pre : List Nat => (colF (lv - 1) f pre).length) (fun pre => rfV (colF (lv - 1) f pre)) (fun _ _ => True)) _) (Own.from (fun s A B row hs hg hr => ⟨block_kept hs.1 hg hr, block_kept hs.2 hg hr⟩) _)) (ownFrom_below (Nat.le_refl _) hlo))
    (fun _ _ _ _ _ hs _ _ => hs)
    ⟨⟨⟨_, bx, World.ownsRow_nil _ _ _ _, trivial⟩, b0, b3⟩, hB0⟩
    (fun x a' W => ∃ g, a' = { tmps := #[.agg #[.int .i64 lv, .slice A m c], .pointer (some ⟨w.heap.size, 0, none⟩), .slice none 0 0, .pointer (some ⟨w.heap.size + 1, 0, none⟩), undef, .pointer (some ⟨g, 0, none⟩), .pointer (some ⟨w.heap.size, 1, none⟩), .slice A m c,
      .func (.func 92) #[] #[.pointer (some ⟨w.heap.size + 1 + 1, 0, none⟩)], .int .i64 (x : Int), .agg #[.int .u8 ((f x).1.1.toNat : Int), .int .u32 (f x).1.2.1, .int .u32 (f x).1.2.2, .int .i64 (f x).2.1, .slice (E x) (f x).2.2.length (ca x)], undef, undef, undef, undef, undef, undef, undef, undef, undef, undef, undef, undef, undef], defers := [] } ∧
      W.cell? ⟨g, 3, none⟩ = some (.int .i64 (f x).2.1))
    (fun x a' => Own.from (fun s A B row hs hg hr => by
      obtain ⟨g, e, h1⟩ := hs
      exact ⟨g, e, cell_kept h1 hg hr⟩) _) ?assign ?body ?done ?stop
  case assign =>
    rintro l pre x W K ⟨⟨⟨v, hv, hrow, _⟩, c0, c3⟩, hb⟩ hK
    have c3' := c3.cell
    gi_wp2
    exact hK _ _ ((KeepsOthers.alloc _ _).from _) ⟨(Below.refl _ W).alloc hb.size _, (Lib.cell?_alloc_some _ c3').trans c3'.symm⟩
      ⟨⟨⟨v, hv.alloc _, hrow.alloc _, trivial⟩, (Below.heap_alloc W _ _ (Array.getElem?_eq_some_iff.1 c0).1).trans c0, c3.alloc _⟩, hb.alloc hb.size _⟩ ⟨W.heap.size, rfl, by go_simp⟩
  case body =>
    rintro l pre x a' W hl hloop ⟨⟨⟨v, hv, hrow, _⟩, c0, c3⟩, hb⟩ ⟨g, rfl, g3⟩ hlen
    obtain ⟨q, hq⟩ : ∃ q, (f x).2.1 = q := ⟨_, rfl⟩
    rw [hq] at g3
    have d0 : W.cell? ⟨w.heap.size, 0, none⟩ = some (.int .i64 lv) := by rw [cell_of_row _ _ _ _ _ _ c0]; rfl
    by_cases he : q = 0
    · have he' : (q != 0) = false := by simp [he]
      have hcz : Hid (colF (lv - 1) f (pre ++ [x]) = colF (lv - 1) f pre) := Lib.hid (colF_zero (by rw [hq, he]))
      replace hq := Lib.hid hq
      replace he := Lib.hid he
      gi_wp2
      refine ⟨KeepsFrom.refl _ _, ⟨Below.refl _ _, rfl⟩, ⟨⟨v, hv, ?_, trivial⟩, c0, c3⟩, hb⟩
      rw [hcz.out]
      exact hrow
    · have he' : (q != 0) = true := by simpa using he
      have hcm : Hid (colF (lv - 1) f (pre ++ [x]) = colF (lv - 1) f pre ++ [(q, lv - 1)]) := Lib.hid (by rw [colF_more (by rw [hq]; exact he), hq])
      have hle : w.heap.size ≤ w.heap.size + 1 := by omega
      have hcell := hv.cell
      have hkl : Hid ((colF (lv - 1) f pre).length ≤ 1000000) := Lib.hid (by
        have := rfsL_len (lv - 1) (pre.map f)
        rw [List.length_map] at this
        exact Nat.le_trans this (by omega))
      obtain ⟨k, hk⟩ : ∃ k, (colF (lv - 1) f pre).length = k := ⟨_, rfl⟩
      rw [hk] at hrow hkl
      replace hk := Lib.hid hk
      have hwr : IntKind.i64.wrap (lv - 1) = lv - 1 := by rw [IntKind.wrap_i64]; omega
      replace hq := Lib.hid hq
      replace he := Lib.hid he
      gi_wp2_with (gi_at_builtin; refine wpListIn_append_own _ rfl _ _ 105 rfl w.heap.size 63 i0 (.agg #[.int .i64 0, .int .i64 0]) 2 16 Tryz.underlying105 hi hz0 hz1 hz2 rfl (by decide) _ _ _ rfl (hrow.alloc _) ⟨W.heap.size, 0, none⟩ 1 1 [.int .i64 q, .int .i64 (lv - 1)] rfl rfl cells_two (by simp [Value.oneCell']) (by unfold maxLen; have := hkl.out; omega) (by have := hkl.out; omega) (by have := hb.size; simp; omega) ?_; intro v' w1 hown' hgrow _; obtain ⟨g', cap', rfl⟩ := ownsRow_succ hown'; obtain ⟨hv1, hv2, hr2, hk2, hb2⟩ := hv.appended (by decide) hrow hb.size hle hown' hgrow; have hc1 := hv1.cell; have hf1 := hv1.frozen)
      have e0 := block_appended (v' := .slice (some ⟨g', 0, none⟩) (k + 1) cap') c0 (by decide) hrow hgrow (B := w.heap.size + 1) (by omega)
      have e3 : Boxed _ (w.heap.size + 1 + 1) 29 (.slice A m c) := block_appended (v' := .slice (some ⟨g', 0, none⟩) (k + 1) cap') c3 (by decide) hrow hgrow (B := w.heap.size + 1) (by omega)
      refine ⟨hk2.from _, ⟨hb2, e3.cell.trans c3.cell.symm⟩, ⟨⟨_, hv2, ?_, trivial⟩, e0, e3⟩, hb.trans hb2⟩
      rw [hcm.out, List.length_append, hk.out, rfV_app]
      exact hr2
  case done =>
    rintro D zs W hD rfl ⟨⟨⟨v, hv, hrow, _⟩, c0, c3⟩, hb⟩ hK
    have hcell := hv.cell
    rw [hcol.out, List.length_reverse] at hrow
    gi_wp2
    refine ⟨by simp, .inl ⟨_, _, rfl, run_takeDeferred hK, ?_⟩⟩
    have hrow' := ownsRow_putObj hrow (.deferred none) hK rfl
    refine ⟨_, results_tmp rfl _ _ _, v, rfl, hrow', hb.trans (belowK_b hlo _ D _ _ hD hK rfl rfl)⟩
  case stop =>
    rintro D c pre W _ _ h _
    exact h.elim

theorem refs_any (v : Value) (nd : Nd) (h0 : 0 ≤ nd.1) (h6 : nd.1 < 6) (hl5 : nd.2.length ≤ 5) (w : World) (h : Nod (Old w) w v nd) :
    Calls Tryz.prog 66 #[v] w fun e W' => ∃ u, e = .returned u ∧ W'.ownsRow w.heap.size 63 2 u (rfsT nd).length (rfV (rfsT nd).reverse) ∧ Below w.heap.size w W' :=
  callsIn_wide.1 (refs_in Fence.wide 3 trivial trivial trivial rfl (Nat.le_refl _) v nd h0 h6 hl5 w h)
end Go.Proofs.YtmdlgnlfgfhkmaaGreat

/-
  Package drop: lower, a stack that is gone through, its counts turned in a table of the caller's own. Conditions: those that each lemma states.
-/
namespace Go.Proofs.YtmdlgnlfgfhkmaaGreat
open Go.RowKit

theorem own_under {w w' : World} {B base g n c : Nat} {e : TypeId} {size : Nat} {xs : List Value} (h : w.ownsRow base e size (.slice (some ⟨g, 0, none⟩) n c) n xs) (hb : Below B w w') (hg : g < B) : w'.ownsRow base e size (.slice (some ⟨g, 0, none⟩) n c) n xs := by
  refine ⟨h.1, h.2.imp id ?_⟩
  rintro ⟨q, cap, cur, e1, h1, h2, h3⟩
  have hq : g = q := by
    simp only [Value.slice.injEq, Option.some.injEq, Addr.mk.injEq, and_true, true_and] at e1
    exact e1.1
  exact ⟨q, cap, cur, e1, h1, (hb.block q (by omega)).trans h2, h3⟩
/-- The last element is taken off. -/
theorem own_pop {w : World} {base g n c : Nat} {e : TypeId} {size : Nat} {xs ys : List Value} (h : w.ownsRow base e size (.slice (some ⟨g, 0, none⟩) (n + 1) c) (n + 1) (xs ++ ys)) (hx : xs.length = n * size) : w.ownsRow base e size (.slice (some ⟨g, 0, none⟩) n c) n xs := by
  refine ⟨hx, .inr ?_⟩
  rcases h.2 with ⟨e1, _⟩ | ⟨q, cap, cur, e1, h1, h2, h3, h4, h5, h6⟩
  · simp at e1
  · simp only [Value.slice.injEq, Option.some.injEq, Addr.mk.injEq, and_true, true_and] at e1
    obtain ⟨rfl, rfl⟩ := e1
    refine ⟨g, c, cur, rfl, h1, h2, by omega, h4, h5, ?_⟩
    have : (cur.toList.take ((n + 1) * size)).take (n * size) = (xs ++ ys).take (n * size) := by rw [h6]
    rw [List.take_take, Nat.min_eq_left (Nat.mul_le_mul_right _ (by omega))] at this
    rw [this, ← hx]
    exact List.take_left
theorem rf_app {w : World} {base base' n m : Nat} {ty : TypeId} {v u : Value} {a b : List Rf} (hown : w.ownsRow base 63 2 v n (rfV a)) (hu : w.ownsRow base' 63 2 u m (rfV b)) (h : n + m ≤ 1000000) (hbase : base ≤ w.heap.size) :
    ∃ v' w', (Builtin.append_ #[105, 105] ty #[v, u]).run Tryz.prog w = .ok v' w' ∧ w'.ownsRow base 63 2 v' (n + m) (rfV (a ++ b)) ∧ w.grownBy w' v.ownBlock ∧ Below base w w' := by
  obtain ⟨i0, hi, hz0, hz1, hz2⟩ := info_parts rf_info0
  obtain ⟨A, c, rfl, _, _, ho, _⟩ := own_any hu
  have hcs := fun g => hu.cells (g := g)
  rw [rfV_app]
  refine app_any base _ ty 63 i0 (.agg #[.int .i64 0, .int .i64 0]) 2 16 Tryz.underlying105 hi hz0 hz1 hz2 rfl (by decide) v n (rfV a) hown A m c (rfV b) hu.1 (fun j x hj => ?_) (rfV_one b) (by unfold maxLen; omega) (by omega) hbase
  rcases hu.2 with ⟨e, rfl⟩ | ⟨g, cap, cur, e, _⟩
  · have := hu.1
    rw [Nat.zero_mul] at this
    rw [List.eq_nil_of_length_eq_zero this] at hj
    simp at hj
  · cases e
    exact ⟨_, rfl, hcs _ rfl j x hj⟩

theorem last_of (l : List Rf) : l = [] ∨ ∃ a x, l = a ++ [x] := by
  rcases List.eq_nil_or_concat l with h | ⟨a, x, h⟩
  · exact .inl h
  · exact .inr ⟨a, x, by rw [h, List.concat_eq_append]⟩
/-- How much is counted in a table that lies in a block. -/
def msr (w : World) (g : Nat) : Nat := ((List.range 256).map fun j => match w.cell? ⟨g, j, none⟩ with
  | some (.int _ n) => n.toNat
  | _ => 0).sum
theorem msr_own {w : World} {base g c : Nat} {T : List UInt8} (h : w.ownsRow base 5 1 (.slice (some ⟨g, 0, none⟩) 256 c) 256 (u8s T)) : msr w g = allT T := by
  have hl : T.length = 256 := own_length h
  unfold msr allT
  congr 1
  refine List.ext_getElem (by simp [hl]) fun i h1 h2 => ?_
  have hi : i < 256 := by simpa using h1
  rw [List.getElem_map, List.getElem_map, List.getElem_range]
  rw [own_cell h hi]
  show ((T[i]?.getD 0).toNat : Int).toNat = _
  rw [List.getElem?_eq_getElem (by omega)]
  rfl

/-- What lower tells. -/
def LwP (s : Rm) (x : Rf) (t0 : List UInt8) (g c lo : Nat) (w w' : World) (e : Ending) : Prop := ∃ q : Int, e = .returned (.int .i64 q) ∧ w.grownBy w' (some g) ∧
  ((wkF s.1 x.2 t0 x.1.toNat = none ∧ q = 8) ∨ (∃ t, wkF s.1 x.2 t0 x.1.toNat = some t ∧ q = 0 ∧ w'.ownsRow lo 5 1 (.slice (some ⟨g, 0, none⟩) 256 c) 256 (u8s t)))

theorem box_lw (w : World) (a b c d e f : Value) : ∃ w1, (w.alloc (.cells #[a, b, c, d] 28)).alloc (.cells #[e, f] 63) = w1 ∧
    w1.heap[w.heap.size]? = some (.cells #[a, b, c, d] 28 (0, 0)) ∧ w1.heap[w.heap.size + 1]? = some (.cells #[e, f] 63 (0, 0)) ∧ w1.heap.size = w.heap.size + 2 ∧ Below w.heap.size w w1 := by
  refine ⟨_, rfl, alloc_block (heap_alloc_new _ _), ?_, by simp, ((Below.refl _ w).alloc (Nat.le_refl _) _).alloc (by simp) _⟩
  have := heap_alloc_new (w.alloc (.cells #[a, b, c, d] 28)) (.cells #[e, f] 63)
  rwa [World.size_alloc] at this

/-- What holds at each round. -/
def LwR (s : Rm) (t0 : List UInt8) (R : Option (List UInt8)) (g c lo : Nat) (w1 : World) (v : Value) (wr : World) : Prop := ∃ (st : List Rf) (T : List UInt8) (A : Option Addr) (sc : Nat), v = .slice A st.length sc ∧
  wr.ownsRow w1.heap.size 63 2 (.slice A st.length sc) st.length (rfV st) ∧ wr.ownsRow lo 5 1 (.slice (some ⟨g, 0, none⟩) 256 c) 256 (u8s T) ∧ w1.grownBy wr (some g) ∧
  runT s.1 T st.reverse = R ∧ LeT T t0 ∧ (∀ x ∈ st, Rfd x) ∧ st.length + 5 * allT T ≤ 400000

set_option maxRecDepth 100000 in
set_option maxHeartbeats 8000000 in
theorem lower_any (g c lo : Nat) (t0 : List UInt8) (v : Value) (s : Rm) (hm : mayR s = true) (a0 lv0 : Int) (hx0 : Rfd (a0, lv0)) (hle0 : LeT t0 s.2.1) (w : World) (hown : w.ownsRow lo 5 1 (.slice (some ⟨g, 0, none⟩) 256 c) 256 (u8s t0)) (h : Sto (Off g w) w v s) :
    Calls Tryz.prog 46 #[.slice (some ⟨g, 0, none⟩) 256 c, v, .agg #[.int .i64 a0, .int .i64 lv0]] w fun e w' => LwP s (a0, lv0) t0 g c lo w w' e := by
  obtain ⟨A, ca, B, cb, N, cn, L, cl, rfl, _⟩ := id h.open
  have hl0 : t0.length = 256 := own_length hown
  have hg0 : g < w.heap.size := ((hown.lt g rfl).2)
  obtain ⟨w1, hw1, f1, f2, hsz, hB⟩ := box_lw w (.slice A s.1.1.length ca) (.slice B s.1.2.length cb) (.slice N s.2.1.length cn) (.slice L s.2.2.length cl) (.int .i64 a0) (.int .i64 lv0)
  have H := Lib.hid (show Sto (Off g w1) w1 _ s from h.map fun _ _ hp hc => off_below hB hp hc)
  have HO := Lib.hid (own_below hown hB)
  have GB := Lib.hid (grow_of (row := some g) hB)
  obtain ⟨k0, k1, k2, k3, _, kg⟩ := four_cells f1
  obtain ⟨j0, j1, _, jg⟩ := two_cells f2
  have f1h := Lib.hid f1
  obtain ⟨R, hR⟩ : ∃ R, wkF s.1 lv0 t0 a0.toNat = R := ⟨_, rfl⟩
  have hgs : Hid (g < w.heap.size) := Lib.hid hg0
  have hsz' := Lib.hid hsz
  replace hl0 := Lib.hid hl0
  replace hle0 := Lib.hid hle0
  have hL1 : Hid (LwR s t0 R g c lo w1 (.slice (some ⟨w1.heap.size, 0, none⟩) 1 1) (w1.alloc (.cells #[.int .i64 a0, .int .i64 lv0] 63))) := Lib.hid (by
    refine ⟨[(a0, lv0)], t0, some ⟨w1.heap.size, 0, none⟩, 1, rfl, ?_, own_below HO.out ((Below.refl _ _).alloc (Nat.le_refl _) _), grow_of ((Below.refl _ _).alloc (Nat.le_refl _) _), ?_, LeT.refl _, ?_, ?_⟩
    · exact World.ownsRow_lit w1 #[.int .i64 a0, .int .i64 lv0] 1 (Nat.le_refl _) (by unfold maxLen; omega) rfl
    · show (wkF s.1 lv0 t0 a0.toNat).bind _ = R
      rw [hR]
      cases R <;> rfl
    · intro x hx
      rw [List.mem_singleton] at hx
      rw [hx]
      exact hx0
    · have := allT_le t0
      rw [hl0.out] at this
      show 1 + 5 * allT t0 ≤ 400000
      omega)
  replace hR := Lib.hid hR
  clear hown h f1 f2 hB hg0 hsz hx0
  go_enter Tryz.func46, Tryz.ntmps46
  go_upto_region 1 with fail
  clear hw1
  go_upto_region 2 with fail
  obtain ⟨W2, hW2⟩ : ∃ W2, w1.alloc (.cells #[.int .i64 a0, .int .i64 lv0] 63) = W2 := ⟨_, rfl⟩
  rw [hW2] at hL1 ⊢
  clear hW2 k0 k1 k2 k3 j0 j1 jg
  go_loopw [7] (fun vs wr => LwR s t0 R g c lo w1 vs wr) (fun _ wr => msr wr g)
  case atStart => exact hL1.out
  case round =>
    obtain ⟨st, T, E, sc, rfl, hst, hown, hgr, hrun, hle, hrf, hbd⟩ := hrel
    have GF := Lib.hid (grow_trans GB.out hgr)
    rcases last_of st with rfl | ⟨st', x, rfl⟩
    · have hfin : Hid (R = some T) := Lib.hid hrun.symm
      have HO2 := Lib.hid hown
      clear hst hown hgr hrun hle hrf hbd
      go_wp2_with fail
      go_ret
      exact ⟨0, rfl, GF.out, .inr ⟨T, hR.out.trans hfin.out, rfl, HO2.out⟩⟩
    obtain ⟨a, lv⟩ := x
    have hxd := hrf (a, lv) (by simp)
    obtain ⟨k, rfl⟩ : ∃ k : Nat, a = k := ⟨a.toNat, by have := hxd.1; dsimp only at this; omega⟩
    obtain ⟨h8, h256, hm1, h6⟩ := hxd
    dsimp only at h8 h256 hm1 h6
    have hrf' : Hid (∀ x ∈ st', Rfd x) := Lib.hid fun x hx => hrf x (by simp [hx])
    rw [List.reverse_append] at hrun
    replace hrun : (wkF s.1 lv T ((k : Int)).toNat).bind (fun u => runT s.1 u st'.reverse) = R := hrun
    rw [show ((k : Int)).toNat = k by omega] at hrun
    rw [rfV_app, List.length_append] at hst
    rw [List.length_append] at hbd
    obtain ⟨n, hn⟩ : ∃ n, st'.length = n := ⟨_, rfl⟩
    have e1 : (st' ++ [((k : Int), lv)]).length = n + 1 := by rw [List.length_append, hn]; rfl
    rw [e1]
    replace hst : wr.ownsRow w1.heap.size 63 2 (.slice E (n + 1) sc) (n + 1) (rfV st' ++ [.int .i64 (k : Int), .int .i64 lv]) := by
      rw [hn] at hst
      exact hst
    rw [hn] at hbd
    replace hbd : n + 1 + 5 * allT T ≤ 400000 := hbd
    obtain ⟨gs, cap, e2⟩ := ownsRow_succ hst
    cases e2
    have hrl : (rfV st').length = n * 2 := by rw [rfV_len, hn]
    have hc0 : wr.cell? ⟨gs, n * 2, none⟩ = some (.int .i64 (k : Int)) := by
      rw [hst.cellAt (n * 2) (by omega), List.getElem?_append_right (by omega), hrl, Nat.sub_self]
      rfl
    have hc1 : wr.cell? ⟨gs, n * 2 + 1, none⟩ = some (.int .i64 lv) := by
      rw [hst.cellAt (n * 2 + 1) (by omega), List.getElem?_append_right (by omega), hrl, show n * 2 + 1 - n * 2 = 1 by omega]
      rfl
    have hpop := own_pop hst hrl
    have hsc0 : Hid (n + 1 ≤ sc) := Lib.hid (by
      obtain ⟨_, _, e, hs, _⟩ := own_any hst
      cases e
      exact hs)
    clear hst e1 hrf
    obtain ⟨w5, hw5, b5, hs5, hB5⟩ := box_pair' wr (.int .i64 (k : Int)) (.int .i64 lv) 63
    have hown5 := own_below hown hB5
    have hpop5 := own_below hpop hB5
    have hgr5 := grow_later hgr (hB5.mono hgr.size)
    have hms : Hid (msr wr g = allT T) := Lib.hid (msr_own hown)
    obtain ⟨q0, q1, _, qg⟩ := two_cells b5
    have hrs : Hid (w1.heap.size ≤ wr.heap.size) := Lib.hid hgr.size
    clear hown hpop hgr hB5
    have n1 : IntKind.i64.wrap ((n : Int) + 1 - 1) = n := by rw [IntKind.wrap_i64]; omega
    go_upto_region 4 with fail
    clear hw5 hc0 hc1
    replace hs5 := Lib.hid hs5
    have hsc : n + 1 ≤ sc := by
      have := hsc0.out
      exact this
    have hs0 : (0 : Int) ≤ (n : Int) := by omega
    have hs2 : ¬ sc = 0 := by omega
    have hs3 : ¬ 0 = sc := by omega
    have hs4 : 0 < sc := by omega
    have hs5' : n ≤ sc := by omega
    clear hsc
    have hs1 : (n : Int) ≤ (sc : Int) := by omega
    clear hrl
    go_upto_region 5 with fail
    clear hs0 hs1 hs2 hs3 hs4 hs5' n1
    have hle0' : Hid (T[k]?.getD 0 ≠ 0 → asE s (k : Int) = 0) := Lib.hid fun hz => as_yes hm (by omega) (by omega) (fun e => hz (nat_zero.1 (by
      have h1 := (hle.trans hle0.out).le k
      rw [e] at h1
      exact Nat.le_zero.1 h1)))
    have hways := Lib.hid (fun hz => wk_ways (d := s.1) (lv := lv) (t := T) (a := k) hm1 h6 hz)
    have hnone := Lib.hid (fun hz => wk_none (d := s.1) (lv := lv) (t := T) (a := k) hz)
    have hdn := Lib.hid (fun hz => allT_dn (t := T) (a := k) hz)
    have hTl : Hid (T.length = 256) := Lib.hid (own_length hown5)
    have hcell := own_cell hown5 (j := k) (by omega)
    have hfr : w5.frozen? ⟨g, k, none⟩ = false := hown5.frozenAt k
    have k256 : k < 256 := by omega
    obtain ⟨y, hy⟩ : ∃ y, T[k]?.getD 0 = y := ⟨_, rfl⟩
    rw [hy] at hcell hle0' hways hnone hdn
    replace hy := Lib.hid hy
    have hgr5' := Lib.hid hgr5
    replace hrun := Lib.hid hrun
    replace hle := Lib.hid hle
    replace hbd := Lib.hid hbd
    replace hn := Lib.hid hn
    clear hgr5
    by_cases hy0 : y = 0
    · have t1 := byte_same (y := 0) (q := 0) rfl hy0
      have hN : Hid (R = none) := Lib.hid (by rw [← hrun.out, hnone.out hy0]; rfl)
      have GF5 := Lib.hid (grow_trans GB.out hgr5'.out)
      clear hown5 hpop5 b5 hy0
      go_wp2_with fail
      go_ret
      exact ⟨8, rfl, GF5.out, .inl ⟨hR.out.trans hN.out, rfl⟩⟩
    have t1 := byte_unlike (y := 0) (q := 0) rfl hy0
    obtain ⟨hu1, hu2, hu3⟩ := dn_byte hy0
    have hset := own_set hown5 k (y - 1)
    rw [← hu1] at hset
    have hg6 := grow_put (grow_refl w5 (some g)) (p := ⟨g, k, none⟩) rfl (.int .u8 ((y.toNat : Int) - 1))
    have hpop6 := hpop5.kept hg6 (.inr (fun e => by
      have := (hpop5.lt gs rfl).1
      have h0 := hgs.out
      have h1 := hsz'.out
      have e' : gs = g := by simpa [Value.ownBlock] using e
      omega))
    have hgr6 := grow_put hgr5'.out (p := ⟨g, k, none⟩) rfl (.int .u8 ((y.toNat : Int) - 1))
    have b6 := (hg6.block wr.heap.size qg (fun e => by
      have := hgr5'.out.size
      have h0 := hgs.out
      have h1 := hsz'.out
      have h2 := hgr5'.out.size
      have h4 : wr.heap.size = g := by simpa using e
      have h5 := hrs.out
      omega)).trans b5
    obtain ⟨w6, hw6⟩ : ∃ w6, w5.setCell ⟨g, k, none⟩ (.int .u8 ((y.toNat : Int) - 1)) = w6 := ⟨_, rfl⟩
    rw [hw6] at hset hg6 hpop6 hgr6 b6
    clear hown5 hpop5 b5
    replace hset := Lib.hid hset
    replace hpop6 := Lib.hid hpop6
    replace hgr6 := Lib.hid hgr6
    replace b6 := Lib.hid b6
    replace hu1 := Lib.hid hu1
    clear hg6
    go_upto_region 8 with fail
    clear hw6 hcell hfr q0 q1
    have c6 := own_cell hset.out (j := k) k256
    rw [set_get (by rw [hTl.out]; exact k256)] at c6
    obtain ⟨q0, q1, _, _⟩ := two_cells b6.out
    have hF1 := (hgr6.out.block w.heap.size kg (by
      have h0 := hgs.out
      simp
      omega)).trans f1h.out
    obtain ⟨k0, k1, k2, k3, _, _⟩ := four_cells hF1
    clear hF1
    have hS6 : Hid (Sto (Old w6) w6 (.agg #[.slice A s.1.1.length ca, .slice B s.1.2.length cb, .slice N s.2.1.length cn, .slice L s.2.2.length cl]) s) := Lib.hid ((H.out.map fun _ _ hp hc => off_put hgr6.out hp hc).map fun _ _ hp hc => off_old hp hc)
    have hms6 : Hid (msr w6 g < msr wr g) := Lib.hid (by
      rw [msr_own hset.out, hms.out]
      have := hdn.out hy0
      omega)
    have hle6 : Hid (LeT (T.set k (y - 1)) t0) := Lib.hid ((dnO_some (by rw [dnO, hy.out, if_neg hy0])).2.2.1.trans hle.out)
    have hal6 : Hid (allT (T.set k (y - 1)) + 1 = allT T) := Lib.hid (hdn.out hy0)
    have hT6 : Hid (∀ t, wkF s.1 lv T k = t → t.bind (fun u => runT s.1 u st'.reverse) = R) := Lib.hid fun t ht => by rw [← ht]; exact hrun.out
    obtain ⟨T', hT'⟩ : ∃ T', T.set k (y - 1) = T' := ⟨_, rfl⟩
    obtain ⟨z, hz⟩ : ∃ z, y - 1 = z := ⟨_, rfl⟩
    have hw2 := hways.out hy0
    rw [hT', hz] at hw2
    rw [hz] at c6
    rw [hT'] at hset hle6 hal6
    clear hT' hways hnone hdn
    rcases hw2 with ⟨hc, hF⟩ | ⟨hz0, hl, hnr, hF⟩ | ⟨hz0, hl, hr, hF⟩
    · have hrel6 : Hid (LwR s t0 R g c lo w1 (.slice (some ⟨gs, 0, none⟩) n sc) w6) := Lib.hid ⟨st', T', some ⟨gs, 0, none⟩, sc, by rw [hn.out], by rw [hn.out]; exact hpop6.out, hset.out, hgr6.out, hT6.out _ hF, hle6.out, hrf'.out, by have := hal6.out; have := hbd.out; have := hn.out; omega⟩
      replace hz := Lib.hid hz
      replace hF := Lib.hid hF
      clear hy0 t1
      by_cases hz0 : z = 0
      · have hlv := hc.resolve_left (fun h => h hz0)
        subst hz0
        subst hlv
        replace c6 : w6.cell? ⟨g, k, none⟩ = some (.int .u8 0) := c6
        clear hc
        go_wp2_with fail
        go_roundw
        case rel => exact hrel6.out
        case measure => exact hms6.out
      · have hz1 : 0 < z.toNat := by
          have : z.toNat ≠ 0 := fun e => hz0 (nat_zero.1 e)
          omega
        clear hc hz0
        go_wp2_with fail
        go_roundw
        case rel => exact hrel6.out
        case measure => exact hms6.out
    · have hN : Hid (R = none) := Lib.hid (hT6.out _ hF).symm
      have has := Lib.hid (hle0'.out hy0)
      have c7 : (lv == -1) = false := by simpa using hl
      subst hz0
      replace c6 : w6.cell? ⟨g, k, none⟩ = some (.int .u8 0) := c6
      replace hz := Lib.hid hz
      replace hF := Lib.hid hF
      replace hnr := Lib.hid hnr
      clear hy0 t1 hl
      go_wp2_with fail
      with_reducible refine (readD_any _ s k lv has.out _ hS6.out).mono ?_
      rintro e w7 ⟨u, q, nd, rfl, hq, hu, hb7⟩
      rcases hq with ⟨hr, _⟩ | ⟨_, rfl, _⟩
      · exact absurd hr hnr.out
      obtain ⟨P, pc, rfl, _⟩ := id hu.open
      obtain ⟨pl, hpl⟩ : ∃ pl, nd.2.length = pl := ⟨_, rfl⟩
      obtain ⟨pv, hpv⟩ : ∃ pv, nd.1 = pv := ⟨_, rfl⟩
      rw [hpl, hpv]
      obtain ⟨w8, hw8, b8, hs8, hB8⟩ := box_pair' w7 (.int .i64 pv) (.slice P pl pc) 31
      have G8 := Lib.hid (grow_trans GB.out (grow_later hgr6.out ((hb7.trans (hB8.mono hb7.size)).mono hgr6.out.size)))
      replace hs8 := Lib.hid hs8
      clear hu hpl hpv hb7 hB8 b8 q0 q1 c6 k0 k1 k2 k3
      go_upto_region 10 with fail
      clear hw8
      go_wp2_with fail
      go_ret
      exact ⟨8, rfl, G8.out, .inl ⟨hR.out.trans hN.out, rfl⟩⟩
    · have has := Lib.hid (hle0'.out hy0)
      have c7 : (lv == -1) = false := by simpa using hl
      subst hz0
      replace c6 : w6.cell? ⟨g, k, none⟩ = some (.int .u8 0) := c6
      replace hz := Lib.hid hz
      replace hF := Lib.hid hF
      replace hr := Lib.hid hr
      clear hy0 t1 hl
      go_wp2_with fail
      with_reducible refine (readD_any _ s k lv has.out _ hS6.out).mono ?_
      rintro e w7 ⟨u, q, nd, rfl, hq, hu, hb7⟩
      rcases hq with ⟨_, rfl, hnd⟩ | ⟨hnr, _⟩
      case inr => exact absurd hr.out hnr
      obtain ⟨P, pc, rfl, _⟩ := id hu.open
      obtain ⟨pl, hpl⟩ : ∃ pl, nd.2.length = pl := ⟨_, rfl⟩
      obtain ⟨pv, hpv⟩ : ∃ pv, nd.1 = pv := ⟨_, rfl⟩
      rw [hpl, hpv] at hu ⊢
      obtain ⟨w8, hw8, b8, hs8, hB8⟩ := box_pair' w7 (.int .i64 pv) (.slice P pl pc) 31
      have G8 := Lib.hid (grow_later hgr6.out ((hb7.trans (hB8.mono hb7.size)).mono hgr6.out.size))
      have N8 := Lib.hid (hu.drop.below hB8)
      have own8 := Lib.hid (own_below (own_below hset.out hb7) hB8)
      have pop8 := Lib.hid (own_below (own_below hpop6.out hb7) hB8)
      have hmn := (blkN_read hr.out.1).1
      rw [← hnd] at hF hmn
      obtain ⟨⟨s1, s2, s3, _⟩, _⟩ := mayN_of hmn
      have hrfs := Lib.hid (refs_may hmn)
      replace hs8 := Lib.hid hs8
      obtain ⟨q0, q1, _, _⟩ := two_cells b8
      have b8h := Lib.hid b8
      clear hu hb7 hB8 b8 c6 k0 k1 k2 k3
      go_upto_region 10 with fail
      clear hw8
      go_wp2_with fail
      with_reducible refine (refs_any (.agg #[.int .i64 pv, .slice P pl pc]) nd s1 s2 s3 _ N8.out).mono ?_
      rintro e w9 ⟨u9, rfl, hu9, hb9⟩
      obtain ⟨m, hm9⟩ : ∃ m, (rfsT nd).length = m := ⟨_, rfl⟩
      have hm5 : m ≤ 5 := by
        rw [← hm9]
        exact Nat.le_trans (rfsL_len _ _) s3
      rw [hm9] at hu9
      have own9 := own_below own8.out hb9
      have pop9 := own_below pop8.out hb9
      have G9 := grow_later G8.out (hb9.mono G8.out.size)
      obtain ⟨v', w10, hr10, ho10, _, hb10⟩ := rf_app (ty := 105) pop9 hu9 (by have := hbd.out; omega) G9.size
      obtain ⟨A10, c10, rfl, _⟩ := own_any ho10
      have H10 := Lib.hid hr10
      have hl10 : (st' ++ (rfsT nd).reverse).length = n + m := by rw [List.length_append, List.length_reverse, hn.out, hm9]
      have own10 := own_under own9 hb10 (by have h0 := hgs.out; have h1 := hsz'.out; omega)
      have hrel10 : Hid (LwR s t0 R g c lo w1 (.slice A10 (n + m) c10) w10) := Lib.hid ⟨st' ++ (rfsT nd).reverse, T', A10, c10, by rw [hl10], by rw [hl10]; exact ho10, own10, grow_later G9 hb10, (by
        rw [List.reverse_append, List.reverse_reverse, runT_app]
        exact hT6.out _ hF.out), hle6.out, fun x hx => (List.mem_append.1 hx).elim (hrf'.out x) (fun h => rfsL_ok (by omega) (by omega) hrfs.out x (List.mem_reverse.1 h)), (by rw [hl10]; have := hal6.out; have := hbd.out; omega)⟩
      have hms10 : Hid (msr w10 g < msr wr g) := Lib.hid (by
        have := hms6.out
        rwa [msr_own hset.out, ← msr_own own10] at this)
      clear hr10 ho10 hb10 own9 pop9 G9 hu9 hb9 own10 hl10 hm9 hm5
      go_wp2_with (at_builtin; refine wpList_append_run rfl _ _ _ rfl rfl rfl H10.out ?_; clear H10)
      go_roundw
      case rel => exact hrel10.out
      case measure => exact hms10.out
end Go.Proofs.YtmdlgnlfgfhkmaaGreat

/-
  Package drop: leave, Leave, Loose. Conditions: those that each lemma states.
-/
namespace Go.Proofs.YtmdlgnlfgfhkmaaGreat
open Go.RowKit

/-- What leave tells, at a level. -/
noncomputable def gdE (s : Rm) (lv a : Int) : Int := if asE s a = 0 then (match wkF s.1 lv s.2.1 a.toNat with | some _ => 0 | none => 8) else asE s a
noncomputable def gdV (s : Rm) (lv a : Int) : Rm := if asE s a = 0 then (match wkF s.1 lv s.2.1 a.toNat with | some t => (s.1, t, s.2.2) | none => emptyR) else emptyR
theorem gd_no {s : Rm} {lv a : Int} (h : asE s a ≠ 0) : gdE s lv a = asE s a ∧ gdV s lv a = emptyR := ⟨by rw [gdE, if_neg h], by rw [gdV, if_neg h]⟩
theorem gd_bad {s : Rm} {lv a : Int} (h : asE s a = 0) (h' : wkF s.1 lv s.2.1 a.toNat = none) : gdE s lv a = 8 ∧ gdV s lv a = emptyR := ⟨by rw [gdE, if_pos h, h'], by rw [gdV, if_pos h, h']⟩
theorem gd_ok {s : Rm} {lv a : Int} {t : List UInt8} (h : asE s a = 0) (h' : wkF s.1 lv s.2.1 a.toNat = some t) : gdE s lv a = 0 ∧ gdV s lv a = (s.1, t, s.2.2) := ⟨by rw [gdE, if_pos h, h'], by rw [gdV, if_pos h, h']⟩
theorem wk_six (d : Dk) (t : List UInt8) (a : Nat) : wkF d 6 t a = lfO d t a := by rw [wkF, if_pos rfl]
theorem wk_one (d : Dk) (t : List UInt8) (a : Nat) : wkF d (-1) t a = dnO t a := by
  rw [wkF, if_neg (by decide)]
  rfl
theorem as_in5 {s : Rm} {n : Int} (h : asE s n = 0) : ∃ k : Nat, n = k ∧ mayR s = true ∧ 8 ≤ k ∧ k < 256 ∧ s.2.1[k]?.getD 0 ≠ 0 := by
  obtain ⟨k, e, hm, h8, h256, _, _, _, _, hx⟩ := as_read h
  exact ⟨k, e, hm, h8, h256, hx⟩
theorem gd_leave (s : Rm) (a : Int) : gdE s 6 a = lvE s a ∧ gdV s 6 a = lvV s a := by
  unfold gdE gdV lvE lvV
  rw [wk_six]
  exact ⟨rfl, rfl⟩
theorem gd_loose (s : Rm) (a : Int) : gdE s (-1) a = asE s a ∧ gdV s (-1) a = loV s a := by
  unfold gdE gdV loV
  rw [wk_one]
  by_cases h : asE s a = 0
  · obtain ⟨k, rfl, _, _, _, hx⟩ := as_in5 h
    rw [show ((k : Int)).toNat = k by omega, dnO_yes hx]
    exact ⟨by rw [if_pos h, h], rfl⟩
  · exact ⟨by rw [if_neg h], by rw [if_neg h, if_neg h]⟩
theorem wk_le {d : Dk} {lv : Int} {t u : List UInt8} {a : Nat} (h : wkF d lv t a = some u) : LeT u t := by
  unfold wkF at h
  split at h
  · exact (lf_some h).2.1
  · exact lvF_le d _ t a u h

theorem box_lv (w : World) (a b c d e f : Value) : ∃ w1, ((w.alloc (.cells #[a, b, c, d] 28)).alloc (.cells #[e, f] 63)).alloc (.cells #[.slice none 0 0, .slice none 0 0, .slice none 0 0, .slice none 0 0] 28) = w1 ∧
    w1.heap[w.heap.size]? = some (.cells #[a, b, c, d] 28 (0, 0)) ∧ w1.heap[w.heap.size + 1]? = some (.cells #[e, f] 63 (0, 0)) ∧ w1.heap[w.heap.size + 2]? = some (.cells #[.slice none 0 0, .slice none 0 0, .slice none 0 0, .slice none 0 0] 28 (0, 0)) ∧ w1.heap.size = w.heap.size + 3 ∧ Below w.heap.size w w1 := by
  refine ⟨_, rfl, alloc_block (alloc_block (heap_alloc_new _ _)), alloc_block ?_, ?_, by simp, (((Below.refl _ w).alloc (Nat.le_refl _) _).alloc (by simp) _).alloc (by simp; omega) _⟩
  · have := heap_alloc_new (w.alloc (.cells #[a, b, c, d] 28)) (.cells #[e, f] 63)
    rwa [World.size_alloc] at this
  · have := heap_alloc_new ((w.alloc (.cells #[a, b, c, d] 28)).alloc (.cells #[e, f] 63)) (.cells #[.slice none 0 0, .slice none 0 0, .slice none 0 0, .slice none 0 0] 28)
    rwa [World.size_alloc, World.size_alloc] at this

set_option maxRecDepth 100000 in
set_option maxHeartbeats 8000000 in
theorem leaveD_any (v : Value) (s : Rm) (a lv : Int) (hlv : -1 ≤ lv ∧ lv ≤ 6) (w : World) (h : Sto (Old w) w v s) :
    Calls Tryz.prog 25 #[v, .agg #[.int .i64 a, .int .i64 lv]] w fun e w' => ∃ u, e = .returned (.tuple #[u, .int .i64 (gdE s lv a)]) ∧ Sto (New w.heap.size w') w' u (gdV s lv a) ∧ Below w.heap.size w w' := by
  obtain ⟨A, ca, B, cb, N, cn, L, cl, rfl, _⟩ := id h.open
  obtain ⟨w1, hw1, f1, f2, f3, hsz, hB⟩ := box_lv w (.slice A s.1.1.length ca) (.slice B s.1.2.length cb) (.slice N s.2.1.length cn) (.slice L s.2.2.length cl) (.int .i64 a) (.int .i64 lv)
  have H := Lib.hid (h.below hB)
  clear h
  obtain ⟨k0, k1, k2, k3, _, kg⟩ := four_cells f1
  obtain ⟨j0, j1, _, jg⟩ := two_cells f2
  replace hsz := Lib.hid hsz
  replace f3 := Lib.hid f3
  by_cases ha : asE s a = 0
  case neg =>
    obtain ⟨hE, hV⟩ := gd_no (lv := lv) ha
    obtain ⟨q, hq⟩ : ∃ q, asE s a = q := ⟨_, rfl⟩
    rw [hq] at ha hE
    have hq1 : (q != 0) = true := by simpa using ha
    replace hq := Lib.hid hq
    replace hE := Lib.hid hE
    replace hV := Lib.hid hV
    clear ha
    go_enter Tryz.func25, Tryz.ntmps25
    go_upto_region 1 with fail
    clear hw1
    go_wp2_with fail
    with_reducible refine (heldD_any _ s a _ H.out).mono ?_
    rintro e w2 ⟨rfl, hb2⟩
    rw [hq.out]
    have F2 := (hb2.block (w.heap.size + 2) (by rw [hsz.out]; omega)).trans f3.out
    replace hb2 := Lib.hid (hB.trans (hb2.mono hB.size))
    clear k0 k1 k2 k3 kg j0 j1 jg f1 f2 hB
    obtain ⟨k0, k1, k2, k3, k4, k5⟩ := four_cells F2
    obtain ⟨W9, hW9, g9, gr9, gs9⟩ := put_four (a' := .slice none 0 0) (b' := .slice none 0 0) (c' := .slice none 0 0) (d' := .slice none 0 0) F2
    obtain ⟨n0, n1, n2, n3, _, _⟩ := four_cells g9
    have hB9 := Lib.hid ((hb2).out.grown gr9 (hb2).out.size (fun q e => by cases e; omega))
    replace g9 := Lib.hid g9
    replace F2 := Lib.hid F2
    clear gr9 gs9
    go_wp2_with fail
    refine bodyPost_ret (v := .tuple #[.agg #[.slice none 0 0, .slice none 0 0, .slice none 0 0, .slice none 0 0], .int .i64 q]) (by simp [results, Tryz.results25, go_sem, n0, n1, n2, n3]) rfl ?_
    rw [hE.out, hV.out]
    exact ⟨_, rfl, sto_empty _ _, hB9.out⟩
  obtain ⟨k, hk, hm, h8, h256, hx⟩ := as_in5 ha
  subst hk
  have hax := Lib.hid ha
  have hlen := Lib.hid (mayT_len (mayR_of hm).2.1)
  obtain ⟨R, hR⟩ : ∃ R, wkF s.1 lv s.2.1 ((k : Int)).toNat = R := ⟨_, rfl⟩
  have hrd : Hid (Rfd ((k : Int), lv)) := Lib.hid ⟨by show (8 : Int) ≤ k; omega, by show (k : Int) < 256; omega, hlv.1, hlv.2⟩
  replace hR := Lib.hid hR
  replace hx := Lib.hid hx
  clear ha hlv h8 h256
  go_enter Tryz.func25, Tryz.ntmps25
  go_upto_region 1 with fail
  clear hw1
  go_wp2_with fail
  with_reducible refine (heldD_any _ s (k : Int) _ H.out).mono ?_
  rintro e w2 ⟨rfl, hb2⟩
  rw [hax.out]
  have F1 := (hb2.block w.heap.size kg).trans f1
  have F2 := (hb2.block (w.heap.size + 1) jg).trans f2
  have F3 := Lib.hid ((hb2.block (w.heap.size + 2) (by rw [hsz.out]; omega)).trans f3.out)
  have H2 := Lib.hid (H.out.below hb2)
  have s2 : Hid (w.heap.size + 3 ≤ w2.heap.size) := Lib.hid (by have := hb2.size; have := hsz.out; omega)
  have B2 := Lib.hid (hB.trans (hb2.mono hB.size))
  clear k0 k1 k2 k3 kg j0 j1 jg f1 f2 hb2 hB
  obtain ⟨k0, k1, k2, k3, _, kg⟩ := four_cells F1
  obtain ⟨j0, j1, _, jg⟩ := two_cells F2
  go_wp2_with fail
  obtain ⟨_, _, e9, l1, m1, hby⟩ := rBy_byt (B := w2.heap.size) (fun _ h => h) H2.out.parts.2.1
  cases e9
  with_reducible refine (clone_any N s.2.1.length cn s.2.1 (Lib.hid rfl) (by rw [hlen.out]; omega) _ hby).mono ?_
  rintro e w3 ⟨u, rfl, hu3, hb3⟩
  obtain ⟨g, c2, rfl, hg1, hg2, hg3, hg4⟩ := own_head hu3 (by rw [hlen.out]; omega)
  rw [hlen.out] at hu3 ⊢
  have G1 := (hb3.block w.heap.size kg).trans F1
  have G2 := (hb3.block (w.heap.size + 1) jg).trans F2
  have G3 := Lib.hid ((hb3.block (w.heap.size + 2) (by have := s2.out; omega)).trans F3.out)
  have H3 := Lib.hid (show Sto (Off g w3) w3 _ s from H2.out.map fun _ _ hp hc => off_low hb3 hg1 hp hc)
  have O3 := Lib.hid hu3
  have B3 := Lib.hid (B2.out.trans (hb3.mono B2.out.size))
  have hgw : Hid (w.heap.size + 3 ≤ g) := Lib.hid (by have := s2.out; omega)
  clear k0 k1 k2 k3 kg j0 j1 jg F1 F2 F3 hb3 B2 H2 hby l1 m1 hu3 hg1
  obtain ⟨k0, k1, k2, k3, _, kg⟩ := four_cells G1
  obtain ⟨j0, j1, _, jg⟩ := two_cells G2
  go_wp2_with fail
  with_reducible refine (lower_any g c2 w2.heap.size s.2.1 _ s hm (k : Int) lv hrd.out (LeT.refl _) _ O3.out H3.out).mono ?_
  rintro e w4 ⟨q, rfl, hgr, hq⟩
  have E1 := (hgr.block w.heap.size kg (by have := hgw.out; simp; omega)).trans G1
  have E3 := (hgr.block (w.heap.size + 2) (by have := G3.out; exact (Array.getElem?_eq_some_iff.1 this).1) (by have := hgw.out; simp; omega)).trans G3.out
  have B4 := Lib.hid (B3.out.grown hgr B3.out.size (fun q e => by cases e; have := hgw.out; omega))
  have H4 := Lib.hid (show Sto (Old w4) w4 _ s from (H3.out.map fun _ _ hp hc => off_put hgr hp hc).map fun _ _ hp hc => off_old hp hc)
  clear k0 k1 k2 k3 kg j0 j1 jg G1 G2 G3 B3 H3 O3 hgr
  rcases hq with ⟨hN, rfl⟩ | ⟨t, hS, rfl, hown⟩
  · obtain ⟨hE, hV⟩ := gd_bad hax.out hN
    replace hE := Lib.hid hE
    replace hV := Lib.hid hV
    replace hN := Lib.hid hN
    clear E1
    obtain ⟨k0, k1, k2, k3, k4, k5⟩ := four_cells E3
    obtain ⟨W9, hW9, g9, gr9, gs9⟩ := put_four (a' := .slice none 0 0) (b' := .slice none 0 0) (c' := .slice none 0 0) (d' := .slice none 0 0) E3
    obtain ⟨n0, n1, n2, n3, _, _⟩ := four_cells g9
    have hB9 := Lib.hid ((B4).out.grown gr9 (B4).out.size (fun q e => by cases e; omega))
    replace g9 := Lib.hid g9
    replace E3 := Lib.hid E3
    clear gr9 gs9
    go_wp2_with fail
    refine bodyPost_ret (v := .tuple #[.agg #[.slice none 0 0, .slice none 0 0, .slice none 0 0, .slice none 0 0], .int .i64 8]) (by simp [results, Tryz.results25, go_sem, n0, n1, n2, n3]) rfl ?_
    rw [hE.out, hV.out]
    exact ⟨_, rfl, sto_empty _ _, hB9.out⟩
  · obtain ⟨hE, hV⟩ := gd_ok hax.out hS
    have hle := wk_le hS
    have htl : t.length = 256 := hle.len.trans hlen.out
    have hmS : mayR (s.1, t, s.2.2) = true := mayR_mk (mayR_of hm).1 (hle.may (mayR_of hm).2.1) (mayR_of hm).2.2
    have hsm := Lib.hid (smallR_may hmS)
    have T4 : Hid (Sto (Old w4) w4 (.agg #[.slice A s.1.1.length ca, .slice B s.1.2.length cb, .slice (some ⟨g, 0, none⟩) 256 c2, .slice L s.2.2.length cl]) (s.1, t, s.2.2)) := Lib.hid (Sto.mk H4.out.parts.1 (stab_by.drop (own_by hown)) H4.out.parts.2.2)
    replace hE := Lib.hid hE
    replace hV := Lib.hid hV
    replace hS := Lib.hid hS
    obtain ⟨k0, k1, k2, k3, _, kg⟩ := four_cells E1
    replace E3 := Lib.hid E3
    clear hown hle
    go_wp2_with fail
    with_reducible refine (twinR_any _ (s.1, t, s.2.2) hsm.out _ T4.out).mono ?_
    rintro e w5 ⟨A5, a5, B5, b5, N5, n5, L5, l5, rfl, h5, hb5⟩
    have F5 := (hb5.block (w.heap.size + 2) (by have := B4.out.size; have := (Array.getElem?_eq_some_iff.1 E3.out).1; omega)).trans E3.out
    have s5 : Hid (w.heap.size + 2 < w4.heap.size) := Lib.hid (Array.getElem?_eq_some_iff.1 E3.out).1
    obtain ⟨o0, o1, o2, o3, _, _⟩ := four_cells F5
    obtain ⟨W9, hW9, g9, gr9, gs9⟩ := put_four (a' := .slice A5 s.1.1.length a5) (b' := .slice B5 s.1.2.length b5) (c' := .slice N5 t.length n5) (d' := .slice L5 s.2.2.length l5) F5
    obtain ⟨n0, n1, n2, n3, _, _⟩ := four_cells g9
    have hfin := Lib.hid (show Sto (New w.heap.size W9) W9 (.agg #[.slice A5 s.1.1.length a5, .slice B5 s.1.2.length b5, .slice N5 t.length n5, .slice L5 s.2.2.length l5]) (s.1, t, s.2.2) from
      (h5.grown gr9 (fun q e => by cases e; exact s5.out)).new B4.out.size (Below.refl _ _))
    have hB9 := Lib.hid ((B4.out.trans (hb5.mono B4.out.size)).grown gr9 (Nat.le_trans B4.out.size hb5.size) (fun q e => by cases e; omega))
    replace F5 := Lib.hid F5
    replace g9 := Lib.hid g9
    replace htl := Lib.hid htl
    clear gr9 gs9 h5 hb5 k0 k1 k2 k3 kg E1
    go_wp2_with fail
    refine bodyPost_ret (v := .tuple #[.agg #[.slice A5 s.1.1.length a5, .slice B5 s.1.2.length b5, .slice N5 t.length n5, .slice L5 s.2.2.length l5], .int .i64 0]) (by simp [results, Tryz.results25, go_sem, n0, n1, n2, n3]) rfl ?_
    rw [hE.out, hV.out]
    exact ⟨_, rfl, hfin.out, hB9.out⟩
end Go.Proofs.YtmdlgnlfgfhkmaaGreat

/-
  Package drop: Leave, Loose. Conditions: those that each lemma states.
-/
namespace Go.Proofs.YtmdlgnlfgfhkmaaGreat
open Go.RowKit

set_option maxRecDepth 100000 in
set_option maxHeartbeats 8000000 in
theorem leaveV_any (v : Value) (s : Rm) (n : Int) (w : World) (h : Sto (Old w) w v s) :
    Calls Tryz.prog 9 #[v, .int .i64 n] w fun e w' => ∃ u, e = .returned (.tuple #[u, .int .i64 (lvE s n)]) ∧ Sto (New w.heap.size w') w' u (lvV s n) ∧ Below w.heap.size w w' := by
  obtain ⟨A, ca, B, cb, N, cn, L, cl, w1, rfl, hw1, f1, f2, hsz, hB, H⟩ := box_sto2 h
  clear h
  obtain ⟨k0, k1, k2, k3, _, kg⟩ := four_cells f1
  replace hsz := Lib.hid hsz
  replace f2 := Lib.hid f2
  go_enter Tryz.func9, Tryz.ntmps9
  go_upto_region 1 with fail
  clear hw1
  go_wp2_with fail
  with_reducible refine (leaveD_any _ s n 6 (by decide) _ H.out).mono ?_
  rintro e w2 ⟨u, rfl, hu, hb2⟩
  rw [(gd_leave s n).1]
  rw [(gd_leave s n).2] at hu
  obtain ⟨q, hq⟩ : ∃ q, gdE s 6 n = q := ⟨_, rfl⟩
  have hq' := Lib.hid ((gd_leave s n).1.symm.trans hq)
  clear hq
  rw [hq'.out]
  obtain ⟨V, hV⟩ : ∃ V, gdV s 6 n = V := ⟨_, rfl⟩
  have hV' := Lib.hid ((gd_leave s n).2.symm.trans hV)
  clear hV
  rw [hV'.out] at hu
  obtain ⟨P, p, Q, r, Y, y, X, x, rfl, _⟩ := id hu.open
  have F2 := (hb2.block (w.heap.size + 1) (by rw [hsz.out]; omega)).trans f2.out
  obtain ⟨o0, o1, o2, o3, _, _⟩ := four_cells F2
  obtain ⟨W9, hW9, g9, gr9, gs9⟩ := put_four (a' := .slice P V.1.1.length p) (b' := .slice Q V.1.2.length r) (c' := .slice Y V.2.1.length y) (d' := .slice X V.2.2.length x) F2
  obtain ⟨n0, n1, n2, n3, _, _⟩ := four_cells g9
  have hfin := Lib.hid (show Sto (New w.heap.size W9) W9 _ V from (hu.grown gr9 (fun q e => by cases e; rw [hsz.out]; omega)).new hB.size (Below.refl _ _))
  have hB9 := Lib.hid ((hB.trans (hb2.mono hB.size)).grown gr9 (Nat.le_trans hB.size hb2.size) (fun q e => by cases e; omega))
  replace F2 := Lib.hid F2
  replace g9 := Lib.hid g9
  clear gr9 gs9 hu hb2 k0 k1 k2 k3 kg f1
  go_wp2_with fail
  refine bodyPost_ret (v := .tuple #[.agg #[.slice P V.1.1.length p, .slice Q V.1.2.length r, .slice Y V.2.1.length y, .slice X V.2.2.length x], .int .i64 q]) (by simp [results, Tryz.results9, go_sem, n0, n1, n2, n3]) rfl ?_
  rw [hq'.out, hV'.out]
  exact ⟨_, rfl, hfin.out, hB9.out⟩
set_option maxRecDepth 100000 in
set_option maxHeartbeats 8000000 in
theorem looseV_any (v : Value) (s : Rm) (n : Int) (w : World) (h : Sto (Old w) w v s) :
    Calls Tryz.prog 11 #[v, .int .i64 n] w fun e w' => ∃ u, e = .returned (.tuple #[u, .int .i64 (asE s n)]) ∧ Sto (New w.heap.size w') w' u (loV s n) ∧ Below w.heap.size w w' := by
  obtain ⟨A, ca, B, cb, N, cn, L, cl, w1, rfl, hw1, f1, f2, hsz, hB, H⟩ := box_sto2 h
  clear h
  obtain ⟨k0, k1, k2, k3, _, kg⟩ := four_cells f1
  replace hsz := Lib.hid hsz
  replace f2 := Lib.hid f2
  go_enter Tryz.func11, Tryz.ntmps11
  go_upto_region 1 with fail
  clear hw1
  go_wp2_with fail
  with_reducible refine (leaveD_any _ s n (-1) (by decide) _ H.out).mono ?_
  rintro e w2 ⟨u, rfl, hu, hb2⟩
  rw [(gd_loose s n).1]
  rw [(gd_loose s n).2] at hu
  obtain ⟨q, hq⟩ : ∃ q, gdE s (-1) n = q := ⟨_, rfl⟩
  have hq' := Lib.hid ((gd_loose s n).1.symm.trans hq)
  clear hq
  rw [hq'.out]
  obtain ⟨V, hV⟩ : ∃ V, gdV s (-1) n = V := ⟨_, rfl⟩
  have hV' := Lib.hid ((gd_loose s n).2.symm.trans hV)
  clear hV
  rw [hV'.out] at hu
  obtain ⟨P, p, Q, r, Y, y, X, x, rfl, _⟩ := id hu.open
  have F2 := (hb2.block (w.heap.size + 1) (by rw [hsz.out]; omega)).trans f2.out
  obtain ⟨o0, o1, o2, o3, _, _⟩ := four_cells F2
  obtain ⟨W9, hW9, g9, gr9, gs9⟩ := put_four (a' := .slice P V.1.1.length p) (b' := .slice Q V.1.2.length r) (c' := .slice Y V.2.1.length y) (d' := .slice X V.2.2.length x) F2
  obtain ⟨n0, n1, n2, n3, _, _⟩ := four_cells g9
  have hfin := Lib.hid (show Sto (New w.heap.size W9) W9 _ V from (hu.grown gr9 (fun q e => by cases e; rw [hsz.out]; omega)).new hB.size (Below.refl _ _))
  have hB9 := Lib.hid ((hB.trans (hb2.mono hB.size)).grown gr9 (Nat.le_trans hB.size hb2.size) (fun q e => by cases e; omega))
  replace F2 := Lib.hid F2
  replace g9 := Lib.hid g9
  clear gr9 gs9 hu hb2 k0 k1 k2 k3 kg f1
  go_wp2_with fail
  refine bodyPost_ret (v := .tuple #[.agg #[.slice P V.1.1.length p, .slice Q V.1.2.length r, .slice Y V.2.1.length y, .slice X V.2.2.length x], .int .i64 q]) (by simp [results, Tryz.results11, go_sem, n0, n1, n2, n3]) rfl ?_
  rw [hq'.out, hV'.out]
  exact ⟨_, rfl, hfin.out, hB9.out⟩
end Go.Proofs.YtmdlgnlfgfhkmaaGreat

/-
  Layer 8: the laws' alive. Conditions: those that each lemma states.
-/
namespace Go.Proofs.YtmdlgnlfgfhkmaaGreat
open Go.RowKit

theorem row_lies {W : World} {g : Nat} {xs : List UInt8} {n : Nat} (h : W.heap[g]? = some (.cells (rowA xs) 5 (0, 0))) (hl : xs.length = n) (hb : n ≤ 9223372036854775807) : rBy (Old W) W [.slice (some ⟨g, 0, none⟩) n n] xs := by
  subst hl
  have hg := (Array.getElem?_eq_some_iff.1 h).1
  refine ⟨some ⟨g, 0, none⟩, xs.length, rfl, Nat.le_refl _, hb, fun i x hi => ⟨⟨g, 0, none⟩, [.int .u8 (x.toNat : Int)], rfl, rfl, fun j v hj => ?_, rfl⟩⟩
  have hj0 : j = 0 := by
    have := (List.getElem?_eq_some_iff.1 hj).1
    simp at this
    omega
  subst hj0
  simp at hj
  subst hj
  refine ⟨by show (Addr.add _ _).block < _; rw [add_block]; exact hg, ?_⟩
  have e : (⟨g, 0, none⟩ : Addr).add (i * 1 + 0) = ⟨g, i, none⟩ := by simp [add_off]
  rw [e]
  simp [World.cell?, h, rowA, u8s, hi]

/-- What is free in a new store, and what Take does to it. -/
theorem new_free : (freeL newR).length = 248 ∧ freeL newR = 8 :: 9 :: (freeL newR).drop 2 := by decide +kernel
theorem may_new : mayR newR = true := mayR_mk may_zero may_zeros may_zeros
theorem new_take {b : List UInt8} (hb : b.length = 128) : tkE newR b = 0 ∧ tkN newR b = 8 ∧ tkK newR = 8 ∧ (tkV newR b).1.1.length = 256 ∧ (tkV newR b).1.2.length = 1 ∧ (tkV newR b).2.1.length = 256 ∧ (tkV newR b).2.2.length = 256 ∧ (tkV newR b).2.1[8]?.getD 0 = 1 := by
  have h0 : tkE newR b = 0 := tk_yes may_new hb (by rw [new_free.2]; simp) (by rw [newR, zero_len2]; omega)
  have hk : tkK newR = 8 := by rw [tkK, new_free.2]; rfl
  obtain ⟨_, _, _, _, _, _, _, _, hN, hV⟩ := tk_ok h0
  have hc := (tk_counts h0).1
  rw [hk] at hN hV hc
  refine ⟨h0, hN, hk, ?_, ?_, ?_, ?_, hc⟩
  · rw [hV, wrD_fst]; exact zero_len1
  · rw [hV, wrD_len]; rfl
  · rw [hV, List.length_set]; exact zeros_length 256
  · rw [hV]; exact zeros_length 256

end Go.Proofs.YtmdlgnlfgfhkmaaGreat

/-
  Layer 8: what the laws want: lists of numbers in a bag; what Free and Take tell, opened. Conditions: those that each lemma states.
-/
namespace Go.Proofs.YtmdlgnlfgfhkmaaGreat
open Go.RowKit

def OldZ (v : Value) (xs : List Int) : World → Prop := fun w => rInts (Old w) w [v] xs
theorem lasts_oldZ (v : Value) (xs : List Int) : Lasts (OldZ v xs) := fun _ _ h hb => stab_ints.old h hb
theorem intsN_len (l : List Nat) : (intsN l).length = l.length := by simp [intsN]
theorem intsN_get {l : List Nat} {i : Nat} {x : Nat} (h : l[i]? = some x) : (intsN l)[i]? = some (x : Int) := by simp [intsN, h]
/-- The numbers of a list, cell by cell. -/
theorem ints_at {w : World} {X : Option Addr} {m c : Nat} {l : List Nat} (h : rInts (Old w) w [.slice X m c] (intsN l)) : m = l.length ∧ m ≤ c ∧ ∀ (i x : Nat), l[i]? = some x → ∃ ad, X = some ad ∧ (ad.add i).block < w.heap.size ∧ w.cell? (ad.add i) = some (.int .i64 (x : Int)) := by
  obtain ⟨X', c', e, h1, _, h2⟩ := rInts_open h
  simp only [Value.slice.injEq] at e
  obtain ⟨rfl, hm, rfl⟩ := e
  rw [intsN_len] at h1 hm
  refine ⟨hm, by omega, fun i x hi => ?_⟩
  obtain ⟨ad, e1, e2, e3, _⟩ := h2 i _ (intsN_get hi)
  exact ⟨ad, e1, e2, e3⟩
/-- What Take tells, opened. -/
theorem takeR_open (v u : Value) (s : Rm) (b : List UInt8) (w : World) (h : Sto (Old w) w v s) (hu : rBy (Old w) w [u] b) :
    Calls Tryz.prog 21 #[v, u] w fun e W' => ∃ A ca B cb N cn L cl, e = .returned (.tuple #[.agg #[.slice A (tkV s b).1.1.length ca, .slice B (tkV s b).1.2.length cb, .slice N (tkV s b).2.1.length cn, .slice L (tkV s b).2.2.length cl], .int .i64 (tkN s b), .int .i64 (tkE s b)]) ∧
      Sto (New w.heap.size W') W' (.agg #[.slice A (tkV s b).1.1.length ca, .slice B (tkV s b).1.2.length cb, .slice N (tkV s b).2.1.length cn, .slice L (tkV s b).2.2.length cl]) (tkV s b) ∧ Below w.heap.size w W' := by
  refine (takeR_any v u s b w h hu).mono ?_
  rintro e W' ⟨t, rfl, ht, hb⟩
  obtain ⟨A, ca, B, cb, N, cn, L, cl, rfl, _⟩ := id ht.open
  exact ⟨A, ca, B, cb, N, cn, L, cl, rfl, ht, hb⟩
/-- The tables of a store, cell by cell, in every later world. -/
theorem tables_far {w : World} {s : Rm} {A B N L : Option Addr} {n1 n2 ca cb cn cl : Nat} (hm : mayR s = true) (h : Sto (Old w) w (.agg #[.slice A n1 ca, .slice B n2 cb, .slice N s.2.1.length cn, .slice L s.2.2.length cl]) s) :
    ∃ ad bd, N = some ad ∧ L = some bd ∧ s.2.1.length = 256 ∧ s.2.2.length = 256 ∧ 256 ≤ cn ∧ 256 ≤ cl ∧ Hid (∀ j, j < 256 → ∀ W, Below w.heap.size w W → W.cell? (ad.add j) = some (.int .u8 ((s.2.1[j]?.getD 0).toNat : Int)) ∧ W.cell? (bd.add j) = some (.int .u8 ((s.2.2[j]?.getD 0).toNat : Int))) := by
  obtain ⟨ad, bd, e1, e2, h1, h2, h3, h4, h5, h6, hc⟩ := tables_at hm h.parts.2.1 h.parts.2.2
  exact ⟨ad, bd, e1, e2, h1, h2, h3, h4, Lib.hid fun j hj W hW => ⟨(hW.cell (by rw [add_block]; exact h5)).trans (hc j hj).1, (hW.cell (by rw [add_block]; exact h6)).trans (hc j hj).2⟩⟩
end Go.Proofs.YtmdlgnlfgfhkmaaGreat

/-
  Package drop: Make. Conditions: those that each lemma states.
-/
namespace Go.Proofs.YtmdlgnlfgfhkmaaGreat
open Go.RowKit

theorem mkE_store {s : Rm} {n : Nd} (h : mayR s = false) : mkE s n = 8 := by rw [mkE, h]; rfl
theorem mkE_node {s : Rm} {n : Nd} (h : mayN n = false) : mkE s n = 8 := by rw [mkE, h]; simp

set_option maxRecDepth 100000 in
set_option maxHeartbeats 8000000 in
theorem makeV_any (v u : Value) (s : Rm) (n : Nd) (w : World) (h : Sto (Old w) w v s) (hu : Nod (Old w) w u n) :
    Calls Tryz.prog 7 #[v, u] w fun e w' => ∃ t, e = .returned (.tuple #[t, .int .i64 (mkN s n), .int .i64 (mkE s n)]) ∧ Sto (New w.heap.size w') w' t (mkV s n) ∧ Below w.heap.size w w' := by
  obtain ⟨A, ca, B, cb, N, cn, L, cl, rfl, _⟩ := id h.open
  obtain ⟨I, ci, rfl, _⟩ := id hu.open
  obtain ⟨w1, hw1, f1, fn, f2, hsz, hB⟩ := box_three3 (w := w) (.slice A s.1.1.length ca) (.slice B s.1.2.length cb) (.slice N s.2.1.length cn) (.slice L s.2.2.length cl) (.int .i64 n.1) (.slice I n.2.length ci)
  have H := Lib.hid (h.below hB)
  have U := Lib.hid (hu.below hB)
  clear h hu
  obtain ⟨k0, k1, k2, k3, _, kg⟩ := four_cells f1
  obtain ⟨p0, p1, _, pg⟩ := two_cells fn
  replace hsz := Lib.hid hsz
  replace f2 := Lib.hid f2
  cases hm : mayR s with
  | false =>
    have hE := mkE_store (n := n) hm
    obtain ⟨hN, hV⟩ := mk_no (s := s) (n := n) (by rw [hE]; decide)
    have e1 := chkR_bad hm
    replace hE := Lib.hid hE
    replace hN := Lib.hid hN
    replace hV := Lib.hid hV
    go_enter Tryz.func7, Tryz.ntmps7
    go_upto_region 1 with fail
    clear hw1
    go_wp2_with fail
    with_reducible refine (checkR_any _ s _ H.out).mono ?_
    rintro e w2 ⟨rfl, hb2⟩
    rw [e1]
    have F2 := (hb2.block (w.heap.size + 2) (by rw [hsz.out]; omega)).trans f2.out
    replace hb2 := Lib.hid (hB.trans (hb2.mono hB.size))
    clear k0 k1 k2 k3 kg p0 p1 pg f1 fn hB e1 hm
    obtain ⟨k0, k1, k2, k3, k4, k5⟩ := four_cells F2
    obtain ⟨W9, hW9, g9, gr9, gs9⟩ := put_four (a' := .slice none 0 0) (b' := .slice none 0 0) (c' := .slice none 0 0) (d' := .slice none 0 0) F2
    obtain ⟨n0, n1, n2, n3, _, _⟩ := four_cells g9
    have hB9 := Lib.hid ((hb2).out.grown gr9 (hb2).out.size (fun q e => by cases e; omega))
    replace g9 := Lib.hid g9
    replace F2 := Lib.hid F2
    clear gr9 gs9
    go_wp2_with fail
    refine bodyPost_ret (v := .tuple #[.agg #[.slice none 0 0, .slice none 0 0, .slice none 0 0, .slice none 0 0], .int .i64 0, .int .i64 8]) (by simp [results, Tryz.results7, go_sem, n0, n1, n2, n3]) rfl ?_
    rw [hE.out, hN.out, hV.out]
    exact ⟨_, rfl, sto_empty _ _, hB9.out⟩
  | true =>
  have e1 := chkR_ok hm
  obtain ⟨b, hb⟩ : ∃ b, wrN n = b := ⟨_, rfl⟩
  obtain ⟨q, hq⟩ : ∃ q, chkN n = q := ⟨_, rfl⟩
  replace hb := Lib.hid hb
  replace hq := Lib.hid hq
  have hlen := Lib.hid (mayT_len (mayR_of hm).2.1)
  go_enter Tryz.func7, Tryz.ntmps7
  go_upto_region 1 with fail
  clear hw1
  go_wp2_with fail
  with_reducible refine (checkR_any _ s _ H.out).mono ?_
  rintro e w2 ⟨rfl, hb2⟩
  rw [e1]
  have F1 := (hb2.block w.heap.size kg).trans f1
  have Fn := (hb2.block (w.heap.size + 1) pg).trans fn
  have F2 := (hb2.block (w.heap.size + 2) (by rw [hsz.out]; omega)).trans f2.out
  have H2 := H.out.below hb2
  have U2 := U.out.below hb2
  have s2 : Hid (w.heap.size + 3 ≤ w2.heap.size) := Lib.hid (by have := hb2.size; have := hsz.out; omega)
  have B2 := Lib.hid (hB.trans (hb2.mono hB.size))
  clear k0 k1 k2 k3 kg p0 p1 pg f1 fn hb2 hB f2 e1 H U
  obtain ⟨k0, k1, k2, k3, _, kg⟩ := four_cells F1
  obtain ⟨p0, p1, _, pg⟩ := two_cells Fn
  replace F2 := Lib.hid F2
  replace H2 := Lib.hid H2
  replace U2 := Lib.hid U2
  go_wp2_with fail
  with_reducible refine (nodeWrite_any _ n _ U2.out).mono ?_
  rintro e w3 ⟨u3, rfl, h3, hb3⟩
  rw [hq.out]
  rw [hb.out] at h3
  obtain ⟨E, ce, rfl, _⟩ := id (rBy_open h3)
  have G1 := (hb3.block w.heap.size kg).trans F1
  have Gn := (hb3.block (w.heap.size + 1) pg).trans Fn
  have G2 := (hb3.block (w.heap.size + 2) (by have := s2.out; omega)).trans F2.out
  have H3 := H2.out.below hb3
  have U3 := U2.out.below hb3
  have s3 : Hid (w.heap.size + 3 ≤ w3.heap.size) := Lib.hid (by have := hb3.size; have := s2.out; omega)
  have B3 := Lib.hid (B2.out.trans (hb3.mono B2.out.size))
  have R3 := Lib.hid (stab_by.drop h3)
  clear k0 k1 k2 k3 kg p0 p1 pg F1 Fn hb3 F2 H2 U2 B2 h3 s2
  cases hn : mayN n with
  | false =>
    have hE := mkE_node (s := s) hn
    obtain ⟨hN, hV⟩ := mk_no (s := s) (n := n) (by rw [hE]; decide)
    have hq8 : q = 8 := by rw [← hq.out, chkN, hn]; rfl
    subst hq8
    replace hE := Lib.hid hE
    replace hN := Lib.hid hN
    replace hV := Lib.hid hV
    clear H3 U3 G1 Gn hn hm
    obtain ⟨k0, k1, k2, k3, k4, k5⟩ := four_cells G2
    obtain ⟨W9, hW9, g9, gr9, gs9⟩ := put_four (a' := .slice none 0 0) (b' := .slice none 0 0) (c' := .slice none 0 0) (d' := .slice none 0 0) G2
    obtain ⟨n0, n1, n2, n3, _, _⟩ := four_cells g9
    have hB9 := Lib.hid ((B3).out.grown gr9 (B3).out.size (fun q e => by cases e; omega))
    replace g9 := Lib.hid g9
    replace G2 := Lib.hid G2
    clear gr9 gs9
    go_wp2_with fail
    refine bodyPost_ret (v := .tuple #[.agg #[.slice none 0 0, .slice none 0 0, .slice none 0 0, .slice none 0 0], .int .i64 0, .int .i64 8]) (by simp [results, Tryz.results7, go_sem, n0, n1, n2, n3]) rfl ?_
    rw [hE.out, hN.out, hV.out]
    exact ⟨_, rfl, sto_empty _ _, hB9.out⟩
  | true =>
  have hq0 : q = 0 := by rw [← hq.out, chkN, hn]; rfl
  subst hq0
  have hbk : Hid (blkN n = b) := Lib.hid (by rw [← hb.out, wrN, hn]; rfl)
  have hways := Lib.hid (mk_ways hm hn)
  obtain ⟨k0, k1, k2, k3, _, kg⟩ := four_cells G1
  obtain ⟨p0, p1, _, pg⟩ := two_cells Gn
  replace G2 := Lib.hid G2
  replace H3 := Lib.hid H3
  replace U3 := Lib.hid U3
  go_wp2_with fail
  obtain ⟨_, _, e9, l1, m1, hby⟩ := rBy_byt (B := w3.heap.size) (fun _ h => h) H3.out.parts.2.1
  cases e9
  with_reducible refine (clone_any N s.2.1.length cn s.2.1 (Lib.hid rfl) (by rw [hlen.out]; omega) _ hby).mono ?_
  rintro e w4 ⟨u4, rfl, hu4, hb4⟩
  obtain ⟨g, c2, rfl, hg1, hg2, hg3, hg4⟩ := own_head hu4 (by rw [hlen.out]; omega)
  rw [hlen.out] at hu4 ⊢
  have F1 := (hb4.block w.heap.size kg).trans G1
  have Fn := (hb4.block (w.heap.size + 1) pg).trans Gn
  have F2 := Lib.hid ((hb4.block (w.heap.size + 2) (by have := s3.out; omega)).trans G2.out)
  have H4 := Lib.hid (show Sto (Off g w4) w4 _ s from H3.out.map fun _ _ hp hc => off_low hb4 hg1 hp hc)
  have U4 := Lib.hid (show Nod (Off g w4) w4 _ n from U3.out.map fun _ _ hp hc => off_low hb4 hg1 hp hc)
  have R4 := Lib.hid (show rBy (Off g w4) w4 _ b from stab_by _ _ _ _ _ _ (fun _ _ hp hc => off_low hb4 hg1 hp hc) R3.out)
  have O4 := Lib.hid hu4
  have B4 := Lib.hid (B3.out.trans (hb4.mono B3.out.size))
  have hgw : Hid (w.heap.size + 3 ≤ g) := Lib.hid (by have := s3.out; omega)
  clear k0 k1 k2 k3 kg p0 p1 pg G1 Gn G2 hb4 H3 U3 R3 B3 hby l1 m1 hu4 hg1 s3
  obtain ⟨k0, k1, k2, k3, _, kg⟩ := four_cells F1
  obtain ⟨p0, p1, _, pg⟩ := two_cells Fn
  obtain ⟨r, hr⟩ : ∃ r, ctE s.2.1 n.2 = r := ⟨_, rfl⟩
  go_wp2_with fail
  with_reducible refine (refer_any g c2 w3.heap.size s.2.1 _ n hn hlen.out _ O4.out U4.out).mono ?_
  rintro e w5 ⟨rfl, hgr, hown⟩
  rw [hr] at hown ⊢
  have E1 := (hgr.block w.heap.size kg (by have := hgw.out; simp; omega)).trans F1
  have E3 := (hgr.block (w.heap.size + 2) (by have := F2.out; exact (Array.getElem?_eq_some_iff.1 this).1) (by have := hgw.out; simp; omega)).trans F2.out
  have B5 := Lib.hid (B4.out.grown hgr B4.out.size (fun q e => by cases e; have := hgw.out; omega))
  have H5 := Lib.hid (show Sto (Old w5) w5 _ s from (H4.out.map fun _ _ hp hc => off_put hgr hp hc).map fun _ _ hp hc => off_old hp hc)
  have R5 := Lib.hid (show rBy (Old w5) w5 _ b from stab_by _ _ _ _ _ _ (fun _ _ hp hc => off_old hp hc) (stab_by _ _ _ _ _ _ (fun _ _ hp hc => off_put hgr hp hc) R4.out))
  clear k0 k1 k2 k3 kg p0 p1 pg F1 Fn F2 B4 H4 U4 R4 O4 hgr
  rcases hways.out with ⟨hc, hE, hN, hV⟩ | ⟨hc, hE, hN, hV⟩
  · rw [hr] at hc hE
    have hr1 : (r != 0) = true := by simpa using hc
    replace hE := Lib.hid hE
    replace hN := Lib.hid hN
    replace hV := Lib.hid hV
    replace hr := Lib.hid hr
    clear E1 hown hc hm hn hways
    obtain ⟨k0, k1, k2, k3, k4, k5⟩ := four_cells E3
    obtain ⟨W9, hW9, g9, gr9, gs9⟩ := put_four (a' := .slice none 0 0) (b' := .slice none 0 0) (c' := .slice none 0 0) (d' := .slice none 0 0) E3
    obtain ⟨n0, n1, n2, n3, _, _⟩ := four_cells g9
    have hB9 := Lib.hid ((B5).out.grown gr9 (B5).out.size (fun q e => by cases e; omega))
    replace g9 := Lib.hid g9
    replace E3 := Lib.hid E3
    clear gr9 gs9
    go_wp2_with fail
    refine bodyPost_ret (v := .tuple #[.agg #[.slice none 0 0, .slice none 0 0, .slice none 0 0, .slice none 0 0], .int .i64 0, .int .i64 r]) (by simp [results, Tryz.results7, go_sem, n0, n1, n2, n3]) rfl ?_
    rw [hE.out, hN.out, hV.out]
    exact ⟨_, rfl, sto_empty _ _, hB9.out⟩
  · rw [hr] at hc
    subst hc
    rw [hbk.out] at hE hN hV
    have hctl : (ctV s.2.1 n.2).length = 256 := by rw [ctV_len, hlen.out]
    have T5 : Hid (Sto (Old w5) w5 (.agg #[.slice A s.1.1.length ca, .slice B s.1.2.length cb, .slice (some ⟨g, 0, none⟩) 256 c2, .slice L s.2.2.length cl]) (ctS s n)) := Lib.hid (Sto.mk H5.out.parts.1 (stab_by.drop (own_by (hown rfl))) H5.out.parts.2.2)
    obtain ⟨S, hS⟩ : ∃ S, ctS s n = S := ⟨_, rfl⟩
    rw [hS] at T5 hE hN hV
    obtain ⟨V, hVV⟩ : ∃ V, tkV S b = V := ⟨_, rfl⟩
    obtain ⟨x, hx⟩ : ∃ x, tkN S b = x := ⟨_, rfl⟩
    obtain ⟨y, hy⟩ : ∃ y, tkE S b = y := ⟨_, rfl⟩
    rw [hVV] at hV
    rw [hx] at hN
    rw [hy] at hE
    replace hE := Lib.hid hE
    replace hN := Lib.hid hN
    replace hV := Lib.hid hV
    replace hr := Lib.hid hr
    replace hS := Lib.hid hS
    replace hVV := Lib.hid hVV
    replace hx := Lib.hid hx
    replace hy := Lib.hid hy
    obtain ⟨k0, k1, k2, k3, _, kg⟩ := four_cells E1
    replace E3 := Lib.hid E3
    clear hown hm hn hways hctl
    go_wp2_with fail
    with_reducible refine (takeR_any _ _ S b _ T5.out R5.out).mono ?_
    rintro e w6 ⟨t6, rfl, h6, hb6⟩
    rw [hx.out, hy.out]
    rw [hVV.out] at h6
    obtain ⟨A6, a6, B6, b6, N6, n6, L6, l6, rfl, _⟩ := id h6.open
    have F6 := (hb6.block (w.heap.size + 2) (by exact (Array.getElem?_eq_some_iff.1 E3.out).1)).trans E3.out
    have s6 : Hid (w.heap.size + 2 < w5.heap.size) := Lib.hid (Array.getElem?_eq_some_iff.1 E3.out).1
    obtain ⟨o0, o1, o2, o3, _, _⟩ := four_cells F6
    obtain ⟨W9, hW9, g9, gr9, gs9⟩ := put_four (a' := .slice A6 V.1.1.length a6) (b' := .slice B6 V.1.2.length b6) (c' := .slice N6 V.2.1.length n6) (d' := .slice L6 V.2.2.length l6) F6
    obtain ⟨n0, n1, n2, n3, _, _⟩ := four_cells g9
    have hfin := Lib.hid (show Sto (New w.heap.size W9) W9 _ V from (h6.grown gr9 (fun q e => by cases e; exact s6.out)).new B5.out.size (Below.refl _ _))
    have hB9 := Lib.hid ((B5.out.trans (hb6.mono B5.out.size)).grown gr9 (Nat.le_trans B5.out.size hb6.size) (fun q e => by cases e; omega))
    replace F6 := Lib.hid F6
    replace g9 := Lib.hid g9
    clear gr9 gs9 h6 hb6 k0 k1 k2 k3 kg E1
    go_wp2_with fail
    refine bodyPost_ret (v := .tuple #[.agg #[.slice A6 V.1.1.length a6, .slice B6 V.1.2.length b6, .slice N6 V.2.1.length n6, .slice L6 V.2.2.length l6], .int .i64 x, .int .i64 y]) (by simp [results, Tryz.results7, go_sem, n0, n1, n2, n3]) rfl ?_
    rw [hE.out, hN.out, hV.out]
    exact ⟨_, rfl, hfin.out, hB9.out⟩
end Go.Proofs.YtmdlgnlfgfhkmaaGreat

/-
  The law's own spoil (layer 8): every byte of a store of the call's own is turned; what lies below stays. Condition: the store's cells lie at lo and above and may be written.
-/
namespace Go.Proofs.YtmdlgnlfgfhkmaaGreat
open Go.RowKit

theorem Spoilt.sto {lo lo' : Nat} {w wr : World} {v : Value} {s : Rm} (h : Spoilt lo w wr) (hs : Sto (New lo' w) w v s) : ∃ s', Sto (New lo' wr) wr v s' := by
  obtain ⟨a, b, n, l, e, h1, h2, h3⟩ := hs
  obtain ⟨d, hd⟩ := h.dsk h1
  obtain ⟨ns, _, hn⟩ := h.by h2
  obtain ⟨ls, _, hl⟩ := h.by h3
  exact ⟨(d, ns, ls), a, b, n, l, e, hd, hn, hl⟩
theorem Spoilt.box4 {lo : Nat} {w wr : World} (h : Spoilt lo w wr) {g : Nat} {A B C D : Option Addr} {n c m e n' c' m' e' : Nat} (hb : Box4 g (.slice A n c) (.slice B m e) (.slice C n' c') (.slice D m' e') w) : Box4 g (.slice A n c) (.slice B m e) (.slice C n' c') (.slice D m' e') wr :=
  ⟨h.rest ⟨g, 0, none⟩ _ hb.2.2.2.2 hb.1 (by simp), h.rest ⟨g, 1, none⟩ _ hb.2.2.2.2 hb.2.1 (by simp), h.rest ⟨g, 2, none⟩ _ hb.2.2.2.2 hb.2.2.1 (by simp), h.rest ⟨g, 3, none⟩ _ hb.2.2.2.2 hb.2.2.2.1 (by simp), Nat.lt_of_lt_of_le hb.2.2.2.2 h.low.size⟩

end Go.Proofs.YtmdlgnlfgfhkmaaGreat

/-
  The law's own spoil (layer 9): the first byte of each block and write, and every byte of the tables, of a store of the call's own is turned; what lies below stays. Condition: the store's cells lie at lo and above and may be written; no block is empty.
-/
namespace Go.Proofs.YtmdlgnlfgfhkmaaGreat
open Go.RowKit

set_option maxRecDepth 100000 in
set_option maxHeartbeats 4000000 in
theorem spoil9_any (v : Value) (s : Rm) (lo : Nat) (w : World) (hlo : lo ≤ w.heap.size) (hfu : FullR s) (h : Sto (New lo w) w v s) :
    Calls Tryz.prog 14 #[v] w fun e w' => (∃ u, e = .returned u) ∧ Spoilt lo w w' := by
  obtain ⟨A, c, B, c', N, cn, L, cl, rfl, _⟩ := id h.open
  obtain ⟨w0, hw0, b0, hs0, hB0⟩ := box_4 w (.slice A s.1.1.length c) (.slice B s.1.2.length c') (.slice N s.2.1.length cn) (.slice L s.2.2.length cl) 28
  have h0 := h.new (Nat.le_refl _) hB0
  obtain ⟨hD, hN, hL⟩ := h0.parts
  obtain ⟨A', a', B', b', ev, l1, m1, l2, m2, hA, hB⟩ := hD.open
  cases ev
  obtain ⟨N', n', ev, lN, mN, HN⟩ := rBy_open hN
  cases ev
  obtain ⟨L', l', ev, lL, mL, HL⟩ := rBy_open hL
  cases ev
  obtain ⟨f1, f2, f3, f4, _, lt0⟩ := four_cells b0
  have hB0' := hB0
  have HA := Lib.hid hA
  have HB := Lib.hid hB
  replace HN := Lib.hid HN
  replace HL := Lib.hid HL
  clear hA hB hD hN hL h h0
  obtain ⟨n, hn⟩ : ∃ n, s.1.1.length = n := ⟨_, rfl⟩
  obtain ⟨m, hm⟩ : ∃ m, s.1.2.length = m := ⟨_, rfl⟩
  obtain ⟨qn, hqn⟩ : ∃ m, s.2.1.length = m := ⟨_, rfl⟩
  obtain ⟨ql, hql⟩ : ∃ m, s.2.2.length = m := ⟨_, rfl⟩
  rw [hn] at l1 f1 b0 hw0 ⊢
  rw [hm] at l2 f2 b0 hw0 ⊢
  rw [hqn] at lN f3 b0 hw0 ⊢
  rw [hql] at lL f4 b0 hw0 ⊢
  replace hn := Lib.hid hn
  replace hm := Lib.hid hm
  replace hqn := Lib.hid hqn
  replace hql := Lib.hid hql
  replace b0 := Lib.hid b0
  replace hs0 := Lib.hid hs0
  replace hfu := Lib.hid hfu
  go_enter Tryz.func14, Tryz.ntmps14
  go_upto_region 1 with fail
  clear hw0
  go_wp2_with fail
  go_loopw [2] (fun i wr => ∃ j : Nat, j ≤ n ∧ i = .int .i64 j ∧ Spoilt lo w0 wr) (fun i _ => n - (intOf i).toNat)
  case atStart => exact ⟨0, by omega, rfl, Spoilt.refl _ _⟩
  case round =>
    obtain ⟨j, hj, rfl, hS⟩ := hrel
    have z1 := hS.rest ⟨w.heap.size, 0, none⟩ _ lt0 f1 (by simp)
    by_cases hlt : j < n
    · obtain ⟨x, hx⟩ : ∃ x, s.1.1[j]? = some x := ⟨_, List.getElem?_eq_getElem (by rw [hn.out]; exact hlt)⟩
      obtain ⟨rd, u, rfl, hok, hc, hby⟩ := HA.out j x hx
      obtain ⟨E, ce, rfl, lE, mE, HE'⟩ := rBy_open hby
      have HE := Lib.hid HE'
      obtain ⟨q, hq⟩ : ∃ q, x.length = q := ⟨_, rfl⟩
      rw [hq] at lE hc
      replace hok := Lib.hid hok
      clear HE' hby
      have c1 := hS.rest (rd.add j) _ hok.out.2.1 hc (by simp)
      have hne : 0 < x.length := by
        have := hfu.out.1 x (List.mem_of_getElem? hx)
        exact List.length_pos_iff.2 this
      obtain ⟨bd, rfl, hok2, hcb⟩ := HE.out 0 hne
      obtain ⟨y, hy⟩ := hS.byte (bd.add 0) _ hok2.2.1 hcb
      have hf := (hS.fro _ hok2.2.1).trans hok2.2.2
      have hadd := u8_succ3 y
      have hst := Lib.hid (hS.step hok2.1 hy (y + 1))
      rw [show bd.add 0 = bd by simp [Addr.add]] at hy hf hst
      generalize (y + 1) = y' at *
      replace hok2 := Lib.hid hok2
      replace hx := Lib.hid hx
      rw [hq] at hne
      replace hq := Lib.hid hq
      clear hcb hS
      go_wp2_with fail
      go_still_tail 16, (by kernel_rfl)
      change wpList _ _ _ _ _ wr.drew
      go_wp2
      go_roundw
      case rel => exact ⟨j + 1, by omega, by go_num, hst.out.drew⟩
      case measure => simp [intOf]; omega
    · have hS' := Lib.hid hS
      clear hS
      obtain ⟨wo, rfl⟩ : ∃ wo : World, wo = wr := ⟨_, rfl⟩
      go_wp2_with fail
      go_loopw [3] (fun i wr => ∃ j : Nat, j ≤ m ∧ i = .int .i64 j ∧ Spoilt lo w0 wr) (fun i _ => m - (intOf i).toNat)
      case atStart => exact ⟨0, by omega, rfl, hS'.out⟩
      case round =>
        clear z1 hS'
        obtain ⟨j2, hj2, rfl, hS⟩ := hrel
        have z1 := hS.rest ⟨w.heap.size, 1, none⟩ _ lt0 f2 (by simp)
        by_cases hlt2 : j2 < m
        · obtain ⟨x, hx⟩ : ∃ x, s.1.2[j2]? = some x := ⟨_, List.getElem?_eq_getElem (by rw [hm.out]; exact hlt2)⟩
          obtain ⟨rd, u, rfl, _, hok, _, hc, hby, _, _⟩ := HB.out j2 x hx
          obtain ⟨E, ce, rfl, lE, mE, HE'⟩ := rBy_open hby
          have HE := Lib.hid HE'
          obtain ⟨q, hq⟩ : ∃ q, x.2.length = q := ⟨_, rfl⟩
          rw [hq] at lE hc
          rw [add_next] at hc hok
          replace hok := Lib.hid hok
          clear HE' hby
          have c1 := hS.rest _ _ hok.out.2.1 hc (by simp)
          have hne : 0 < x.2.length := by
            have := hfu.out.2 x (List.mem_of_getElem? hx)
            exact List.length_pos_iff.2 this
          obtain ⟨bd, rfl, hok2, hcb⟩ := HE.out 0 hne
          obtain ⟨y, hy⟩ := hS.byte (bd.add 0) _ hok2.2.1 hcb
          have hf := (hS.fro _ hok2.2.1).trans hok2.2.2
          have hadd := u8_succ3 y
          have hst := Lib.hid (hS.step hok2.1 hy (y + 1))
          rw [show bd.add 0 = bd by simp [Addr.add]] at hy hf hst
          generalize (y + 1) = y' at *
          replace hok2 := Lib.hid hok2
          replace hx := Lib.hid hx
          rw [hq] at hne
          replace hq := Lib.hid hq
          clear hcb hS
          go_wp2_with fail
          go_still_tail 18, (by kernel_rfl)
          change wpList _ _ _ _ _ wr.drew
          go_wp2
          go_roundw
          case rel => exact ⟨j2 + 1, by omega, by go_num, hst.out.drew⟩
          case measure => simp [intOf]; omega
        · have hS'' := Lib.hid hS
          clear hS
          obtain ⟨wo, rfl⟩ : ∃ wo : World, wo = wr := ⟨_, rfl⟩
          go_wp2_with fail
          go_loopw [4] (fun i wi => ∃ k : Nat, k ≤ qn ∧ i = .int .i64 k ∧ Spoilt lo w0 wi) (fun i _ => qn - (intOf i).toNat)
          case atStart => exact ⟨0, by omega, rfl, hS''.out⟩
          case round =>
            clear z1 hS''
            obtain ⟨k, hk, rfl, hT⟩ := hrel
            have z1 := hT.rest ⟨w.heap.size, 2, none⟩ _ lt0 f3 (by simp)
            by_cases hl2 : k < qn
            · obtain ⟨bd, rfl, hok2, hcb⟩ := HN.out k (by rw [hqn.out]; exact hl2)
              obtain ⟨y, hy⟩ := hT.byte (bd.add k) _ hok2.2.1 hcb
              have hf := (hT.fro _ hok2.2.1).trans hok2.2.2
              have hadd := u8_succ3 y
              have hst := Lib.hid (hT.step hok2.1 hy (y + 1))
              generalize (y + 1) = y' at *
              replace hok2 := Lib.hid hok2
              clear hcb hT
              go_wp2_with fail
              go_still_tail 10, (by kernel_rfl)
              change wpList _ _ _ _ _ wr.drew
              go_wp2
              go_roundw
              case rel => exact ⟨k + 1, by omega, by go_num, hst.out.drew⟩
              case measure => simp [intOf]; omega
            · have hS'' := Lib.hid hT
              clear hT
              obtain ⟨wo, rfl⟩ : ∃ wo : World, wo = wr := ⟨_, rfl⟩
              go_wp2_with fail
              go_loopw [5] (fun i wi => ∃ k : Nat, k ≤ ql ∧ i = .int .i64 k ∧ Spoilt lo w0 wi) (fun i _ => ql - (intOf i).toNat)
              case atStart => exact ⟨0, by omega, rfl, hS''.out⟩
              case round =>
                clear z1 hS''
                obtain ⟨k, hk, rfl, hT⟩ := hrel
                have z1 := hT.rest ⟨w.heap.size, 3, none⟩ _ lt0 f4 (by simp)
                by_cases hl2 : k < ql
                · obtain ⟨bd, rfl, hok2, hcb⟩ := HL.out k (by rw [hql.out]; exact hl2)
                  obtain ⟨y, hy⟩ := hT.byte (bd.add k) _ hok2.2.1 hcb
                  have hf := (hT.fro _ hok2.2.1).trans hok2.2.2
                  have hadd := u8_succ3 y
                  have hst := Lib.hid (hT.step hok2.1 hy (y + 1))
                  generalize (y + 1) = y' at *
                  replace hok2 := Lib.hid hok2
                  clear hcb hT
                  go_wp2_with fail
                  go_still_tail 10, (by kernel_rfl)
                  change wpList _ _ _ _ _ wr.drew
                  go_wp2
                  go_roundw
                  case rel => exact ⟨k + 1, by omega, by go_num, hst.out.drew⟩
                  case measure => simp [intOf]; omega
                · have hfin := Lib.hid (hT.after hlo hB0')
                  clear hT
                  go_wp2_with fail
                  go_end0
                  exact ⟨⟨_, rfl⟩, hfin.out⟩
end Go.Proofs.YtmdlgnlfgfhkmaaGreat

/-
  A store that is spoilt has blocks of the same lengths. Conditions: those that each lemma states.
-/
namespace Go.Proofs.YtmdlgnlfgfhkmaaGreat
open Go.RowKit

theorem full_same {lo lo' : Nat} {w wr : World} {v : Value} {s s' : Rm} (h : Spoilt lo w wr) (hs : Sto (New lo' w) w v s) (hs' : Sto (New lo' wr) wr v s') (hf : FullR s) : FullR s' := by
  obtain ⟨A, ca, B, cb, N, cn, L, cl, rfl, _⟩ := id hs.open
  obtain ⟨A1, c1, B1, e1, ev, _, _, _, _, hA, hB⟩ := hs.parts.1.open
  cases ev
  obtain ⟨_, _, _, _, _, _, _, _, ev, _⟩ := id hs'.open
  obtain ⟨A2, c2, B2, e2, ev2, _, _, _, _, hA', hB'⟩ := hs'.parts.1.open
  simp only [Value.agg.injEq, Array.mk.injEq, List.cons.injEq, Value.slice.injEq, and_true] at ev2
  obtain ⟨⟨rfl, l1, _⟩, rfl, l2, _⟩ := ev2
  refine ⟨fun x hx => ?_, fun x hx => ?_⟩
  · obtain ⟨i, hi⟩ := List.getElem?_of_mem hx
    have hil := (List.getElem?_eq_some_iff.1 hi).1
    obtain ⟨x0, hx0⟩ : ∃ x0, s.1.1[i]? = some x0 := ⟨_, List.getElem?_eq_getElem (by omega)⟩
    obtain ⟨ad, u, rfl, o1, q1, r1⟩ := hA i x0 hx0
    obtain ⟨ad', u', e', _, q2, r2⟩ := hA' i x hi
    cases e'
    obtain ⟨E, ce, rfl, _⟩ := rBy_open r1
    obtain ⟨E', ce', rfl, _⟩ := rBy_open r2
    have q3 := h.rest _ _ o1.2.1 q1 (by simp)
    rw [q3] at q2
    simp only [Option.some.injEq, Value.slice.injEq] at q2
    have h0 := hf.1 x0 (List.mem_of_getElem? hx0)
    exact fun e => h0 (List.eq_nil_of_length_eq_zero (by rw [q2.2.1, e]; rfl))
  · obtain ⟨i, hi⟩ := List.getElem?_of_mem hx
    have hil := (List.getElem?_eq_some_iff.1 hi).1
    obtain ⟨x0, hx0⟩ : ∃ x0, s.1.2[i]? = some x0 := ⟨_, List.getElem?_eq_getElem (by omega)⟩
    obtain ⟨ad, u, rfl, _, o1, _, q1, r1, _⟩ := hB i x0 hx0
    obtain ⟨ad', u', e', _, _, _, q2, r2, _⟩ := hB' i x hi
    cases e'
    obtain ⟨E, ce, rfl, _⟩ := rBy_open r1
    obtain ⟨E', ce', rfl, _⟩ := rBy_open r2
    have q3 := h.rest _ _ o1.2.1 q1 (by simp)
    rw [q3] at q2
    simp only [Option.some.injEq, Value.slice.injEq] at q2
    have h0 := hf.2 x0 (List.mem_of_getElem? hx0)
    exact fun e => h0 (List.eq_nil_of_length_eq_zero (by rw [q2.2.1, e]; rfl))
theorem full9_mk (s : Rm) (n : Nd) : FullR (mkV s n) := by
  by_cases h : mkE s n = 0
  · obtain ⟨_, _, _, _, _, _, _, _, hm, _⟩ := mk_counts h
    exact full_rm hm
  · rw [(mk_no h).2]
    exact full_empty
theorem full9_lv (s : Rm) (n : Int) : FullR (lvV s n) := by
  by_cases h : lvE s n = 0
  · obtain ⟨_, _, _, hm, _⟩ := lv_less h
    exact full_rm hm
  · rcases lv_ways s n with ⟨_, _, e⟩ | ⟨_, _, _, _, _, _, _, _, _, e⟩ | ⟨_, _, _, _, _, _, _, _, _, e, _⟩
    · rw [e]; exact full_empty
    · rw [e]; exact full_empty
    · exact absurd e h
theorem full9_lo (s : Rm) (n : Int) : FullR (loV s n) := by
  by_cases h : asE s n = 0
  · obtain ⟨_, _, _, hm, _⟩ := lo_ok h
    exact full_rm hm
  · rw [loV, if_neg h]; exact full_empty
end Go.Proofs.YtmdlgnlfgfhkmaaGreat
