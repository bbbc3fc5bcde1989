/-
  Package dev: Twin. Conditions: those that each lemma states.
-/
import Derived.Test.YtgnogclhleheiaaClones
import Derived.Test.YtgnogclhleheiaaGreat
import Derived.Test.YtgnogclhleheiaaLast
import Derived.StillTailTactics
namespace Go.Proofs.Ytgnogclhleheiaa
open Go.RowKit

/-- Cells of the call's own, apart from one row. -/
def NewBut (lo : Nat) (A : Option Addr) (w : World) : Addr → Prop := fun p => New lo w p ∧ A.map (·.block) ≠ some p.block
/-- A disk of the call's own, whose row of writes may be appended to. -/
def Twn (lo : Nat) (w : World) (u : Value) (d : Dk) : Prop := ∃ a A c ps, u = .agg #[a, .slice A d.2.length c] ∧ rSl 1 rBy (NewBut lo A w) w [a] d.1 ∧ w.ownsRow lo 78 2 (.slice A d.2.length c) d.2.length (wcells ps) ∧ (.slice A d.2.length c : Value).ownBlock = A.map (·.block) ∧
  ∀ (i : Nat) (p : Int × Value) (x : Wt), ps[i]? = some p → d.2[i]? = some x → p.1 = x.1 ∧ rBy (NewBut lo A w) w [p.2] x.2 ∧ -9223372036854775808 ≤ x.1 ∧ x.1 ≤ 9223372036854775807
theorem Twn.dsk {lo : Nat} {w : World} {u : Value} {d : Dk} (h : Twn lo w u d) : Dsk (New lo w) w u d := by
  obtain ⟨a, A, c, ps, rfl, h1, h2, _, h3⟩ := h
  exact ⟨_, _, rfl, stab_sl stab_by _ _ _ _ _ _ (fun p v hp hc => ⟨hp.1, hc⟩) h1, own_wts h2 rfl fun i p x hp hx => by
    obtain ⟨c1, c2, c3⟩ := h3 i p x hp hx
    exact ⟨c1, stab_by _ _ _ _ _ _ (fun p v hp hc => ⟨hp.1, hc⟩) c2, c3⟩⟩

set_option maxRecDepth 100000 in
set_option maxHeartbeats 4000000 in
theorem twin_own (v : Value) (d : Dk) (w : World) (hs : Small d) (h : Dsk (Old w) w v d) : Calls Try.prog 28 #[v] w fun e w' => ∃ u, e = .returned u ∧ Twn w.heap.size w' u d ∧ Below w.heap.size w w' := by
  obtain ⟨A, c, B, c', rfl, l1, m1, l2, m2, hA, hB⟩ := h.open
  obtain ⟨vs, hvl, hvc, hvo, hvb⟩ := rows_cells hA
  obtain ⟨ps, hpl, hpc, hpo, hpb⟩ := wts_cells hB
  have r1 := hs.rows
  have r2 := hs.waits
  have HS := Lib.hid hs
  clear hA hB h hs
  obtain ⟨n, hn⟩ : ∃ n, d.1.length = n := ⟨_, rfl⟩
  obtain ⟨m, hm⟩ : ∃ m, d.2.length = m := ⟨_, rfl⟩
  rw [hn] at l1 hvl r1 ⊢
  rw [hm] at l2 hpl r2 ⊢
  replace hn := Lib.hid hn
  replace hm := Lib.hid hm
  replace hvl := Lib.hid hvl
  replace hpl := Lib.hid hpl
  replace hvc := Lib.hid hvc
  replace hpc := Lib.hid hpc
  replace hvo := Lib.hid hvo
  replace hpo := Lib.hid hpo
  replace hvb := Lib.hid hvb
  replace hpb := Lib.hid hpb
  obtain ⟨w2, hw2, f1, f2, f3, hsz, hB0⟩ := box_two w (.slice A n c) (.slice B m c') #[.slice none 0 0, .slice none 0 0] 25
  replace hsz := Lib.hid hsz
  replace f3 := Lib.hid f3
  go_enter Try.func28, Try.ntmps28
  go_upto_region 1 with fail
  clear hw2
  refine wp_region_tail (by kernel_rfl) (fun W => Below w2.heap.size w2 W) (fun i => match i with
      | 2 => some (fun v W => W.ownsRow w2.heap.size 26 1 v n vs)
      | 5 => some (fun v W => W.ownsRow w2.heap.size 78 2 v m (wcells ps))
      | 7 => some (fun v W => ∃ g, v = .pointer (some ⟨g, 0, none⟩) ∧ w2.heap.size ≤ g ∧ W.heap[g]? = some (.cells #[.slice none 0 0, .slice none 0 0] 25 (0, 0)))
      | _ => none) (fun _ => none) (List.cons_ne_nil _ _) (by kernel_rfl) (by kernel_rfl) (by kernel_rfl) (Below.refl _ _).drew (fun w w' h hb => h.trans (hb.mono h.size)) ?tst ?_
  case tst =>
    intro j φ x W W' hp hx hb
    match j, hp with
    | 2, hp => cases hp; exact own_below hx hb
    | 5, hp => cases hp; exact own_below hx hb
    | 7, hp =>
      cases hp
      obtain ⟨g, e, h1, h2⟩ := hx
      exact ⟨g, e, h1, by rw [hb.block g (Array.getElem?_eq_some_iff.1 h2).1]; exact h2⟩
  simp only [List.dropLast_cons_of_ne_nil, ne_eq, reduceCtorEq, not_false_eq_true, List.dropLast_singleton, List.getLast_cons, List.getLast_singleton]
  have lt0 : w.heap.size < w2.heap.size := by rw [hsz.out]; omega
  repeat (first
    | (refine wpAs_skip rfl ?_; simp only [Act.put, List.setIfInBounds_toArray, List.set_cons_zero, List.set_cons_succ])
    | (refine wpAs_pure (v := ?_) rfl rfl ?_ ?_; rotate_left; (intro W hC hE; clear hE; (have q1 := (hC.cell (p := ⟨w.heap.size, 0, none⟩) lt0).trans f1); clear hC; go_simp; done); simp only [Act.put, List.setIfInBounds_toArray, List.set_cons_zero, List.set_cons_succ])
    | (refine wpAs_pure (v := ?_) rfl rfl ?_ ?_; rotate_left; (intro W hC hE; clear hE; (have q1 := (hC.cell (p := ⟨w.heap.size, 0, none⟩) lt0).trans f1); clear hC; go_simp; with_reducible rfl); simp only [Act.put, List.setIfInBounds_toArray, List.set_cons_zero, List.set_cons_succ]))
  refine wpAs_act rfl rfl ?_ ?_
  · intro W hC hE
    clear hE
    refine does_enter (f := 59) (args := #[.slice A n c]) ?_ ?_
    · go_simp
    · refine (cloneRows_any A n c vs hvl hvo.out r1 W (fun j v hj => ?_)).mono ?_
      · obtain ⟨ad, e, hb, hc⟩ := hvc.out j v hj
        have hbw := hB0.trans (hC.mono hB0.size)
        exact ⟨ad, e, Nat.lt_of_lt_of_le hb hbw.size, (hbw.cell (p := ad.add j) (by rw [add_block]; exact hb)).trans hc⟩
      · rintro e W' ⟨v, rfl, ho, hb⟩
        exact ⟨_, rfl, own_low ho hC.size, hb⟩
  simp only [Act.put, List.setIfInBounds_toArray, List.set_cons_zero, List.set_cons_succ, envAdd]
  intro x10
  repeat (first
    | (refine wpAs_skip rfl ?_; simp only [Act.put, List.setIfInBounds_toArray, List.set_cons_zero, List.set_cons_succ])
    | (refine wpAs_pure (v := ?_) rfl rfl ?_ ?_; rotate_left; (intro W hC hE; clear hE; (have q1 := (hC.cell (p := ⟨w.heap.size, 1, none⟩) lt0).trans f2); clear hC; go_simp; done); simp only [Act.put, List.setIfInBounds_toArray, List.set_cons_zero, List.set_cons_succ])
    | (refine wpAs_pure (v := ?_) rfl rfl ?_ ?_; rotate_left; (intro W hC hE; clear hE; (have q1 := (hC.cell (p := ⟨w.heap.size, 1, none⟩) lt0).trans f2); clear hC; go_simp; with_reducible rfl); simp only [Act.put, List.setIfInBounds_toArray, List.set_cons_zero, List.set_cons_succ]))
  refine wpAs_act rfl rfl ?_ ?_
  · intro W hC hE
    clear hE
    refine does_enter (f := 60) (args := #[.slice B m c']) ?_ ?_
    · go_simp
    · refine (cloneWts_any B m c' (wcells ps) (Lib.hid (by rw [wcells_length, hpl.out])) hpo.out r2 W (fun j v hj => ?_)).mono ?_
      · obtain ⟨ad, e, hb, hc⟩ := hpc.out j v hj
        have hbw := hB0.trans (hC.mono hB0.size)
        exact ⟨ad, e, Nat.lt_of_lt_of_le hb hbw.size, (hbw.cell (p := ad.add j) (by rw [add_block]; exact hb)).trans hc⟩
      · rintro e W' ⟨v, rfl, ho, hb⟩
        exact ⟨_, rfl, own_low ho hC.size, hb⟩
  simp only [Act.put, List.setIfInBounds_toArray, List.set_cons_zero, List.set_cons_succ, envAdd]
  intro x13
  refine wpAs_pure (v := .agg #[x10, x13]) rfl rfl ?_ ?_
  · intro W hC hE
    obtain ⟨A1, c1, rfl, _⟩ := own_any (hE.2.1 rfl)
    obtain ⟨A2, c2, rfl, _⟩ := own_any (hE.1 rfl)
    clear hE hC
    go_simp
  simp only [Act.put, List.setIfInBounds_toArray, List.set_cons_zero, List.set_cons_succ]
  refine wpAs_act rfl rfl ?_ ?_
  · intro W hC hE
    clear hE
    have hsz' := hC.size
    clear hC
    go_simp
    exact ⟨⟨_, rfl, hsz', heap_alloc_new _ _⟩, (Below.refl _ _).alloc (Nat.le_refl _) _⟩
  simp only [Act.put, List.setIfInBounds_toArray, List.set_cons_zero, List.set_cons_succ, envAdd]
  intro x3
  refine wpAs_end fun W hC hE => ?_
  obtain ⟨⟨g, rfl, hg, hg3⟩, ho2, ho1, _⟩ := hE
  obtain ⟨A1, c1, rfl, e1, e2, e3, e4⟩ := own_any ho1
  obtain ⟨A2, c2, rfl, e5, e6, e7, e8⟩ := own_any ho2
  obtain ⟨k1, k2, k3, k4⟩ := two_cells hg3
  obtain ⟨W1, hW1, g3, gr, gs⟩ := put_two (u := .slice A1 n c1) (v := .slice A2 m c2) hg3
  have o1 := ho1.kept gr (by rw [e3]; have := own_not ho1 hg3 (by decide); rw [e3] at this; exact .inr (Ne.symm this))
  have o2 := ho2.kept gr (by rw [e7]; have := own_not ho2 hg3 (by decide); rw [e7] at this; exact .inr (Ne.symm this))
  have hb2 : Below w2.heap.size w2 W1 := hC.grown gr hC.size (fun k e => by cases e; exact hg)
  have hB1 := hB0.trans (hb2.mono hB0.size)
  have q1 := (hb2.cell (p := ⟨w.heap.size, 0, none⟩) lt0).trans f1
  have q2 := (hb2.cell (p := ⟨w.heap.size, 1, none⟩) lt0).trans f2
  obtain ⟨p1, p2, p3, p4⟩ := two_cells g3
  have hapart := own_apart o1 o2 (by decide)
  have hnot1 := own_not o1 g3 (by decide)
  have hnot2 := own_not o2 g3 (by decide)
  replace g3 := Lib.hid g3
  replace hg3 := Lib.hid hg3
  replace gs := Lib.hid gs
  replace e3 := Lib.hid e3
  replace e7 := Lib.hid e7
  replace hapart := Lib.hid hapart
  replace hnot1 := Lib.hid hnot1
  replace hnot2 := Lib.hid hnot2
  go_upto_block 0 with fail
  clear hW1 ho1 ho2 k1 k2 k3 k4 hC gr
  have hl1 : w.heap.size ≤ W1.heap.size := hB1.size
  have hl2 : w2.heap.size ≤ W1.heap.size := hb2.size
  go_wp2_with fail
  go_loopw [18] (fun i wr => ∃ k : Nat, k ≤ n ∧ i = .int .i64 k ∧ W1.grownBy wr (A1.map (·.block)) ∧ ∃ us : List Value, wr.ownsRow w2.heap.size 26 1 (.slice A1 n c1) n us ∧ (∀ j u, k ≤ j → us[j]? = some u → vs[j]? = some u) ∧
      ∀ (j : Nat) (u : Value) (x : List UInt8), j < k → us[j]? = some u → d.1[j]? = some x → rBy (New W1.heap.size wr) wr [u] x) (fun i _ => n - (intOf i).toNat)
  case atStart => exact ⟨0, by omega, rfl, grow_refl _ _, vs, o1, fun j u _ h => h, fun j u x h => by omega⟩
  case round =>
    obtain ⟨k, hk, rfl, hgr, us, hus, hus1, hus2⟩ := hrel
    replace hus1 := Lib.hid hus1
    replace hus2 := Lib.hid hus2
    by_cases hlt : k < n
    · obtain ⟨x, hx⟩ : ∃ x, d.1[k]? = some x := ⟨_, List.getElem?_eq_getElem (by rw [hn.out]; exact hlt)⟩
      obtain ⟨v, hv⟩ : ∃ v, vs[k]? = some v := ⟨_, List.getElem?_eq_getElem (by rw [hvl.out]; exact hlt)⟩
      obtain ⟨ad, rfl, hab, hac⟩ := hvc.out k v hv
      have hby := hvb.out k v x hv hx
      have hbig := HS.out.block k x hx
      obtain ⟨a1, rfl⟩ := e4 (by omega)
      have hbk := own_block hus
      have hcw : Below w.heap.size w wr := hB1.grown hgr hl1 (fun q e => by simp at e; omega)
      have hc1 : wr.cell? (ad.add k) = some v := (hcw.cell (p := ad.add k) (by rw [add_block]; exact hab)).trans hac
      have hc2 : wr.cell? ⟨g, 0, none⟩ = some (.slice (some a1) n c1) := (grow_cell hgr (p := ⟨g, 0, none⟩) p4 (by have := hnot1.out; rw [e3.out] at this; exact this)).trans p1
      have hby' := stab_by.old hby hcw
      replace hx := Lib.hid hx
      replace hv := Lib.hid hv
      have hf := own_free hus k
      have hul : us.length = n * 1 := hus.1
      have hcu := own_at hus (j := k) (List.getElem?_eq_getElem (by omega))
      generalize us[k] = u0 at hcu
      replace hul := Lib.hid hul
      replace hus := Lib.hid hus
      obtain ⟨Ev, cv, rfl, _⟩ := rBy_open hby
      have i1 : (0 : Int) ≤ (k : Int) := by omega
      have i2 : (k : Int) < (n : Int) := by omega
      go_wp2_with fail
      refine wp_region_tail (by kernel_rfl) (fun W => Below wr.heap.size wr W) (fun i => match i with
          | 4 => some (fun v W => rBy (New wr.heap.size W) W [v] x)
          | _ => none) (fun _ => none) (List.cons_ne_nil _ _) (by kernel_rfl) (by kernel_rfl) (by kernel_rfl) (Below.refl _ _).drew (fun w w' h hb => h.trans (hb.mono h.size)) ?tst1 ?_
      case tst1 =>
        intro j φ x W W' hp hx hb
        match j, hp with
        | 4, hp => cases hp; exact stab_by.new hx (Nat.le_refl _) hb
      simp only [List.dropLast_cons_of_ne_nil, ne_eq, reduceCtorEq, not_false_eq_true, List.dropLast_singleton, List.getLast_cons, List.getLast_singleton]
      have lt1 := World.block_lt_of_cell? _ _ hc2
      have lt2 := World.block_lt_of_cell? _ _ hcu
      repeat (first
        | (refine wpAs_skip rfl ?_; simp only [Act.put, List.setIfInBounds_toArray, List.set_cons_zero, List.set_cons_succ])
        | (refine wpAs_pure (v := ?_) rfl rfl ?_ ?_; rotate_left; (intro W hC hE; clear hE; (have z1 := (hC.cell lt1).trans hc2); clear hC; go_simp; done); simp only [Act.put, List.setIfInBounds_toArray, List.set_cons_zero, List.set_cons_succ])
        | (refine wpAs_pure (v := ?_) rfl rfl ?_ ?_; rotate_left; (intro W hC hE; clear hE; (have z1 := (hC.cell lt1).trans hc2); clear hC; go_simp; with_reducible rfl); simp only [Act.put, List.setIfInBounds_toArray, List.set_cons_zero, List.set_cons_succ]))
      refine wpAs_act rfl rfl ?_ ?_
      · intro W hC hE
        clear hE
        refine does_enter (f := 52) (args := #[.slice Ev x.length cv]) ?_ ?_
        · go_simp
        · refine (clone_by _ x W (by omega) (stab_by.old hby' hC)).mono ?_
          rintro e W' ⟨u, rfl, ho, hb⟩
          exact ⟨_, rfl, stab_by.mono ho hC.size, hb⟩
      simp only [Act.put, List.setIfInBounds_toArray, List.set_cons_zero, List.set_cons_succ, envAdd]
      intro x27
      repeat (first
        | (refine wpAs_skip rfl ?_; simp only [Act.put, List.setIfInBounds_toArray, List.set_cons_zero, List.set_cons_succ])
        | (refine wpAs_pure (v := ?_) rfl rfl ?_ ?_; rotate_left; (intro W hC hE; clear hE; (have z1 := (hC.cell lt1).trans hc2); clear hC; go_simp; done); simp only [Act.put, List.setIfInBounds_toArray, List.set_cons_zero, List.set_cons_succ])
        | (refine wpAs_pure (v := ?_) rfl rfl ?_ ?_; rotate_left; (intro W hC hE; clear hE; (have z1 := (hC.cell lt1).trans hc2); clear hC; go_simp; with_reducible rfl); simp only [Act.put, List.setIfInBounds_toArray, List.set_cons_zero, List.set_cons_succ]))
      refine wpAs_end fun W hC hE => ?_
      obtain ⟨hE, _⟩ := hE
      obtain ⟨Eu, cu, rfl, _⟩ := rBy_open hE
      have z2 := (hC.cell lt2).trans hcu
      have z3 := (hC.frozen lt2).trans hf
      go_wp2_with fail
      go_roundw
      case rel =>
        have hp1 : (a1.add k).block < W1.heap.size := by rw [add_block]; exact (own_block o1).2.1
        refine ⟨k + 1, by omega, by go_num, grow_put (grow_below hgr hC) (by rw [add_block]; rfl) _, us.set k (.slice Eu x.length cu), own_put (own_below hus.out hC) (by omega) _, fun j u hj hu => ?_, fun j u y hj hu hy => ?_⟩
        · rw [List.getElem?_set_ne (by omega)] at hu
          exact hus1.out j u (by omega) hu
        · by_cases hjk : k = j
          · subst hjk
            rw [List.getElem?_set_self (by have := hul.out; omega)] at hu
            cases hu
            rw [hx.out] at hy
            cases hy
            exact stab_by.put (stab_by.mono hE hgr.size) hp1 _
          · rw [List.getElem?_set_ne hjk] at hu
            exact stab_by.put (stab_by.new (hus2.out j u y (by omega) hu hy) (Nat.le_refl _) hC) hp1 _
      case measure => simp [intOf]; omega
    · have hge : n ≤ k := by omega
      have hcw : Below w.heap.size w wr := hB1.grown hgr hl1 (fun q e => by
        rcases A1 with _ | a1
        · cases e
        · have := (own_block o1).1
          have h2 := hsz.out
          simp only [Option.map_some, Option.some.injEq] at e
          omega)
      have hcw2 : Below w2.heap.size w2 wr := hb2.grown hgr hl2 (fun q e => by
        rcases A1 with _ | a1
        · cases e
        · have := (own_block o1).1
          simp only [Option.map_some, Option.some.injEq] at e
          omega)
      have o2' := o2.kept hgr (by have := hapart.out; rwa [e3.out] at this)
      have p1' := (grow_cell hgr (p := ⟨g, 0, none⟩) p4 (by have := hnot1.out; rw [e3.out] at this; exact this)).trans p1
      have p2' := (grow_cell hgr (p := ⟨g, 1, none⟩) p4 (by have := hnot1.out; rw [e3.out] at this; exact this)).trans p2
      have q2' := (hcw2.cell (p := ⟨w.heap.size, 1, none⟩) lt0).trans f2
      have f3' := Lib.hid ((hcw2.block (w.heap.size + 1) (by rw [hsz.out]; omega)).trans f3.out)
      have hp4' : g < wr.heap.size := Nat.lt_of_lt_of_le p4 hgr.size
      have hl3 : W1.heap.size ≤ wr.heap.size := hgr.size
      have hus2' : Hid (∀ (j : Nat) (u : Value) (x : List UInt8), us[j]? = some u → d.1[j]? = some x → rBy (New W1.heap.size wr) wr [u] x) := Lib.hid fun j u x hu hx => hus2.out j u x (by
        have := (List.getElem?_eq_some_iff.1 hx).1
        have := hn.out
        omega) hu hx
      have hapart2 := own_apart o2' hus (by decide)
      replace hus := Lib.hid hus
      have hA2 : Hid (∀ q, A2.map (·.block) = some q → q < W1.heap.size) := Lib.hid fun q e => by
        rcases A2 with _ | a
        · cases e
        · have := (own_block o2).2.1
          simp only [Option.map_some, Option.some.injEq] at e
          omega
      clear hus1 hus2 hgr p1 p2 p3 p4 q1 q2 g3 hg3 gs o1 o2 hB1 hb2 hB0 hnot1 hapart
      replace hapart2 := Lib.hid hapart2
      obtain ⟨wo, rfl⟩ : ∃ wo : World, wo = wr := ⟨_, rfl⟩
      go_wp2_with fail
      go_loopw [33] (fun i wr => ∃ k : Nat, k ≤ m ∧ i = .int .i64 k ∧ wo.grownBy wr (A2.map (·.block)) ∧ ∃ qs : List (Int × Value), wr.ownsRow w2.heap.size 78 2 (.slice A2 m c2) m (wcells qs) ∧ (∀ (j : Nat) (p : Int × Value), k ≤ j → qs[j]? = some p → ps[j]? = some p) ∧
          ∀ (j : Nat) (p : Int × Value) (x : Wt), j < k → qs[j]? = some p → d.2[j]? = some x → p.1 = x.1 ∧ rBy (New wo.heap.size wr) wr [p.2] x.2 ∧ -9223372036854775808 ≤ x.1 ∧ x.1 ≤ 9223372036854775807) (fun i _ => m - (intOf i).toNat)
      case atStart => exact ⟨0, by omega, rfl, grow_refl _ _, ps, o2', fun j u _ h => h, fun j u x h => by omega⟩
      case round =>
        obtain ⟨k, hk, rfl, hgr, qs, hqs, hqs1, hqs2⟩ := hrel
        replace hqs1 := Lib.hid hqs1
        replace hqs2 := Lib.hid hqs2
        have hcw' : Below w.heap.size w wr := hcw.grown hgr hcw.size (fun q e => by
          rcases A2 with _ | a1
          · cases e
          · have := (own_block o2').1
            have h2 := hsz.out
            simp only [Option.map_some, Option.some.injEq] at e
            omega)
        by_cases hlt : k < m
        · obtain ⟨x, hx⟩ : ∃ x, d.2[k]? = some x := ⟨_, List.getElem?_eq_getElem (by rw [hm.out]; exact hlt)⟩
          obtain ⟨pk, hv⟩ : ∃ v, ps[k]? = some v := ⟨_, List.getElem?_eq_getElem (by rw [hpl.out]; exact hlt)⟩
          obtain ⟨hw1, hw2⟩ := wcells_get hv
          obtain ⟨ad, rfl, hab, hac⟩ := hpc.out _ _ hw1
          obtain ⟨ad', e', hab', hac'⟩ := hpc.out _ _ hw2
          cases e'
          obtain ⟨hpx, hby, _, _⟩ := hpb.out k pk x hv hx
          have hbig := HS.out.wait k x hx
          obtain ⟨a2, rfl⟩ := e8 (by omega)
          have hbk := own_block hqs
          have hc1 : wr.cell? (ad.add (k * 2)) = some (.int .i64 pk.1) := (hcw'.cell (p := ad.add (k * 2)) (by rw [add_block]; exact hab)).trans hac
          have hc1' : wr.cell? (ad.add (k * 2 + 1)) = some pk.2 := (hcw'.cell (p := ad.add (k * 2 + 1)) (by rw [add_block]; exact hab)).trans hac'
          rw [add_next] at hc1'
          have hc2 : wr.cell? ⟨g, 1, none⟩ = some (.slice (some a2) m c2) := (grow_cell hgr (p := ⟨g, 1, none⟩) hp4' (by have := hnot2.out; rw [e7.out] at this; exact this)).trans p2'
          have hby' := stab_by.old hby hcw'
          have hql : qs.length = m := by have := hqs.1; rw [wcells_length] at this; omega
          obtain ⟨qk, hqk⟩ : ∃ q, qs[k]? = some q := ⟨_, List.getElem?_eq_getElem (by omega)⟩
          obtain ⟨hz1, hz2⟩ := wcells_get hqk
          have hcu := own_at hqs hz2
          have hf := own_free hqs (k * 2 + 1)
          have hcu' := hcu
          have hf' := hf
          rw [add_next] at hcu' hf'
          obtain ⟨pi, pv⟩ := pk
          obtain ⟨Ev, cv, rfl, _⟩ := rBy_open hby
          replace hx := Lib.hid hx
          replace hv := Lib.hid hv
          replace hqk := Lib.hid hqk
          replace hql := Lib.hid hql
          replace hqs := Lib.hid hqs
          replace hpx := Lib.hid hpx
          clear hw1 hw2 hz1 hz2 hac hac' hcu hf
          have i1 : (0 : Int) ≤ (k : Int) := by omega
          have i2 : (k : Int) < (m : Int) := by omega
          obtain ⟨wb, hwb, b1, b2, b3, hbb⟩ := box_pair wr (.int .i64 pi) (.slice Ev x.2.length cv) 78
          have hby2 := stab_by.old hby' hbb
          replace b3 := Lib.hid b3
          have lt1 := World.block_lt_of_cell? _ _ hc2
          have lt2 := World.block_lt_of_cell? _ _ hcu'
          have hc3 := (hbb.cell lt1).trans hc2
          have hc4 := (hbb.cell lt2).trans hcu'
          have hc5 := (hbb.frozen lt2).trans hf'
          have lt3 := World.block_lt_of_cell? _ _ hc3
          have lt4 := World.block_lt_of_cell? _ _ hc4
          have lt5 := World.block_lt_of_cell? _ _ b2
          go_upto_region 10 with fail
          clear hwb
          refine wp_region_tail (by kernel_rfl) (fun W => Below wb.heap.size wb W) (fun i => match i with
              | 5 => some (fun v W => rBy (New wb.heap.size W) W [v] x.2)
              | _ => none) (fun _ => none) (List.cons_ne_nil _ _) (by kernel_rfl) (by kernel_rfl) (by kernel_rfl) (Below.refl _ _).drew (fun w w' h hb => h.trans (hb.mono h.size)) ?tst2 ?_
          case tst2 =>
            intro j φ x W W' hp hx hb
            match j, hp with
            | 5, hp => cases hp; exact stab_by.new hx (Nat.le_refl _) hb
          simp only [List.dropLast_cons_of_ne_nil, ne_eq, reduceCtorEq, not_false_eq_true, List.dropLast_singleton, List.getLast_cons, List.getLast_singleton]
          repeat (first
            | (refine wpAs_skip rfl ?_; simp only [Act.put, List.setIfInBounds_toArray, List.set_cons_zero, List.set_cons_succ])
            | (refine wpAs_pure (v := ?_) rfl rfl ?_ ?_; rotate_left; (intro W hC hE; clear hE; (have z1 := (hC.cell lt3).trans hc3; have z2 := (hC.cell lt5).trans b2); clear hC; go_simp; done); simp only [Act.put, List.setIfInBounds_toArray, List.set_cons_zero, List.set_cons_succ])
            | (refine wpAs_pure (v := ?_) rfl rfl ?_ ?_; rotate_left; (intro W hC hE; clear hE; (have z1 := (hC.cell lt3).trans hc3; have z2 := (hC.cell lt5).trans b2); clear hC; go_simp; with_reducible rfl); simp only [Act.put, List.setIfInBounds_toArray, List.set_cons_zero, List.set_cons_succ]))
          refine wpAs_act rfl rfl ?_ ?_
          · intro W hC hE
            clear hE
            refine does_enter (f := 52) (args := #[.slice Ev x.2.length cv]) ?_ ?_
            · go_simp
            · refine (clone_by _ x.2 W (by omega) (stab_by.old hby2 hC)).mono ?_
              rintro e W' ⟨u, rfl, ho, hb⟩
              exact ⟨_, rfl, stab_by.mono ho hC.size, hb⟩
          simp only [Act.put, List.setIfInBounds_toArray, List.set_cons_zero, List.set_cons_succ, envAdd]
          intro x43
          repeat (first
            | (refine wpAs_skip rfl ?_; simp only [Act.put, List.setIfInBounds_toArray, List.set_cons_zero, List.set_cons_succ])
            | (refine wpAs_pure (v := ?_) rfl rfl ?_ ?_; rotate_left; (intro W hC hE; clear hE; (have z1 := (hC.cell lt3).trans hc3; have z2 := (hC.cell lt5).trans b2); clear hC; go_simp; done); simp only [Act.put, List.setIfInBounds_toArray, List.set_cons_zero, List.set_cons_succ])
            | (refine wpAs_pure (v := ?_) rfl rfl ?_ ?_; rotate_left; (intro W hC hE; clear hE; (have z1 := (hC.cell lt3).trans hc3; have z2 := (hC.cell lt5).trans b2); clear hC; go_simp; with_reducible rfl); simp only [Act.put, List.setIfInBounds_toArray, List.set_cons_zero, List.set_cons_succ]))
          refine wpAs_end fun W hC hE => ?_
          obtain ⟨hE, _⟩ := hE
          obtain ⟨Eu, cu, rfl, _⟩ := rBy_open hE
          have z2 := (hC.cell lt4).trans hc4
          have z3 := (hC.frozen lt4).trans hc5
          go_wp2_with fail
          go_roundw
          case rel =>
            have hp1 : (a2.add (k * 2 + 1)).block < wo.heap.size := by rw [add_block]; exact (own_block o2').2.1
            have hbW : Below wr.heap.size wr W := hbb.trans (hC.mono hbb.size)
            rw [← add_next]
            refine ⟨k + 1, by omega, by go_num, grow_put (grow_below hgr hbW) (by rw [add_block]; rfl) _, qs.set k (qk.1, .slice Eu x.2.length cu), ?_, fun j p hj hp => ?_, fun j p y hj hp hy => ?_⟩
            · rw [← wcells_set hqk.out]
              exact own_put (own_below hqs.out hbW) (by omega) _
            · rw [List.getElem?_set_ne (by omega)] at hp
              exact hqs1.out j p (by omega) hp
            · by_cases hjk : k = j
              · subst hjk
                rw [List.getElem?_set_self (by have := hql.out; omega)] at hp
                cases hp
                rw [hx.out] at hy
                cases hy
                have e1 := hqs1.out k qk (Nat.le_refl _) hqk.out
                obtain ⟨e2, _, b5, b6⟩ := hpb.out k qk x e1 hx.out
                exact ⟨e2, stab_by.put (stab_by.mono hE (Nat.le_trans hgr.size hbb.size)) hp1 _, b5, b6⟩
              · rw [List.getElem?_set_ne hjk] at hp
                obtain ⟨c1, c2, c3⟩ := hqs2.out j p y (by omega) hp hy
                exact ⟨c1, stab_by.put (stab_by.new c2 (Nat.le_refl _) hbW) hp1 _, c3⟩
          case measure => simp [intOf]; omega
        · have hge2 : m ≤ k := by omega
          have z1 := (grow_cell hgr (p := ⟨g, 0, none⟩) hp4' (by have := hnot2.out; rw [e7.out] at this; exact this)).trans p1'
          have z2 := (grow_cell hgr (p := ⟨g, 1, none⟩) hp4' (by have := hnot2.out; rw [e7.out] at this; exact this)).trans p2'
          have hz : wr.heap[w.heap.size + 1]? = some (.cells #[.slice none 0 0, .slice none 0 0] 25 (0, 0)) := (hgr.block _ (by have := hsz.out; omega) (fun e => by
            rcases A2 with _ | a
            · cases e
            · have := (own_block o2').1
              have := hsz.out
              simp only [Option.map_some, Option.some.injEq] at e
              omega)).trans f3'.out
          obtain ⟨k1, k2, k3, k4⟩ := two_cells hz
          obtain ⟨W9, hW9, g9, gr9, gs9⟩ := put_two (u := .slice A1 n c1) (v := .slice A2 m c2) hz
          obtain ⟨k5, k6, _, _⟩ := two_cells g9
          have y1 := hus.out.kept hgr (by have := hapart2.out; rwa [e7.out] at this)
          have y2 := own_low (y1.kept gr9 (by have := own_not y1 hz (by decide); exact .inr (Ne.symm this))) (show w.heap.size ≤ w2.heap.size by omega)
          have y3 := own_low (hqs.kept gr9 (by have := own_not hqs hz (by decide); exact .inr (Ne.symm this))) (show w.heap.size ≤ w2.heap.size by omega)
          have hB9 : Below w.heap.size w W9 := hcw'.grown gr9 hcw'.size (fun q e => by cases e; omega)
          have hfin : Hid (Twn w.heap.size W9 (.agg #[.slice A1 n c1, .slice A2 m c2]) d) := Lib.hid (by
            have hs2 := hsz.out
            have hA2o : ∀ q, A2.map (·.block) = some q → q < wo.heap.size := fun q e => Nat.lt_of_lt_of_le (hA2.out q e) hl3
            have hmm := hm.out
            refine ⟨_, A2, c2, qs, by rw [hmm], own_rows_ok (fun p hp hq => ⟨hq, fun e => ?_⟩) y2 hn.out fun j u x hu hx => ?_, by rw [hmm]; exact y3, by rw [hmm]; exact e7.out, fun j p x hp hx => ?_⟩
            · have := hapart2.out
              rw [hp, e7.out] at this
              rcases this with h | h
              · cases h
              · exact h e.symm
            · exact stab_by _ _ _ _ _ _ (fun p v hp hc => ⟨⟨⟨Nat.le_trans hl1 hp.1, hp.2⟩, fun e => by have := hA2.out _ e; have := hp.1; omega⟩, hc⟩) (stab_by.grown (stab_by.grown (hus2'.out j u x hu hx) hgr hA2.out) gr9 (fun q e => by cases e; omega))
            · obtain ⟨c1, c2, c3⟩ := hqs2.out j p x (by
                have := (List.getElem?_eq_some_iff.1 hx).1
                omega) hp hx
              exact ⟨c1, stab_by _ _ _ _ _ _ (fun p v hp hc => ⟨⟨⟨Nat.le_trans (Nat.le_trans hl1 hl3) hp.1, hp.2⟩, fun e => by have := hA2o _ e; have := hp.1; omega⟩, hc⟩) (stab_by.grown c2 gr9 (fun q e => by cases e; omega)), c3⟩)
          clear y1 y2 y3 hus hqs hqs1 hqs2 hgr hz g9 gr9 o2'
          go_wp2_with fail
          trace_state
          exact bodyPost_ret (v := .agg #[.slice A1 n c1, .slice A2 m c2]) (by simp [results, Try.results28, go_sem, k5, k6]) rfl ⟨_, rfl, hfin.out, hB9⟩
theorem twin_any (v : Value) (d : Dk) (w : World) (hs : Small d) (h : Dsk (Old w) w v d) : Calls Try.prog 28 #[v] w fun e w' => ∃ u, e = .returned u ∧ Dsk (New w.heap.size w') w' u d ∧ Below w.heap.size w w' :=
  (twin_own v d w hs h).mono fun _ _ ⟨u, e, h1, h2⟩ => ⟨u, e, h1.dsk, h2⟩
end Go.Proofs.Ytgnogclhleheiaa
