/-
  Lemmas on the program and on the document's answers, gathered: WkRefNodes, NdSpoil, NdRefSame. Conditions: those that each lemma states.
-/
import Derived.Test.YtdaidhbmfocodaaGreatBnd4
import Derived.Deep.CutRange
import Derived.Deep.RegionWith
import Derived.StillTailTactics
/-
  The document's Nodes (layer 11). Conditions: those that each lemma states.
-/
namespace Go.Proofs.YtdaidhbmfocodaaGreat
open Go.RowKit

theorem make_ints : ∃ vs : Array Value, (∀ k, k < 256 → vs[k]? = some (.int .i64 0)) ∧ ∀ W : World, (Instr.makeSlice 40 (.int .i64 256) (.int .i64 256)).run Tryz.prog W = .ok (.slice (some ⟨W.heap.size, 0, none⟩) 256 256) (W.alloc (.cells vs 3)) := by
  obtain ⟨i0, hi, hz0, hz1, hz2⟩ := info_parts int_info0
  refine ⟨madeCells #[.int .i64 0] (256 * 1), fun k hk => ?_, fun W => ?_⟩
  · have := made_one (.int .i64 0) 256
    rw [← Array.getElem?_toList, this, List.getElem?_replicate, if_pos hk]
  · have h1 := run_make (P := Tryz.prog) W 40 3 i0 (.int .i64 0) Tryz.underlying40 hi hz0 .i64 .i64 256 256 (by omega) (by omega) (by rw [hz2]; omega) (by omega)
    rw [hz1] at h1
    exact h1
theorem mrk_new {vs : Array Value} (hv : ∀ k, k < 256 → vs[k]? = some (.int .i64 0)) (W : World) : Mrk W.heap.size (List.replicate 256 0) (W.alloc (.cells vs 3)) :=
  ⟨vs, heap_alloc_new _ _, List.length_replicate, fun k hk => by rw [hv k hk, List.getElem?_replicate, if_pos hk]; rfl⟩
theorem mrk_two {vs : Array Value} (hv : ∀ k, k < 256 → vs[k]? = some (.int .i64 0)) (W : World) : Mrk W.heap.size (List.replicate 256 0) ((W.alloc (.cells vs 3)).alloc (.cells vs 3)) ∧ Mrk (W.heap.size + 1) (List.replicate 256 0) ((W.alloc (.cells vs 3)).alloc (.cells vs 3)) ∧ Below W.heap.size W ((W.alloc (.cells vs 3)).alloc (.cells vs 3)) := by
  refine ⟨lasts_mrk _ _ _ _ (mrk_new hv W) ((Below.refl _ _).alloc (Nat.le_refl _) _), ?_, ((Below.refl _ W).alloc (Nat.le_refl _) _).alloc (by simp) _⟩
  have := mrk_new hv (W.alloc (.cells vs 3))
  rwa [World.size_alloc] at this
theorem mrk_sl {g : Nat} {X : List Int} {W : World} (h : Mrk g X W) (hb : ∀ k : Nat, In64 (X[k]?.getD 0)) : rSl 1 (rK .i64) (Old W) W [.slice (some ⟨g, 0, none⟩) 256 256] X := by
  have hlt := mrk_lt h
  have hl : X.length = 256 := by
    obtain ⟨_, _, h1, _⟩ := h
    exact h1
  refine ⟨some ⟨g, 0, none⟩, 256, by rw [hl], by omega, by omega, fun i x hx => ⟨⟨g, 0, none⟩, [.int .i64 x], rfl, rfl, fun j u hj => ?_, ?_⟩⟩
  · have hi : i < 256 := by
      have := (List.getElem?_eq_some_iff.1 hx).1
      omega
    have hj0 : j = 0 := by
      have := (List.getElem?_eq_some_iff.1 hj).1
      simp at this
      exact this
    subst hj0
    cases hj
    have ea : (⟨g, 0, none⟩ : Addr).add (i * 1 + 0) = ⟨g, i, none⟩ := by
      unfold Addr.add
      split
      · rename_i e
        have : i = 0 := by omega
        subst this
        rfl
      · simp
    rw [ea]
    refine ⟨hlt, ?_⟩
    rw [mrk_cell h hi, hx]
    rfl
  · have := hb i
    rw [hx] at this
    exact rI64_mk this
theorem fl_len2 {f : It → List Int} {g : It → List It} : ∀ {L : List It}, (∀ x ∈ L, (f x).length ≤ (g x).length) → (L.flatMap f).length ≤ (L.flatMap g).length
  | [], _ => by simp
  | x :: r, h => by
    rw [List.flatMap_cons, List.flatMap_cons, List.length_append, List.length_append]
    have h1 := h x (by simp)
    have h2 := fl_len2 (L := r) fun y hy => h y (by simp [hy])
    omega
theorem refs_len (s : Rm) : ∀ (l : Nat) (a : Int), (refsT s l a).length ≤ (itsT s l a).length
  | 0, a => by
    unfold refsT itsT
    exact Nat.le_trans (List.length_filter_le _ _) (by simp)
  | l + 1, a => by
    unfold refsT itsT
    exact fl_len2 fun x _ => refs_len s l x.2.1
theorem zero_get (k : Nat) : (List.replicate 256 (0 : Int))[k]?.getD 0 = 0 := by
  rw [List.getElem?_replicate]
  split <;> rfl
theorem mark_pre {s : Rm} {a : Int} (h : treeO s a = true) : MkPre s (rmV s a).1.toNat a (List.replicate 256 0) (List.replicate 256 0) := by
  have hb := tree_blk h
  refine ⟨tree_at h, tree_once h, fun b _ => zero_get _, fun b hbn => ?_, fun b hbr => ?_, fun k => ?_, List.length_replicate, List.length_replicate⟩
  · obtain ⟨h1, h2, _⟩ := node_place (hb.node b hbn)
    exact ⟨h1, h2⟩
  · obtain ⟨_, _, h1, h2⟩ := hb.held b hbr
    exact ⟨h1, h2⟩
  · rw [zero_get]
    have h1 := refs_len s (rmV s a).1.toNat a
    have h2 : (itsT s (rmV s a).1.toNat a).length ≤ 15625 := (tree_all h).2.1
    omega
theorem mark_in64 {L : List Int} (h : ∀ b ∈ L, 8 ≤ b ∧ b < 256) (hl : L.length ≤ 1000000) (k : Nat) : In64 ((addL (List.replicate 256 0) L)[k]?.getD 0) := by
  rw [addL_get _ _ _ (fun b hb => by
    have := h b hb
    rw [List.length_replicate]
    omega), zero_get]
  have := List.count_le_length (a := (k : Int)) (l := L)
  exact ⟨by omega, by omega⟩
theorem nodes_len {s : Rm} {a : Int} (h : treeO s a = true) : (nodesO s a).length ≤ 1000000 := by
  have h1 := (tree_once h).length_le_of_subset (l₂ := (List.range 256).map fun k : Nat => (k : Int)) (fun b hb => by
    obtain ⟨h1, h2, _⟩ := node_place ((tree_blk h).node b hb)
    exact List.mem_map.2 ⟨b.toNat, List.mem_range.2 (by omega), by omega⟩)
  rw [List.length_map, List.length_range] at h1
  omega

set_option maxRecDepth 100000 in
set_option maxHeartbeats 8000000 in
theorem refNodesF_any (v : Value) (s : Rm) (a : Int) (w : World) (h : Sto (Old w) w v s) :
    Calls Tryz.prog 15 #[v, .int .i64 a] w (NodesR s a w) := by
  obtain ⟨A, ca, B, cb, N, cn, L, cl, rfl, _⟩ := id h.open
  have hck := Lib.hid (fun v W hW => refCheckF_any v s a W hW)
  have hcb := Lib.hid (fun hh : ckE s a ≠ 0 => (⟨if_neg hh, if_neg hh⟩ : ndsV s a = [] ∧ rfsV s a = []))
  have hcg := Lib.hid (fun hh : ckE s a = 0 => (⟨if_pos hh, if_pos hh⟩ : ndsV s a = markI (nodesO s a) ∧ rfsV s a = markI (refsO s a)))
  have hct := Lib.hid (fun hh => ck_of (s := s) (a := a) hh)
  unfold NodesR
  obtain ⟨V1, hV1⟩ : ∃ V, ndsV s a = V := ⟨_, rfl⟩
  obtain ⟨V2, hV2⟩ : ∃ V, rfsV s a = V := ⟨_, rfl⟩
  obtain ⟨E0, hE0⟩ : ∃ q, ckE s a = q := ⟨_, rfl⟩
  obtain ⟨H0, hH0⟩ : ∃ q, ckH s a = q := ⟨_, rfl⟩
  rw [hE0, hH0] at hck
  rw [hE0] at hcb hcg hct ⊢
  rw [hV1, hV2] at hcb hcg ⊢
  have HG0 : Bag w [OldR (.agg #[.slice A s.1.1.length ca, .slice B s.1.2.length cb, .slice N s.2.1.length cn, .slice L s.2.2.length cl]) s] := (Bag.nil w).add (F := OldR _ s) h (lasts_oldR _ _)
  obtain ⟨w0, hw0, hg0, hB0, _, hs0⟩ := bag_four HG0 (Below.refl _ _) (.slice A s.1.1.length ca) (.slice B s.1.2.length cb) (.slice N s.2.1.length cn) (.slice L s.2.2.length cl) 29
  have HG1 := Lib.hid hg0
  have B1 := Lib.hid hB0
  replace hs0 := Lib.hid hs0
  replace hE0 := Lib.hid hE0
  replace hH0 := Lib.hid hH0
  replace hV1 := Lib.hid hV1
  replace hV2 := Lib.hid hV2
  clear HG0 hg0 h hB0
  go_enter Tryz.func15, Tryz.ntmps15
  go_upto_region 1 with fail
  clear hw0
  obtain ⟨k0, k1, k2, k3, kg⟩ := HG1.out.at 0 rfl
  go_wp2_with fail
  with_reducible refine (hck.out _ _ (HG1.out.at 1 rfl)).mono ?_
  rintro e w4 ⟨rfl, hb4⟩
  have HG4 := Lib.hid (HG1.out.below hb4)
  have B4 := Lib.hid (B1.out.trans (hb4.mono B1.out.size))
  clear hb4 HG1 B1 k0 k1 k2 k3 kg hck
  by_cases he : E0 = 0
  case neg =>
    have e1 : (E0 != 0) = true := by simpa using he
    have hv := Lib.hid (hcb.out he)
    clear he
    go_wp2_with fail
    go_ret3
    rw [hv.out.1, hv.out.2]
    exact ⟨none, 0, none, 0, rfl, ⟨none, 0, rfl, by simp, by omega, fun i x h => by simp at h⟩, ⟨none, 0, rfl, by simp, by omega, fun i x h => by simp at h⟩, B4.out⟩
  subst he
  obtain ⟨vs, hvs, hmk⟩ := make_ints
  replace hvs := Lib.hid hvs
  go_upto_region 4 with fail
  go_cut [9, 10] from 20 to 21 (fun x9 x10 wx => ∃ g1 g2, x9 = .slice (some ⟨g1, 0, none⟩) 256 256 ∧ x10 = .slice (some ⟨g2, 0, none⟩) 256 256 ∧ g1 ≠ g2 ∧ w4.heap.size ≤ g1 ∧ w4.heap.size ≤ g2 ∧ Mrk g1 (List.replicate 256 0) wx ∧ Mrk g2 (List.replicate 256 0) wx ∧ Below w4.heap.size w4 wx)
  case first =>
    go_region_with (fail)
    all_goals (go_wp2_with fail)
    all_goals (go_meet; first
      | exact ⟨w4.heap.size, w4.heap.size + 1, rfl, rfl, by omega, Nat.le_refl _, Nat.le_succ _, (mrk_two hvs.out w4.drew).1, (mrk_two hvs.out w4.drew).2.1, (Below.refl _ w4).drew.trans (mrk_two hvs.out w4.drew).2.2⟩
      | exact ⟨w4.heap.size + 1, w4.heap.size, rfl, rfl, by omega, Nat.le_succ _, Nat.le_refl _, (mrk_two hvs.out w4.drew).2.1, (mrk_two hvs.out w4.drew).1, (Below.refl _ w4).drew.trans (mrk_two hvs.out w4.drew).2.2⟩)
  case rest =>
  obtain ⟨g1, g2, rfl, rfl, hne, hg1, hg2, hM1, hM2, hC⟩ := hcut
  obtain ⟨htr, has, _⟩ := hct.out (by first | rfl | trivial)
  have hmr : mayR s = true := by
    obtain ⟨_, _, hq, _⟩ := as_read has
    exact hq
  have hMk := Lib.hid (marks_is s hmr (rmV s a).1.toNat _ a w4 g1 g2 _ _ wc (mark_pre htr) (HG4.out.at 1 rfl : Sto (Old w4) w4 _ s) hg1 hg2 hne hC hM1 hM2)
  have hv1 := Lib.hid (hcg.out (by first | rfl | trivial)).1
  have hv2 := Lib.hid (hcg.out (by first | rfl | trivial)).2
  have hbk := tree_blk htr
  have hn1 : ∀ b ∈ nodesO s a, 8 ≤ b ∧ b < 256 := fun b hb => by
    obtain ⟨h1, h2, _⟩ := node_place (hbk.node b hb)
    exact ⟨h1, h2⟩
  have hn2 : ∀ b ∈ refsO s a, 8 ≤ b ∧ b < 256 := fun b hb => by
    obtain ⟨_, _, h1, h2⟩ := hbk.held b hb
    exact ⟨h1, h2⟩
  have hr2 : (refsO s a).length ≤ 1000000 := Nat.le_trans (refs_len s _ a) (Nat.le_trans (show (itsT s (rmV s a).1.toNat a).length ≤ 15625 from (tree_all htr).2.1) (by omega))
  have q1 := Lib.hid (marN_mark (L := nodesO s a) (N := List.replicate 256 0) List.length_replicate zero_get (fun b hb => by have := hn1 b hb; omega))
  have q2 := Lib.hid (marN_mark (L := refsO s a) (N := List.replicate 256 0) List.length_replicate zero_get (fun b hb => by have := hn2 b hb; omega))
  have z1 := Lib.hid (mark_in64 hn1 (nodes_len htr))
  have z2 := Lib.hid (mark_in64 hn2 hr2)
  obtain ⟨k0, k1, k2, k3, kg⟩ := (HG4.out.below hC).at 0 rfl
  clear hM1 hM2 hne hg1 hg2 hbk hn1 hn2 hr2 htr has hct hcb hcg hvs hmk hC
  go_wp2_with fail
  with_reducible refine hMk.out.mono ?_
  rintro e w5 ⟨⟨rv, rfl⟩, hN1, hN2, hb5, _⟩
  have hs1 := Lib.hid (mrk_sl hN1 z1.out)
  have hs2 := Lib.hid (mrk_sl hN2 z2.out)
  have B5 := Lib.hid (B4.out.trans (hb5.mono B4.out.size))
  have hl1 : Hid ((addL (List.replicate 256 0) (nodesO s a)).length = 256) := Lib.hid (by rw [addL_len, List.length_replicate])
  have hl2 : Hid ((addL (List.replicate 256 0) (refsO s a)).length = 256) := Lib.hid (by rw [addL_len, List.length_replicate])
  have hA := Lib.hid (refMarked_any (some ⟨g1, 0, none⟩) 256 _ hl1.out w5 hs1.out)
  rw [q1.out, ← hv1.out] at hA
  obtain ⟨n1, hn1⟩ : ∃ n, V1.length = n := ⟨_, rfl⟩
  obtain ⟨n2, hn2⟩ : ∃ n, V2.length = n := ⟨_, rfl⟩
  rw [hn1] at hA
  replace hn1 := Lib.hid hn1
  replace hn2 := Lib.hid hn2
  clear hN1 hN2 hb5 hMk k0 k1 k2 k3 kg
  go_wp2_with fail
  with_reducible refine hA.out.mono ?_
  rintro e w6 ⟨u, c, rfl, hu, hb6⟩
  have hs3 := Lib.hid ((stab_sl (stab_k .i64)).old hs2.out hb6)
  have hB := Lib.hid (refMarked_any (some ⟨g2, 0, none⟩) 256 _ hl2.out w6 hs3.out)
  rw [q2.out, ← hv2.out, hn2.out] at hB
  have hu6 := Lib.hid ((stab_sl (stab_k .i64)).mono hu B5.out.size)
  have B6 := Lib.hid (B5.out.trans (hb6.mono B5.out.size))
  clear hu hb6 hA
  go_wp2_with fail
  with_reducible refine hB.out.mono ?_
  rintro e w7 ⟨u', c', rfl, hu', hb7⟩
  have hu7 := Lib.hid ((stab_sl (stab_k .i64)).new hu6.out (Nat.le_refl _) hb7)
  have hv7 := Lib.hid ((stab_sl (stab_k .i64)).mono hu' B6.out.size)
  have B7 := Lib.hid (B6.out.trans (hb7.mono B6.out.size))
  clear hu' hb7 hB
  go_wp2_with fail
  go_ret3
  rw [hn1.out, hn2.out]
  exact ⟨_, _, _, _, rfl, hu7.out, hv7.out, B7.out⟩
end Go.Proofs.YtdaidhbmfocodaaGreat

/-
  The law's own spoil (layer 6): bytes and numbers of a node of the call's own are turned where they lie; what lies elsewhere stays. Conditions: those that each lemma states.
-/
namespace Go.Proofs.YtdaidhbmfocodaaGreat
open Go.RowKit

structure Turn6 (lo hi : Nat) (w wr : World) : Prop where
  low : Below lo w wr
  keep : ∀ k, hi ≤ k → k < w.heap.size → wr.heap[k]? = w.heap[k]?
  fro : ∀ p : Addr, p.block < w.heap.size → wr.frozen? p = w.frozen? p
  rest : ∀ (p : Addr) (A : Option Addr) (n c : Nat), p.block < w.heap.size → w.cell? p = some (.slice A n c) → wr.cell? p = some (.slice A n c)
  byte : ∀ (p : Addr) (x : UInt8), p.block < w.heap.size → w.cell? p = some (.int .u8 (x.toNat : Int)) → ∃ y : UInt8, wr.cell? p = some (.int .u8 (y.toNat : Int))
  num : ∀ (p : Addr) (x : Int), p.block < w.heap.size → w.cell? p = some (.int .i64 x) → ∃ y : Int, wr.cell? p = some (.int .i64 y)
section
variable {lo hi : Nat} {w wr : World}
theorem Turn6.refl (lo hi : Nat) (w : World) : Turn6 lo hi w w := ⟨Below.refl _ _, fun _ _ _ => rfl, fun _ _ => rfl, fun _ _ _ _ _ h => h, fun _ x _ h => ⟨x, h⟩, fun _ x _ h => ⟨x, h⟩⟩
theorem Turn6.stepU {p : Addr} (h : Turn6 lo hi w wr) (hp : lo ≤ p.block) (hp' : p.block < hi) {x : UInt8} (hx : wr.cell? p = some (.int .u8 (x.toNat : Int))) (y : UInt8) : Turn6 lo hi w (wr.setCell p (.int .u8 (y.toNat : Int))) := by
  refine ⟨h.low.setCell hp _, fun k hk hl => (Below.heap_setCell wr p _ k (by omega)).trans (h.keep k hk hl), fun q hq => by rw [World.frozen?_setCell]; exact h.fro q hq, fun q A n c hq hc => ?_, fun q z hq hc => ?_, fun q z hq hc => ?_⟩
  · have h1 := h.rest q A n c hq hc
    rw [World.cell?_setCell_other _ _ _ _ (fun e => by
      subst e
      rw [h1] at hx
      cases hx)]
    exact h1
  · by_cases e : p = q
    · subst e
      exact ⟨y, World.cell?_setCell_same _ _ _ hx⟩
    · rw [World.cell?_setCell_other _ _ _ _ e]
      exact h.byte q z hq hc
  · obtain ⟨z', h1⟩ := h.num q z hq hc
    refine ⟨z', ?_⟩
    rw [World.cell?_setCell_other _ _ _ _ (fun e => by
      subst e
      rw [h1] at hx
      cases hx)]
    exact h1
theorem Turn6.drew (h : Turn6 lo hi w wr) : Turn6 lo hi w wr.drew :=
  ⟨h.low.drew, h.keep, fun p hp => by simpa using h.fro p hp, fun p A n c hp hc => by simpa using h.rest p A n c hp hc, fun p x hp hc => by simpa using h.byte p x hp hc, fun p x hp hc => by simpa using h.num p x hp hc⟩
theorem Turn6.block (h : Turn6 lo hi w wr) {k : Nat} (hk : k < lo ∨ hi ≤ k) (hl : k < w.heap.size) : wr.heap[k]? = w.heap[k]? := by
  rcases hk with hk | hk
  · exact h.low.block k hk
  · exact h.keep k hk hl
theorem Turn6.cell (h : Turn6 lo hi w wr) {p : Addr} (hk : p.block < lo ∨ hi ≤ p.block) (hl : p.block < w.heap.size) : wr.cell? p = w.cell? p := World.cell?_of_block (h.block hk hl)
end
/-- Its cells lie in a range, and may be written: facts that hold while nothing in that range moves. -/
def OnN (ok : Addr → Prop) (v : Value) (n : Nd) : World → Prop := fun w => Nod ok w v n
theorem OnN.old {ok : Addr → Prop} {v : Value} {n : Nd} {w : World} (h : OnN ok v n w) : Nod (Old w) w v n := Nod.map (fun p _ _ hc => ⟨World.block_lt_of_cell? w p hc, hc⟩) h
end Go.Proofs.YtdaidhbmfocodaaGreat

/-
  The document's answers of layers 5, 6: SameItems, Same, Place. Conditions: those that each lemma states.
-/
namespace Go.Proofs.YtdaidhbmfocodaaGreat
open Go.RowKit

set_option maxRecDepth 100000 in
set_option maxHeartbeats 4000000 in
theorem refSameIs_any (v u : Value) (xs ys : List It) (w : World) (hv : rIts (Old w) w [v] xs) (hu : rIts (Old w) w [u] ys) :
    Calls Tryz.prog 16 #[v, u] w fun e w' => e = .returned (.bool (sameIs xs ys)) ∧ Below w.heap.size w w' := by
  obtain ⟨A, a, rfl, la, ma⟩ := its_open hv
  obtain ⟨B, b, rfl, lb, mb⟩ := its_open hu
  have HA := Lib.hid hv
  have HB := Lib.hid hu
  clear hv hu
  have hdef : Hid (sameIs xs ys = decide (xs = ys)) := Lib.hid rfl
  generalize sameIs xs ys = res at hdef ⊢
  obtain ⟨n, hn⟩ : ∃ n, xs.length = n := ⟨_, rfl⟩
  obtain ⟨m, hm⟩ : ∃ m, ys.length = m := ⟨_, rfl⟩
  rw [hn] at la HA ⊢
  rw [hm] at lb HB ⊢
  replace hn := Lib.hid hn
  replace hm := Lib.hid hm
  by_cases h1 : n = m
  · subst h1
    go_enter Tryz.func16, Tryz.ntmps16
    go_wp2_with fail
    go_loopw [5] (fun i wr => ∃ k : Nat, k ≤ n ∧ i = .int .i64 k ∧ xs.take k = ys.take k ∧ Below w.heap.size w wr) (fun i _ => n - (intOf i).toNat)
    case atStart => exact ⟨0, by omega, rfl, rfl, Below.refl _ _⟩
    case round =>
      obtain ⟨k, hk, rfl, ha, hb⟩ := hrel
      replace ha := Lib.hid ha
      replace hb := Lib.hid hb
      by_cases hlt : k < n
      · obtain ⟨x, hx⟩ : ∃ x, xs[k]? = some x := ⟨_, List.getElem?_eq_getElem (by rw [hn.out]; exact hlt)⟩
        obtain ⟨y, hy⟩ : ∃ y, ys[k]? = some y := ⟨_, List.getElem?_eq_getElem (by rw [hm.out]; exact hlt)⟩
        obtain ⟨ad, E, ce, rfl, _, _, _, FX⟩ := its_old HA.out hx
        obtain ⟨bd, E', ce', rfl, _, _, _, FY⟩ := its_old HB.out hy
        replace hx := Lib.hid hx
        replace hy := Lib.hid hy
        have FX' := Lib.hid (fun W (hW : Below wr.heap.size wr W) => FX W (hb.out.trans (hW.mono hb.out.size)))
        have FY' := Lib.hid (fun W (hW : Below wr.heap.size wr W) => FY W (hb.out.trans (hW.mono hb.out.size)))
        have i1 : (0 : Int) ≤ (k : Int) := by omega
        have i2 : (k : Int) < (n : Int) := by omega
        obtain ⟨s, hs⟩ : ∃ s, sameI x y = s := ⟨_, rfl⟩
        have hs' := Lib.hid hs
        clear hs FX FY
        unfold itV at *
        go_wp2_with fail
        refine wp_region_fx (by kernel_rfl) (fun W => Below wr.heap.size wr W) (fun _ => none) (fun i => match i with
          | 8 => some (.bool s)
          | _ => none) (by kernel_rfl) (Below.refl _ _).drew (fun w w' h hb => h.trans (hb.mono h.size)) (fun j φ x W W' hp => by cases hp) ?_
        repeat (first
          | (refine wpAs_skip rfl ?_; simp only [Act.put, List.setIfInBounds_toArray, List.set_cons_zero, List.set_cons_succ])
          | (refine wpAs_pure (v := ?_) rfl rfl ?_ ?_; rotate_left; (intro W hC hE; clear hE; (obtain ⟨⟨z0, z1, z2, z3, z4⟩, _⟩ := FX'.out W hC; obtain ⟨⟨y0, y1, y2, y3, y4⟩, _⟩ := FY'.out W hC); clear hC; go_simp; done); simp only [Act.put, List.setIfInBounds_toArray, List.set_cons_zero, List.set_cons_succ])
          | (refine wpAs_pure (v := ?_) rfl rfl ?_ ?_; rotate_left; (intro W hC hE; clear hE; (obtain ⟨⟨z0, z1, z2, z3, z4⟩, _⟩ := FX'.out W hC; obtain ⟨⟨y0, y1, y2, y3, y4⟩, _⟩ := FY'.out W hC); clear hC; go_simp; with_reducible rfl); simp only [Act.put, List.setIfInBounds_toArray, List.set_cons_zero, List.set_cons_succ]))
        refine wpAs_fixed rfl rfl rfl ?_ ?_
        · intro W hC hE
          refine does_enter (f := 33) (args := #[.agg #[.int .u8 (x.1.1.toNat : Int), .int .u32 x.1.2.1, .int .u32 x.1.2.2, .int .i64 x.2.1, .slice E x.2.2.length ce], .agg #[.int .u8 (y.1.1.toNat : Int), .int .u32 y.1.2.1, .int .u32 y.1.2.2, .int .i64 y.2.1, .slice E' y.2.2.length ce']]) ?_ ?_
          · go_simp
          · refine (refSameI_any _ _ x y W (FX'.out W hC).2 (FY'.out W hC).2).mono ?_
            (rintro e W' ⟨rfl, hg⟩; rw [hs'.out])
            exact ⟨_, rfl, rfl, hg⟩
        simp only [Act.put, List.setIfInBounds_toArray, List.set_cons_zero, List.set_cons_succ]
        repeat (first
          | (refine wpAs_skip rfl ?_; simp only [Act.put, List.setIfInBounds_toArray, List.set_cons_zero, List.set_cons_succ])
          | (refine wpAs_pure (v := ?_) rfl rfl ?_ ?_; rotate_left; (intro W hC hE; clear hE; skip; clear hC; go_simp; done); simp only [Act.put, List.setIfInBounds_toArray, List.set_cons_zero, List.set_cons_succ])
          | (refine wpAs_pure (v := ?_) rfl rfl ?_ ?_; rotate_left; (intro W hC hE; clear hE; skip; clear hC; go_simp; with_reducible rfl); simp only [Act.put, List.setIfInBounds_toArray, List.set_cons_zero, List.set_cons_succ]))
        refine wpAs_end fun W hC hE => ?_
        have BW := Lib.hid (hb.out.trans (hC.mono hb.out.size))
        clear hE hC
        cases s with
        | true =>
          have he := Lib.hid (sameI_eq hs'.out)
          go_wp2_with fail
          go_roundw
          case rel => exact ⟨k + 1, by omega, by go_num, take_eq_succ ha.out hx.out hy.out he.out, BW.out⟩
          case measure => simp [intOf]; omega
        | false =>
          have hne := Lib.hid (show res = false by rw [hdef.out]; simpa using ne_of_at hx.out hy.out (fun h => by have := hs'.out; rw [h, sameI_self] at this; cases this))
          go_wp2_with fail
          go_ret
          exact ⟨ret_bool hne.out.symm, BW.out⟩
      · have hge : n ≤ k := by omega
        have he : Hid (res = true) := Lib.hid (by
          have := ha.out
          rw [List.take_of_length_le (by rw [hn.out]; exact hge), List.take_of_length_le (by rw [hm.out]; exact hge)] at this
          rw [hdef.out]
          simpa using this)
        go_wp2_with fail
        go_ret
        exact ⟨ret_bool he.out.symm, hb.out⟩
  · have he : Hid (res = false) := Lib.hid (by
      rw [hdef.out]
      simp only [decide_eq_false_iff_not]
      intro e
      have := hn.out
      rw [e, hm.out] at this
      exact h1 this.symm)
    have h1' : ((n : Int) != m) = true := by simp; omega
    go_enter Tryz.func16, Tryz.ntmps16
    go_wp2_with fail
    go_ret
    exact ⟨ret_bool he.out.symm, Below.refl _ _⟩

end Go.Proofs.YtdaidhbmfocodaaGreat
