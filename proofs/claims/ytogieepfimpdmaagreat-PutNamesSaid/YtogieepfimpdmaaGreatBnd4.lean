/-
  Lemmas on the program and on the document's answers, gathered: WkPlain, PtKeep, PtEnough, PtMake, PtLists, PtBuilt, PtGrow, PtGrown, PtPut, RmSame, CntChunk, CntWrite, CntRefW, StoZero, RmAlive, FnLeaf, RmRefN, FnInner, FnTree, FnOne, WkApp, PuStep, PuItems, DrStack, RmTwin, DrHold, RmRefT, DrMake, DrRefer, DrRefs, DrRefs2, DrLower, DrGo, DrGo2, DrMk, DrLaw, PuLay, WkTold, PuBack, WkPush, FnHeld. Conditions: those that each lemma states.
-/
import Derived.Test.YtogieepfimpdmaaGreatBnd3
import Derived.Sort.QuietIn
import Derived.Sort.CutIn
import Derived.RangeFuncNested
/-
  Items between two keys, and the blocks of trees, plain. Conditions: those that each lemma states.
-/
namespace Go.Proofs.YtogieepfimpdmaaGreat
open Go.RowKit

/-! ### Between two keys -/
theorem le_less {a b c : Ky} (h : lessK a b = true) (h' : lessK c b = false) : lessK a c = true := by
  by_cases e : c = b
  · rw [e]; exact h
  · exact less_trans h (less_total e h')
theorem filter_none {p : It → Bool} {L : List It} (h : ∀ x ∈ L, p x = false) : L.filter p = [] := by
  rw [List.filter_eq_nil_iff]
  intro x hx
  rw [h x hx]
  simp
/-! ### The blocks of a tree -/
end Go.Proofs.YtogieepfimpdmaaGreat

/-
  A tree stays where its own blocks stay; plain. Conditions: those that each lemma states.
-/
namespace Go.Proofs.YtogieepfimpdmaaGreat
open Go.RowKit

/-- Some blocks, nodes and what leaves refer to, stay. -/
structure OnT (s t : Rm) (N R : List Int) : Prop where
  may : mayR t = true
  node : ∀ n ∈ N, t.2.1[n.toNat]?.getD 0 ≠ 0
  seen : ∀ n ∈ N, seenD t.1 n.toNat = seenD s.1 n.toNat
  refs : ∀ r ∈ R, t.2.1[r.toNat]?.getD 0 ≠ 0
theorem OnT.less {s t : Rm} {N R N' R' : List Int} (h : OnT s t N R) (h1 : ∀ n ∈ N', n ∈ N) (h2 : ∀ r ∈ R', r ∈ R) : OnT s t N' R' :=
  ⟨h.may, fun n hn => h.node n (h1 n hn), fun n hn => h.seen n (h1 n hn), fun r hr => h.refs r (h2 r hr)⟩
theorem its_mem2 {f f' : Int → Ky → Ky → Bool → Bool} : ∀ {l : List It} {tb : Ky} {e : Bool}, (∀ x ∈ l, ∀ k tb e, f x.2.1 k tb e = true → f' x.2.1 k tb e = true) → itsO f l tb e = true → itsO f' l tb e = true
  | [], _, _, _, _ => rfl
  | x :: r, tb, e, h, hf => by
    rw [its_cons, Bool.and_eq_true] at hf ⊢
    exact ⟨h x List.mem_cons_self _ _ _ hf.1, its_mem2 (fun y hy => h y (List.mem_cons_of_mem _ hy)) hf.2⟩
end Go.Proofs.YtogieepfimpdmaaGreat

/-
  Blocks that are counted often enough, where something is left; plain. Conditions: those that each lemma states.
-/
namespace Go.Proofs.YtogieepfimpdmaaGreat
open Go.RowKit

noncomputable def ndD (d : Dk) (n : Int) : Nd := reV (seenD d n.toNat)
/-- How often a block is referred to by nodes. -/
noncomputable def sumD (d : Dk) : List Int → Nat → Nat
  | [], _ => 0
  | n :: r, k => cntR (ndD d n).2 k + sumD d r k
def cnt8 (t : List UInt8) (k : Nat) : Nat := (t[k]?.getD 0).toNat
/-- Each block is counted as often as P says, and as these nodes refer to it; what nodes above leaves refer to are such nodes, one level lower. -/
structure Enf (d : Dk) (t : List UInt8) (P : Nat → Nat) (N : List Int) : Prop where
  once : N.Nodup
  node : ∀ n ∈ N, 0 ≤ n ∧ n < 256 ∧ reN (seenD d n.toNat) = 0 ∧ cnt8 t n.toNat ≠ 0
  shut : ∀ n ∈ N, (ndD d n).1 ≠ 0 → ∀ x ∈ (ndD d n).2, x.2.1 ∈ N ∧ x.2.1 ≠ 0 ∧ (ndD d x.2.1).1 + 1 = (ndD d n).1
  refs : ∀ n ∈ N, refsOk (ndD d n).2
  enough : ∀ k, P k + sumD d N k ≤ cnt8 t k
theorem sumD_less (d : Dk) (p : Int → Bool) (k : Nat) : ∀ N : List Int, sumD d (N.filter p) k ≤ sumD d N k
  | [] => Nat.le_refl _
  | n :: r => by
    have := sumD_less d p k r
    rw [List.filter_cons]
    split
    · unfold sumD; omega
    · show sumD d (r.filter p) k ≤ cntR (ndD d n).2 k + sumD d r k
      omega
theorem sumD_in {d : Dk} {k : Nat} {n : Int} : ∀ {N : List Int}, n ∈ N → cntR (ndD d n).2 k ≤ sumD d N k
  | m :: r, h => by
    unfold sumD
    rcases List.mem_cons.1 h with rfl | h
    · omega
    · have := sumD_in (k := k) (d := d) h
      omega
theorem cntR_has {l : List It} {x : It} (hx : x ∈ l) {k : Nat} (hk : x.2.1 = (k : Int)) (h0 : x.2.1 ≠ 0) : 1 ≤ cntR l k := by
  induction l with
  | nil => cases hx
  | cons y r ih =>
    unfold cntR
    rcases List.mem_cons.1 hx with rfl | hx
    · rw [if_pos hk, if_neg h0]
      omega
    · have := ih hx
      omega
theorem dn_cnt {t u : List UInt8} {a : Nat} (h : dnO t a = some u) : cnt8 t a = cnt8 u a + 1 ∧ (∀ k, k ≠ a → cnt8 u k = cnt8 t k) := by
  obtain ⟨h1, h2, h3, h4⟩ := dnO_some h
  refine ⟨h4.symm, fun k hk => ?_⟩
  unfold cnt8
  rw [h2, List.getElem?_set_ne (Ne.symm hk)]
/-- The nodes that are counted still. -/
def liveN (u : List UInt8) (N : List Int) : List Int := N.filter fun n => decide (cnt8 u n.toNat ≠ 0)
/-- Some of the nodes, all counted still, to which no other ones refer. -/
theorem Enf.part {d : Dk} {t u : List UInt8} {P Q : Nat → Nat} {N : List Int} (h : Enf d t P N) (p : Int → Bool) (hn : ∀ n ∈ N, p n = true → cnt8 u n.toNat ≠ 0) (hs : ∀ n ∈ N, p n = true → ∀ x ∈ (ndD d n).2, x.2.1 ∈ N → x.2.1 ≠ 0 → p x.2.1 = true) (he : ∀ k, Q k + sumD d (N.filter p) k ≤ cnt8 u k) : Enf d u Q (N.filter p) := by
  refine ⟨h.once.filter _, fun n hm => ?_, fun n hm h0 x hx => ?_, fun n hm => ?_, he⟩
  · obtain ⟨h1, h2⟩ := List.mem_filter.1 hm
    obtain ⟨g1, g2, g3, _⟩ := h.node n h1
    exact ⟨g1, g2, g3, hn n h1 h2⟩
  · obtain ⟨h1, h2⟩ := List.mem_filter.1 hm
    obtain ⟨g1, g2, g3⟩ := h.shut n h1 h0 x hx
    exact ⟨List.mem_filter.2 ⟨g1, hs n h1 h2 x hx g1 g2⟩, g2, g3⟩
  · exact h.refs n (List.mem_filter.1 hm).1
/-- To count down by one. -/
theorem enf_down {d : Dk} {t u : List UInt8} {P : Nat → Nat} {N : List Int} {a : Nat} (h : Enf d t (fun k => P k + if k = a then 1 else 0) N) (hd : dnO t a = some u) : Enf d u P (liveN u N) := by
  obtain ⟨c1, c2⟩ := dn_cnt hd
  refine h.part _ (fun n hn hp => by simpa using hp) (fun n hn hp x hx hxN hx0 => ?_) (fun k => ?_)
  · simp only [decide_eq_true_eq] at hp ⊢
    intro h0
    obtain ⟨g1, _, _, g4⟩ := h.node _ hxN
    have hxa : x.2.1.toNat = a := by
      by_cases e : x.2.1.toNat = a
      · exact e
      · rw [c2 _ e] at h0
        exact absurd h0 g4
    have h1 := h.enough a
    rw [hxa] at h0
    have h2 := cntR_has hx (k := a) (by omega) hx0
    have h3 := sumD_in (d := d) (k := a) hn
    simp only [if_true] at h1
    omega
  · have h1 := h.enough k
    have h2 := sumD_less d (fun n => decide (cnt8 u n.toNat ≠ 0)) k N
    by_cases e : k = a
    · subst e
      simp only [if_true] at h1
      omega
    · rw [c2 k e]
      simp only [if_neg e] at h1
      omega
theorem Enf.same {d : Dk} {t : List UInt8} {P Q : Nat → Nat} {N : List Int} (h : Enf d t P N) (e : ∀ k, Q k = P k) : Enf d t Q N := ⟨h.once, h.node, h.shut, h.refs, fun k => by rw [e]; exact h.enough k⟩
end Go.Proofs.YtogieepfimpdmaaGreat

/-
  Nodes that are made, where each block is counted often enough; what is held is held once less; plain. Conditions: those that each lemma states.
-/
namespace Go.Proofs.YtogieepfimpdmaaGreat
open Go.RowKit

theorem cnt_nz {t : List UInt8} {k : Nat} : cnt8 t k ≠ 0 ↔ t[k]?.getD 0 ≠ 0 := by
  unfold cnt8
  rw [ne_eq, nat_zero]
theorem ndD_rm {s : Rm} {n : Int} (h : rmE s n = 0) : ndD s.1 n = rmV s n := by
  obtain ⟨k, rfl, _, _, _, _, _, _, hV, _⟩ := as_read (rm_may h).2
  rw [hV, ndD, show ((k : Int)).toNat = k by omega]
/-- What is referred to stays where a node is made. -/
theorem keep_make {s : Rm} {n : Nd} (h : mkE s n = 0) : KeepR s (mkV s n) := by
  obtain ⟨k, e1, h8, h256, hz, _, hc, hV, hm, c1, c2, _⟩ := mk_counts h
  have hne : ∀ i : Nat, s.2.1[i]?.getD 0 ≠ 0 → i ≠ k := fun i hi e => hi (by rw [e]; exact hz)
  refine ⟨hm, fun i hi => ?_, fun i hi => ?_⟩
  · rw [← cnt_nz]
    have h1 := c2 i (hne i hi)
    have h2 := cnt_nz.2 hi
    unfold cnt8 at h2 ⊢
    omega
  · rw [hV]
    exact seenD_write_ne (hne i hi)
theorem make_enf {s : Rm} {n : Nd} {P : Nat → Nat} {N : List Int} (h : mkE s n = 0) (hi : InN n) (hE : Enf s.1 s.2.1 P N) (hsub : n.1 ≠ 0 → ∀ x ∈ n.2, x.2.1 ∈ N ∧ x.2.1 ≠ 0 ∧ (ndD s.1 x.2.1).1 + 1 = n.1) :
    ∃ k : Nat, mkN s n = k ∧ 8 ≤ k ∧ k < 256 ∧ cnt8 s.2.1 k = 0 ∧ (k : Int) ∉ N ∧ Enf (mkV s n).1 (mkV s n).2.1 (fun i => P i + if i = k then 1 else 0) ((k : Int) :: N) ∧ ndD (mkV s n).1 (k : Int) = n ∧ (∀ m ∈ N, ndD (mkV s n).1 m = ndD s.1 m) ∧ rmE (mkV s n) (k : Int) = 0 ∧ rmV (mkV s n) (k : Int) = n ∧ cnt8 (mkV s n).2.1 k = 1 := by
  obtain ⟨_, hn, _⟩ := mk_ok h
  obtain ⟨k, e1, h8, h256, hz, _, hc, hV, hm, c1, c2, _⟩ := mk_counts h
  have hseen : seenD (mkV s n).1 k = blkN n := by rw [hV]; exact seenD_write
  have ha : asE (mkV s n) (k : Int) = 0 := as_yes hm h8 h256 (by rw [c1]; decide)
  obtain ⟨r1, r2⟩ := rm_yes ha hseen hn hi
  have hnd : ndD (mkV s n).1 (k : Int) = n := (ndD_rm r1).trans r2
  have hz8 : cnt8 s.2.1 k = 0 := by unfold cnt8; rw [hz]; rfl
  have hkN : (k : Int) ∉ N := fun hin => by
    have := (hE.node _ hin).2.2.2
    rw [show ((k : Int)).toNat = k by omega] at this
    exact this hz8
  have hold : ∀ m ∈ N, m.toNat ≠ k := fun m hmN e => by
    have h0 := (hE.node m hmN).1
    exact hkN (by rw [← e, show ((m.toNat : Nat) : Int) = m by omega]; exact hmN)
  have hsm : ∀ m ∈ N, seenD (mkV s n).1 m.toNat = seenD s.1 m.toNat := fun m hmN => by
    rw [hV]
    exact seenD_write_ne (hold m hmN)
  have hndm : ∀ m ∈ N, ndD (mkV s n).1 m = ndD s.1 m := fun m hmN => by rw [ndD, ndD, hsm m hmN]
  have hc1 : cnt8 (mkV s n).2.1 k = 1 := by unfold cnt8; rw [c1]; rfl
  have hc2 : ∀ i, i ≠ k → cnt8 (mkV s n).2.1 i = cnt8 s.2.1 i + cntR n.2 i := fun i hne => c2 i hne
  have hsum : ∀ i, sumD (mkV s n).1 N i = sumD s.1 N i := fun i => by
    have : ∀ M : List Int, (∀ m ∈ M, m ∈ N) → sumD (mkV s n).1 M i = sumD s.1 M i := by
      intro M
      induction M with
      | nil => intro _; rfl
      | cons m r ih =>
        intro hM
        show cntR (ndD (mkV s n).1 m).2 i + sumD (mkV s n).1 r i = cntR (ndD s.1 m).2 i + sumD s.1 r i
        rw [hndm m (hM m List.mem_cons_self), ih fun x hx => hM x (List.mem_cons_of_mem _ hx)]
    exact this N fun m hm => hm
  refine ⟨k, e1, h8, h256, hz8, hkN, ⟨List.nodup_cons.2 ⟨hkN, hE.once⟩, fun m hmN => ?_, fun m hmN h0 x hx => ?_, fun m hmN => ?_, fun i => ?_⟩, hnd, hndm, r1, r2, hc1⟩
  · rcases List.mem_cons.1 hmN with rfl | hmN
    · refine ⟨by omega, by omega, ?_, by rw [show ((k : Int)).toNat = k by omega, hc1]; decide⟩
      rw [show ((k : Int)).toNat = k by omega, hseen]
      exact (read_blkN hn hi).1
    · obtain ⟨g1, g2, g3, g4⟩ := hE.node m hmN
      refine ⟨g1, g2, by rw [hsm m hmN]; exact g3, ?_⟩
      rw [hc2 _ (hold m hmN)]
      omega
  · rcases List.mem_cons.1 hmN with rfl | hmN
    · rw [hnd] at h0 hx ⊢
      obtain ⟨g1, g2, g3⟩ := hsub h0 x hx
      exact ⟨List.mem_cons_of_mem _ g1, g2, by rw [hndm _ g1]; exact g3⟩
    · rw [hndm m hmN] at h0 hx ⊢
      obtain ⟨g1, g2, g3⟩ := hE.shut m hmN h0 x hx
      exact ⟨List.mem_cons_of_mem _ g1, g2, by rw [hndm _ g1]; exact g3⟩
  · rcases List.mem_cons.1 hmN with rfl | hmN
    · rw [hnd]
      exact refs_may hn
    · rw [hndm m hmN]
      exact hE.refs m hmN
  · show P i + (if i = k then 1 else 0) + (cntR (ndD (mkV s n).1 (k : Int)).2 i + sumD (mkV s n).1 N i) ≤ _
    rw [hnd, hsum]
    have h1 := hE.enough i
    by_cases e : i = k
    · subst e
      rw [if_pos rfl, hc1]
      omega
    · rw [if_neg e, hc2 i e]
      omega
/-- What is held is held once less, and is counted still. -/
theorem free_enf {d : Dk} {t u : List UInt8} {P : Nat → Nat} {N : List Int} {a : Nat} (h : Enf d t (fun k => P k + if k = a then 1 else 0) N) (hd : dnO t a = some u) (hc : cnt8 u a ≠ 0) : Enf d u P N := by
  have s := enf_down h hd
  obtain ⟨c1, c2⟩ := dn_cnt hd
  have : liveN u N = N := by
    unfold liveN
    rw [List.filter_eq_self]
    intro n hn
    have h4 := (h.node n hn).2.2.2
    by_cases e : n.toNat = a
    · rw [e]; simpa using hc
    · rw [c2 _ e]; simpa using h4
  rwa [this] at s
end Go.Proofs.YtogieepfimpdmaaGreat

/-
  Rows of items with one put in; the way of a key; parts side by side, taken apart; plain. Conditions: those that each lemma states.
-/
namespace Go.Proofs.YtogieepfimpdmaaGreat
open Go.RowKit

/-- A row that rises, with an item put in. -/
def putL (L : List It) (x : It) : List It := (L.filter fun y => lessK y.1 x.1) ++ x :: (L.filter fun y => lessK x.1 y.1)
theorem filter_all {p : It → Bool} {L : List It} (h : ∀ x ∈ L, p x = true) : L.filter p = L := List.filter_eq_self.2 h
theorem putL_mid {A B C : List It} {x : It} (hA : ∀ y ∈ A, lessK y.1 x.1 = true) (hC : ∀ y ∈ C, lessK x.1 y.1 = true) : putL (A ++ (B ++ C)) x = A ++ (putL B x ++ C) := by
  unfold putL
  simp only [List.filter_append]
  rw [filter_all hA, filter_none (L := A) (fun y hy => less_anti (hA y hy)), filter_none (L := C) (fun y hy => less_anti (hC y hy)), filter_all hC]
  simp
/-- By the parts ahead of its key and behind it. -/
theorem putL_parts {A M C : List It} {x : It} (hA : ∀ y ∈ A, lessK y.1 x.1 = true) (hM : ∀ y ∈ M, y.1 = x.1) (hC : ∀ y ∈ C, lessK x.1 y.1 = true) : putL (A ++ (M ++ C)) x = A ++ x :: C := by
  rw [putL_mid hA hC]
  unfold putL
  rw [filter_none (L := M) (fun y hy => by rw [hM y hy]; exact less_self _), filter_none (L := M) (fun y hy => by rw [hM y hy]; exact less_self _)]
  rfl
theorem putL_up {L : List It} (h : Up L) (x : It) : Up (putL L x) := by
  unfold putL Up
  rw [List.pairwise_append]
  refine ⟨List.Pairwise.filter _ h, List.pairwise_cons.2 ⟨fun y hy => (List.mem_filter.1 hy).2, List.Pairwise.filter _ h⟩, fun y hy z hz => ?_⟩
  have h1 := (List.mem_filter.1 hy).2
  rcases List.mem_cons.1 hz with rfl | hz
  · exact h1
  · exact less_trans h1 (List.mem_filter.1 hz).2
theorem putL_in {L : List It} {x y : It} : y ∈ putL L x ↔ y = x ∨ (y ∈ L ∧ y.1 ≠ x.1) := by
  unfold putL
  rw [List.mem_append, List.mem_cons, List.mem_filter, List.mem_filter]
  constructor
  · rintro (⟨h1, h2⟩ | rfl | ⟨h1, h2⟩)
    · exact .inr ⟨h1, fun e => by rw [e, less_self] at h2; cases h2⟩
    · exact .inl rfl
    · exact .inr ⟨h1, fun e => by rw [e, less_self] at h2; cases h2⟩
  · rintro (rfl | ⟨h1, h2⟩)
    · exact .inr (.inl rfl)
    · cases h3 : lessK y.1 x.1 with
      | true => exact .inl ⟨h1, rfl⟩
      | false => exact .inr (.inr ⟨h1, less_total h2 h3⟩)
/-- In a leaf. -/
theorem leaf_put {n : Nd} (h : mayN n = true) (x : It) : n.2.take (placeN n x.1) ++ x :: n.2.drop (placeN n x.1 + if thereN n x.1 = true then 1 else 0) = putL n.2 x := by
  have hA : ∀ y ∈ n.2.take (placeN n x.1), lessK y.1 x.1 = true := fun y hy => by
    obtain ⟨i, hi⟩ := List.getElem?_of_mem hy
    have hlt := (List.getElem?_eq_some_iff.1 hi).1
    rw [List.length_take] at hlt
    rw [List.getElem?_take_of_lt (by omega)] at hi
    rw [place_parts h hi]
    simp
    omega
  cases ht : thereN n x.1 with
  | true =>
    have hp := place_in ht
    obtain ⟨z, hz⟩ : ∃ z, n.2[placeN n x.1]? = some z := ⟨_, List.getElem?_eq_getElem hp⟩
    have hzk := (place_below h ht hz).1
    have hg : n.2[placeN n x.1] = z := (List.getElem?_eq_some_iff.1 hz).2
    have e : n.2 = n.2.take (placeN n x.1) ++ ([z] ++ n.2.drop (placeN n x.1 + 1)) := by
      conv => lhs; rw [← List.take_append_drop (placeN n x.1) n.2, List.drop_eq_getElem_cons hp, hg]
      rfl
    rw [if_pos rfl]
    conv => rhs; rw [e]
    rw [putL_parts hA (fun y hy => by rw [List.mem_singleton.1 hy]; exact hzk) (fun y hy => by
      obtain ⟨i, hi⟩ := List.getElem?_of_mem hy
      rw [List.getElem?_drop] at hi
      rw [← hzk]
      exact mayN_rises h (by omega) hz hi)]
  | false =>
    rw [if_neg (by decide), Nat.add_zero]
    have e : n.2 = n.2.take (placeN n x.1) ++ ([] ++ n.2.drop (placeN n x.1)) := by simp
    conv => rhs; rw [e]
    rw [putL_parts hA (fun y hy => by cases hy) (fun y hy => by
      obtain ⟨i, hi⟩ := List.getElem?_of_mem hy
      rw [List.getElem?_drop] at hi
      exact place_behind h ht (by omega) hi)]

/-! ### The way -/
/-- The place of the item by which a key's way goes on. -/
def wayN (n : Nd) (k : Ky) : Nat := if thereN n k = true then placeN n k else placeN n k - 1
theorem way_in {n : Nd} (k : Ky) (h : 0 < n.2.length) : wayN n k < n.2.length := by
  unfold wayN
  split
  · rename_i ht; exact place_in ht
  · have := placeN_le n k
    omega
/-- All behind it have greater keys; its own is not behind, unless it is the first one. -/
theorem way_behind {n : Nd} (h : mayN n = true) {k : Ky} {i : Nat} {y : It} (hi : wayN n k < i) (hy : n.2[i]? = some y) : lessK k y.1 = true := by
  unfold wayN at hi
  cases ht : thereN n k with
  | true =>
    rw [ht, if_pos rfl] at hi
    have hp := place_in ht
    obtain ⟨z, hz⟩ : ∃ z, n.2[placeN n k]? = some z := ⟨_, List.getElem?_eq_getElem hp⟩
    rw [← (place_below h ht hz).1]
    exact mayN_rises h hi hz hy
  | false =>
    rw [ht, if_neg (by decide)] at hi
    exact place_behind h ht (by omega) hy
theorem way_own {n : Nd} (h : mayN n = true) {k : Ky} {y : It} (hy : n.2[wayN n k]? = some y) (h0 : wayN n k ≠ 0) : lessK k y.1 = false := by
  unfold wayN at hy h0
  cases ht : thereN n k with
  | true =>
    rw [ht, if_pos rfl] at hy
    rw [(place_below h ht hy).1]
    exact less_self _
  | false =>
    rw [ht, if_neg (by decide)] at hy h0
    have := place_parts h (k := k) hy
    rw [decide_eq_true (by omega)] at this
    exact less_anti this

/-! ### Parts side by side, taken apart -/
theorem its_append (f : Int → Ky → Ky → Bool → Bool) : ∀ (A B : List It) (tb : Ky) (e : Bool), itsO f (A ++ B) tb e = (itsO f A (nxO B tb) (bxO B e) && itsO f B tb e)
  | [], B, tb, e => by
    show itsO f B tb e = (true && itsO f B tb e)
    simp
  | x :: r, B, tb, e => by
    rw [List.cons_append, its_cons, its_append f r B tb e, its_cons]
    have e1 : nxO (r ++ B) tb = nxO r (nxO B tb) := by cases r <;> rfl
    have e2 : bxO (r ++ B) e = bxO r (bxO B e) := by cases r <;> rfl
    rw [e1, e2, Bool.and_assoc]
/-- One part instead of another. -/
theorem its_instead {f f' : Int → Ky → Ky → Bool → Bool} {A C up : List It} {y z : It} {r : List It} {tb : Ky} {e : Bool} (h : itsO f (A ++ y :: C) tb e = true) (hk : A ≠ [] → z.1 = y.1) (hup : up = z :: r)
    (hf : ∀ x ∈ A ++ C, ∀ k tb e, f x.2.1 k tb e = true → f' x.2.1 k tb e = true) (hu : itsO f' up (nxO C tb) (bxO C e) = true) : itsO f' (A ++ (up ++ C)) tb e = true := by
  rw [its_append, Bool.and_eq_true] at h
  obtain ⟨h1, h2⟩ := h
  rw [its_cons, Bool.and_eq_true] at h2
  rw [its_append, its_append, Bool.and_eq_true, Bool.and_eq_true]
  refine ⟨?_, hu, its_mem2 (fun x hx => hf x (List.mem_append_right _ hx)) h2.2⟩
  have e1 : A ≠ [] → nxO (up ++ C) tb = nxO (y :: C) tb ∧ bxO (up ++ C) e = bxO (y :: C) e := fun hA => by
    subst hup
    exact ⟨hk hA, rfl⟩
  by_cases hA : A = []
  · subst hA; rfl
  · obtain ⟨g1, g2⟩ := e1 hA
    rw [g1, g2]
    exact its_mem2 (fun x hx => hf x (List.mem_append_left _ hx)) h1
end Go.Proofs.YtogieepfimpdmaaGreat

/-
  One node, or two, made of items of a level; plain. Conditions: those that each lemma states.
-/
namespace Go.Proofs.YtogieepfimpdmaaGreat
open Go.RowKit

def keyO (l : List It) : Ky := match l with | [] => keyZ | x :: _ => x.1
def upI (l : List It) (k : Int) : It := (keyO l, k, [])
/-- A store with nodes of a level made of items, and an item for each of them; an error. -/
noncomputable def builtO (s : Rm) (lv : Int) (l : List It) : Int × Rm × List It :=
  if l.length ≤ 5 then
    if mkE s (lv, l) = 0 then (0, mkV s (lv, l), [upI l (mkN s (lv, l))]) else (mkE s (lv, l), emptyR, [])
  else if mkE s (lv, l.take 3) = 0 then
    if mkE (mkV s (lv, l.take 3)) (lv, l.drop 3) = 0 then (0, mkV (mkV s (lv, l.take 3)) (lv, l.drop 3), [upI (l.take 3) (mkN s (lv, l.take 3)), upI (l.drop 3) (mkN (mkV s (lv, l.take 3)) (lv, l.drop 3))])
    else (mkE (mkV s (lv, l.take 3)) (lv, l.drop 3), emptyR, [])
  else (mkE s (lv, l.take 3), emptyR, [])
theorem built_ways {s u : Rm} {lv : Int} {l up : List It} (h : builtO s lv l = (0, u, up)) : (mkE s (lv, l) = 0 ∧ u = mkV s (lv, l) ∧ up = [upI l (mkN s (lv, l))]) ∨
    (5 < l.length ∧ mkE s (lv, l.take 3) = 0 ∧ mkE (mkV s (lv, l.take 3)) (lv, l.drop 3) = 0 ∧ u = mkV (mkV s (lv, l.take 3)) (lv, l.drop 3) ∧ up = [upI (l.take 3) (mkN s (lv, l.take 3)), upI (l.drop 3) (mkN (mkV s (lv, l.take 3)) (lv, l.drop 3))]) := by
  unfold builtO at h
  split at h
  · split at h
    · rename_i h1
      cases h
      exact .inl ⟨h1, rfl, rfl⟩
    · rename_i h1
      simp only [Prod.mk.injEq] at h
      exact absurd h.1 h1
  · rename_i h0
    split at h
    · rename_i h1
      split at h
      · rename_i h2
        cases h
        exact .inr ⟨by omega, h1, h2, rfl, rfl⟩
      · rename_i h2
        simp only [Prod.mk.injEq] at h
        exact absurd h.1 h2
    · rename_i h1
      simp only [Prod.mk.injEq] at h
      exact absurd h.1 h1

/-- What items of a level hold, from the first one's key on, ahead of a bound: those of leaves below them. -/
noncomputable def rowP (s : Rm) : Nat → List It → Ky → Bool → List It → Prop
  | 0, L, tb, e, M => Up L ∧ leafO s L = true ∧ (e = true → ∀ y ∈ L, lessK y.1 tb = true) ∧ M = L
  | l + 1, L, tb, e, M => itsO (rightO s l) L tb e = true ∧ M = L.flatMap fun x => itsT s l x.2.1
theorem row_keep {s t : Rm} (h : KeepR s t) : ∀ {lv : Nat} {L M : List It} {tb : Ky} {e : Bool}, rowP s lv L tb e M → rowP t lv L tb e M
  | 0, _, _, _, _, hr => ⟨hr.1, keep_leaf h hr.2.1, hr.2.2⟩
  | l + 1, L, M, tb, e, hr => by
    refine ⟨its_mono (fun a k tb e hf => (keep_right h l a k tb e hf).1) _ _ _ hr.1, hr.2.trans (flat_same fun x hx => ?_)⟩
    obtain ⟨t', e', hf⟩ := its_mem hr.1 x hx
    exact (keep_right h l _ _ _ _ hf).2.1.symm
theorem its_bound {s : Rm} {l : Nat} {L : List It} {tb : Ky} (h : itsO (rightO s l) L tb true = true) : ∀ x ∈ L, lessK x.1 tb = true := fun x hx => by
  obtain ⟨y, r, rfl⟩ : ∃ y r, L = y :: r := by
    cases L with
    | nil => cases hx
    | cons y r => exact ⟨y, r, rfl⟩
  obtain ⟨y', r', e', hp⟩ := part_its (right_part s l) (y :: r) tb true (by simp) h
  cases e'
  obtain ⟨t, e2, hf⟩ := its_mem h x hx
  obtain ⟨z, q, ez, kz⟩ := (right_part s l _ _ _ _ hf).first
  have := hp.bound rfl z (List.mem_flatMap.2 ⟨x, hx, by rw [ez]; simp⟩)
  rwa [kz] at this
/-- A node of such items may be in a tree. -/
theorem row_node {s : Rm} {lv : Nat} {L M : List It} {tb : Ky} {e : Bool} {k : Int} (h1 : rmE s k = 0) (h2 : rmV s k = ((lv : Int), L)) (hne : L ≠ []) (h : rowP s lv L tb e M) : rightO s lv k (keyO L) tb e = true ∧ itsT s lv k = M := by
  obtain ⟨x, r, rfl⟩ := List.exists_cons_of_ne_nil hne
  obtain ⟨z, hz⟩ : ∃ z, (x :: r).getLast? = some z := ⟨_, List.getLast?_eq_some_getLast (by simp)⟩
  have hin := List.mem_of_getLast? hz
  have hb : e = true → lessK z.1 tb = true := fun he => by
    cases lv with
    | zero => exact h.2.2.1 he z hin
    | succ l =>
      have h0 := h.1
      rw [he] at h0
      exact its_bound h0 z hin
  have hh : headO (x :: r) (keyO (x :: r)) tb e = true := by
    unfold headO
    rw [hz]
    cases e with
    | false => simp [keyO]
    | true => simp [keyO, hb rfl]
  cases lv with
  | zero =>
    refine ⟨?_, by unfold itsT; rw [h2]; exact h.2.2.2.symm⟩
    unfold rightO
    rw [h1, h2, hh, h.2.1]
    simp
  | succ l =>
    refine ⟨?_, by unfold itsT; rw [h2]; exact h.2.symm⟩
    unfold rightO
    rw [h1, h2, hh, h.1]
    simp
theorem row_split {s : Rm} {lv : Nat} {A B M : List It} {tb : Ky} {e : Bool} (hB : B ≠ []) (h : rowP s lv (A ++ B) tb e M) : ∃ M1 M2, M = M1 ++ M2 ∧ rowP s lv A (keyO B) true M1 ∧ rowP s lv B tb e M2 := by
  obtain ⟨y, r, rfl⟩ := List.exists_cons_of_ne_nil hB
  cases lv with
  | zero =>
    obtain ⟨h1, h2, h3, h4⟩ := h
    obtain ⟨u1, u2, u3⟩ := List.pairwise_append.1 h1
    have hl : leafO s A = true ∧ leafO s (y :: r) = true := by
      unfold leafO at h2 ⊢
      rw [List.all_append, Bool.and_eq_true] at h2
      exact h2
    exact ⟨A, y :: r, h4, ⟨u1, hl.1, fun _ z hz => u3 z hz y List.mem_cons_self, rfl⟩, ⟨u2, hl.2, fun he z hz => h3 he z (List.mem_append_right _ hz), rfl⟩⟩
  | succ l =>
    obtain ⟨h1, h2⟩ := h
    rw [its_append, Bool.and_eq_true] at h1
    exact ⟨_, _, by rw [h2, List.flatMap_append], ⟨h1.1, rfl⟩, ⟨h1.2, rfl⟩⟩
theorem in_take {lv : Int} {l : List It} {k : Nat} (h : InN (lv, l)) : InN (lv, l.take k) := ⟨h.1, fun x hx => h.2 x (List.mem_of_mem_take hx)⟩
theorem in_drop {lv : Int} {l : List It} {k : Nat} (h : InN (lv, l)) : InN (lv, l.drop k) := ⟨h.1, fun x hx => h.2 x (List.mem_of_mem_drop hx)⟩
/-- A node that is made of such items. -/
theorem made_right {s : Rm} {lv : Nat} {L M : List It} {tb : Ky} {e : Bool} (h : mkE s ((lv : Int), L) = 0) (hi : InN ((lv : Int), L)) (hne : L ≠ []) (hr : rowP s lv L tb e M) :
    rightO (mkV s ((lv : Int), L)) lv (mkN s ((lv : Int), L)) (keyO L) tb e = true ∧ itsT (mkV s ((lv : Int), L)) lv (mkN s ((lv : Int), L)) = M := by
  obtain ⟨k, e1, _, _, _, _, r1, r2, _⟩ := mk_left hi h
  rw [e1]
  exact row_node r1 r2 hne (row_keep (keep_make h) hr)
/-- What is built of items that may be in a tree. -/
theorem built_right {s u : Rm} {lv : Nat} {L up M : List It} {tb : Ky} {e : Bool} (h : builtO s (lv : Int) L = (0, u, up)) (hi : InN ((lv : Int), L)) (hne : L ≠ []) (hr : rowP s lv L tb e M) :
    KeepR s u ∧ itsO (rightO u lv) up tb e = true ∧ (up.flatMap fun x => itsT u lv x.2.1) = M ∧ (∃ z r, up = z :: r ∧ z.1 = keyO L) := by
  rcases built_ways h with ⟨h1, rfl, rfl⟩ | ⟨h0, h1, h2, rfl, rfl⟩
  · obtain ⟨g1, g2⟩ := made_right h1 hi hne hr
    exact ⟨keep_make h1, g1, by simpa [upI] using g2, _, _, rfl, rfl⟩
  · have hd : L.drop 3 ≠ [] := fun e => by
      have := congrArg List.length e
      rw [List.length_drop] at this
      simp at this
      omega
    have ht : L.take 3 ≠ [] := fun e => by
      have h5 : (L.take 3).length = 0 := by rw [e]; rfl
      rw [List.length_take] at h5
      omega
    obtain ⟨M1, M2, rfl, r1, r2⟩ := row_split hd (show rowP s lv (L.take 3 ++ L.drop 3) tb e M by rw [List.take_append_drop]; exact hr)
    have k1 := keep_make h1
    have k2 := keep_make h2
    have k12 : KeepR s (mkV (mkV s ((lv : Int), L.take 3)) ((lv : Int), L.drop 3)) := ⟨k2.may, fun i hi => k2.held i (k1.held i hi), fun i hi => (k2.seen i (k1.held i hi)).trans (k1.seen i hi)⟩
    obtain ⟨g1, g2⟩ := made_right h1 (in_take hi) ht r1
    obtain ⟨g3, g4⟩ := made_right h2 (in_drop hi) hd (row_keep k1 r2)
    obtain ⟨g5, g6, _⟩ := keep_right k2 lv _ _ _ _ g1
    refine ⟨k12, ?_, ?_, _, _, rfl, ?_⟩
    · exact Bool.and_eq_true_iff.2 ⟨g5, g3⟩
    · have e1 := g6.trans g2
      have : itsT (mkV (mkV s ((lv : Int), L.take 3)) ((lv : Int), L.drop 3)) lv (mkN s ((lv : Int), L.take 3)) ++ (itsT (mkV (mkV s ((lv : Int), L.take 3)) ((lv : Int), L.drop 3)) lv (mkN (mkV s ((lv : Int), L.take 3)) ((lv : Int), L.drop 3)) ++ []) = M1 ++ M2 := by rw [e1, g4, List.append_nil]
      exact this
    · obtain ⟨x, r, ex⟩ := List.exists_cons_of_ne_nil hne
      subst ex
      rfl
end Go.Proofs.YtogieepfimpdmaaGreat

/-
  What is held is held once less; nodes made of items, where each block is counted often enough; plain. Conditions: those that each lemma states.
-/
namespace Go.Proofs.YtogieepfimpdmaaGreat
open Go.RowKit

def freR (s : Rm) (a : Int) : Rm := (s.1, s.2.1.set a.toNat (s.2.1[a.toNat]?.getD 0 - 1), s.2.2)
theorem ptk_trans {s t u : Rm} (h1 : KeepR s t) (h2 : KeepR t u) : KeepR s u := ⟨h2.may, fun i hi => h2.held i (h1.held i hi), fun i hi => (h2.seen i (h1.held i hi)).trans (h1.seen i hi)⟩
theorem ptk_same {s : Rm} (h : mayR s = true) : KeepR s s := ⟨h, fun _ h => h, fun _ _ => rfl⟩
theorem fre_dn {s : Rm} {a : Int} (h : cnt8 s.2.1 a.toNat ≠ 0) : dnO s.2.1 a.toNat = some (freR s a).2.1 := by
  unfold dnO
  rw [if_neg (cnt_nz.1 h)]
  rfl
theorem fre_keep {s : Rm} {a : Int} (hm : mayR s = true) (h : 2 ≤ cnt8 s.2.1 a.toNat) : KeepR s (freR s a) := by
  have hd := fre_dn (s := s) (a := a) (by omega)
  obtain ⟨_, _, hle, _⟩ := dnO_some hd
  obtain ⟨c1, c2⟩ := dn_cnt hd
  obtain ⟨m1, m2, m3⟩ := mayR_of hm
  refine ⟨mayR_mk m1 (LeT.may hle m2) m3, fun k hk => ?_, fun _ _ => rfl⟩
  rw [← cnt_nz] at hk ⊢
  by_cases e : k = a.toNat
  · subst e; omega
  · rw [c2 k e]; exact hk
theorem keep_nd {s t : Rm} (h : KeepR s t) {P : Nat → Nat} {N : List Int} (hE : Enf s.1 s.2.1 P N) {m : Int} (hm : m ∈ N) : ndD t.1 m = ndD s.1 m := by
  unfold ndD
  rw [h.seen _ (cnt_nz.1 (hE.node m hm).2.2.2)]
/-- What a node refers to, held by another one besides. -/
theorem fre_enf {s : Rm} {P : Nat → Nat} {N : List Int} {a : Int} (hm : mayR s = true) (hE : Enf s.1 s.2.1 (fun i => P i + if i = a.toNat then 1 else 0) N) (h0 : 0 < a) (hr : ∃ n ∈ N, ∃ x ∈ (ndD s.1 n).2, x.2.1 = a) : KeepR s (freR s a) ∧ Enf (freR s a).1 (freR s a).2.1 P N := by
  obtain ⟨n, hn, x, hx, hxa⟩ := hr
  have h1 := hE.enough a.toNat
  have h2 := cntR_has hx (k := a.toNat) (by omega) (by omega)
  have h3 := sumD_in (d := s.1) (k := a.toNat) hn
  simp only [if_true] at h1
  have h4 : 2 ≤ cnt8 s.2.1 a.toNat := by omega
  have hd := fre_dn (s := s) (a := a) (by omega)
  have hc : cnt8 (freR s a).2.1 a.toNat ≠ 0 := by
    have := (dn_cnt hd).1
    omega
  exact ⟨fre_keep hm h4, free_enf hE hd hc⟩
/-- Some that are held, each held once less. -/
def freL (s : Rm) (l : List It) : Rm := l.foldl (fun u x => freR u x.2.1) s
theorem freL_cons (s : Rm) (x : It) (l : List It) : freL s (x :: l) = freL (freR s x.2.1) l := rfl
theorem freL_enf : ∀ (l : List It) {s : Rm} {P : Nat → Nat} {N : List Int}, mayR s = true → Enf s.1 s.2.1 (fun i => P i + cntR l i) N → (∀ x ∈ l, 0 < x.2.1 ∧ ∃ n ∈ N, ∃ z ∈ (ndD s.1 n).2, z.2.1 = x.2.1) → KeepR s (freL s l) ∧ Enf (freL s l).1 (freL s l).2.1 P N
  | [], s, P, N, hm, hE, _ => ⟨ptk_same hm, hE.same fun _ => rfl⟩
  | x :: l, s, P, N, hm, hE, hr => by
    obtain ⟨h0, h1⟩ := hr x List.mem_cons_self
    obtain ⟨k1, e1⟩ := fre_enf (P := fun i => P i + cntR l i) hm (hE.same fun i => by
      have ec : cntR (x :: l) i = (if x.2.1 = (i : Int) then (if x.2.1 = 0 then 0 else 1) else 0) + cntR l i := rfl
      show P i + cntR l i + (if i = x.2.1.toNat then 1 else 0) = P i + cntR (x :: l) i
      rw [ec]
      by_cases e : x.2.1 = (i : Int)
      · rw [if_pos e, if_neg (show ¬ x.2.1 = 0 by omega), if_pos (show i = x.2.1.toNat by omega)]; omega
      · rw [if_neg e, if_neg (show ¬ i = x.2.1.toNat by omega)]; omega) h0 h1
    obtain ⟨k2, e2⟩ := freL_enf l (s := freR s x.2.1) (P := P) (N := N) k1.may e1 fun y hy => hr y (List.mem_cons_of_mem _ hy)
    exact ⟨ptk_trans k1 k2, e2⟩
theorem rm_in {s : Rm} {a : Int} (h : rmE s a = 0) : InN (rmV s a) := by
  obtain ⟨k, rfl, _, _, _, _, _, hE, hV, _⟩ := as_read (rm_may h).2
  rw [hV]
  rw [hE] at h
  exact (blkN_read h).2.2
theorem up_cnt {l : List It} {k i : Nat} (h : 8 ≤ k) : cntR [upI l (k : Int)] i = if i = k then 1 else 0 := by
  show (if (k : Int) = (i : Int) then (if (k : Int) = 0 then 0 else 1) else 0) + 0 = _
  by_cases e : i = k
  · subst e
    rw [if_pos rfl, if_neg (by omega), if_pos rfl]
  · rw [if_neg (by omega), if_neg e]
/-- Nodes that are made of items of a level, each one held. -/
theorem built_enf {s u : Rm} {lv : Int} {L up : List It} {P : Nat → Nat} {N : List Int} (h : builtO s lv L = (0, u, up)) (hi : InN (lv, L)) (hE : Enf s.1 s.2.1 P N) (hsub : lv ≠ 0 → ∀ x ∈ L, x.2.1 ∈ N ∧ x.2.1 ≠ 0 ∧ (ndD s.1 x.2.1).1 + 1 = lv) :
    ∃ N', Enf u.1 u.2.1 (fun i => P i + cntR up i) N' ∧ KeepR s u ∧ (∀ m ∈ N, m ∈ N') ∧ (∀ m ∈ N, ndD u.1 m = ndD s.1 m) ∧ (∀ y ∈ up, y.2.1 ∈ N' ∧ 8 ≤ y.2.1 ∧ y.2.1 < 256 ∧ (ndD u.1 y.2.1).1 = lv) ∧ (∀ x ∈ L, ∃ n ∈ N', x ∈ (ndD u.1 n).2) ∧ up.length ≤ 2 ∧ u.1.2.length ≤ s.1.2.length + 2 := by
  have hw : ∀ {s : Rm} {n : Nd}, mkE s n = 0 → (mkV s n).1.2.length ≤ s.1.2.length + 1 := fun {s n} h => by
    obtain ⟨k, _, _, _, _, _, _, hV, _⟩ := mk_counts h
    rw [hV]
    simp [wrD]
  rcases built_ways h with ⟨h1, rfl, rfl⟩ | ⟨h0, h1, h2, rfl, rfl⟩
  · obtain ⟨k, e1, k8, k256, _, _, hE1, hnd, hndm, _⟩ := make_enf h1 hi hE hsub
    refine ⟨_, hE1.same fun i => by rw [e1, up_cnt k8], keep_make h1, fun m hm => List.mem_cons_of_mem _ hm, hndm, fun y hy => ?_, fun x hx => ⟨k, List.mem_cons_self, by rw [hnd]; exact hx⟩, by simp, by have := hw h1; omega⟩
    rw [List.mem_singleton.1 hy, e1]
    exact ⟨List.mem_cons_self, by show (8 : Int) ≤ k; omega, by show (k : Int) < 256; omega, by show (ndD _ (k : Int)).1 = _; rw [hnd]⟩
  · have hst : lv ≠ 0 → ∀ x ∈ L.take 3, x.2.1 ∈ N ∧ x.2.1 ≠ 0 ∧ (ndD s.1 x.2.1).1 + 1 = lv := fun hl x hx => hsub hl x (List.mem_of_mem_take hx)
    obtain ⟨k, e1, k8, k256, _, _, hE1, hnd, hndm, _⟩ := make_enf h1 (in_take hi) hE hst
    obtain ⟨j, e2, j8, j256, _, hjN, hE2, hnd2, hndm2, _⟩ := make_enf h2 (in_drop hi) hE1 fun hl x hx => by
      obtain ⟨g1, g2, g3⟩ := hsub hl x (List.mem_of_mem_drop hx)
      exact ⟨List.mem_cons_of_mem _ g1, g2, by rw [hndm _ g1]; exact g3⟩
    have hkk : ndD (mkV (mkV s (lv, L.take 3)) (lv, L.drop 3)).1 (k : Int) = (lv, L.take 3) := (hndm2 _ List.mem_cons_self).trans hnd
    refine ⟨_, hE2.same fun i => ?_, ptk_trans (keep_make h1) (keep_make h2), fun m hm => List.mem_cons_of_mem _ (List.mem_cons_of_mem _ hm), fun m hm => (hndm2 m (List.mem_cons_of_mem _ hm)).trans (hndm m hm), fun y hy => ?_, fun x hx => ?_, by simp, by have := hw h1; have := hw h2; omega⟩
    · have ec : cntR [upI (L.take 3) (mkN s (lv, L.take 3)), upI (L.drop 3) (mkN (mkV s (lv, L.take 3)) (lv, L.drop 3))] i = cntR [upI (L.take 3) (mkN s (lv, L.take 3))] i + cntR [upI (L.drop 3) (mkN (mkV s (lv, L.take 3)) (lv, L.drop 3))] i := by
        show _ + (_ + 0) = (_ + 0) + (_ + 0)
        omega
      rw [ec, e1, e2, up_cnt k8, up_cnt j8]
      omega
    · rcases List.mem_cons.1 hy with rfl | hy
      · rw [e1]
        exact ⟨List.mem_cons_of_mem _ List.mem_cons_self, by show (8 : Int) ≤ k; omega, by show (k : Int) < 256; omega, by show (ndD _ (k : Int)).1 = _; rw [hkk]⟩
      · rw [List.mem_singleton.1 hy, e2]
        exact ⟨List.mem_cons_self, by show (8 : Int) ≤ j; omega, by show (j : Int) < 256; omega, by show (ndD _ (j : Int)).1 = _; rw [hnd2]⟩
    · rw [← List.take_append_drop 3 L] at hx
      rcases List.mem_append.1 hx with hx | hx
      · exact ⟨k, List.mem_cons_of_mem _ List.mem_cons_self, by rw [hkk]; exact hx⟩
      · exact ⟨j, List.mem_cons_self, by rw [hnd2]; exact hx⟩
end Go.Proofs.YtogieepfimpdmaaGreat

/-
  An item put in along its way, plain: the new nodes, from the leaf up. Conditions: those that each lemma states.
-/
namespace Go.Proofs.YtogieepfimpdmaaGreat
open Go.RowKit

/-- Items, with others instead of so many at a place. -/
def insL (l : List It) (p many : Nat) (up : List It) : List It := l.take p ++ (up ++ l.drop (p + many))
noncomputable def refW (n : Nd) (k : Ky) : Int := ((n.2[wayN n k]?).map fun y => y.2.1).getD 0
/-- A store with the new nodes instead of one, and an item for each of them; an error. -/
noncomputable def grownO (x : It) : Nat → Rm → Int → Int × Rm × List It
  | 0, s, a =>
    if (builtO s 0 (insL (rmV s a).2 (placeN (rmV s a) x.1) (if thereN (rmV s a) x.1 = true then 1 else 0) [x])).1 = 0 then
      (0, (if x.2.1 = 0 then (builtO s 0 (insL (rmV s a).2 (placeN (rmV s a) x.1) (if thereN (rmV s a) x.1 = true then 1 else 0) [x])).2.1 else freR (builtO s 0 (insL (rmV s a).2 (placeN (rmV s a) x.1) (if thereN (rmV s a) x.1 = true then 1 else 0) [x])).2.1 x.2.1), (builtO s 0 (insL (rmV s a).2 (placeN (rmV s a) x.1) (if thereN (rmV s a) x.1 = true then 1 else 0) [x])).2.2)
    else ((builtO s 0 (insL (rmV s a).2 (placeN (rmV s a) x.1) (if thereN (rmV s a) x.1 = true then 1 else 0) [x])).1, emptyR, [])
  | l + 1, s, a =>
    if (grownO x l s (refW (rmV s a) x.1)).1 = 0 then
      if (builtO (grownO x l s (refW (rmV s a) x.1)).2.1 ((l + 1 : Nat) : Int) (insL (rmV s a).2 (wayN (rmV s a) x.1) 1 (grownO x l s (refW (rmV s a) x.1)).2.2)).1 = 0 then
        (0, freL (builtO (grownO x l s (refW (rmV s a) x.1)).2.1 ((l + 1 : Nat) : Int) (insL (rmV s a).2 (wayN (rmV s a) x.1) 1 (grownO x l s (refW (rmV s a) x.1)).2.2)).2.1 (grownO x l s (refW (rmV s a) x.1)).2.2,
          (builtO (grownO x l s (refW (rmV s a) x.1)).2.1 ((l + 1 : Nat) : Int) (insL (rmV s a).2 (wayN (rmV s a) x.1) 1 (grownO x l s (refW (rmV s a) x.1)).2.2)).2.2)
      else ((builtO (grownO x l s (refW (rmV s a) x.1)).2.1 ((l + 1 : Nat) : Int) (insL (rmV s a).2 (wayN (rmV s a) x.1) 1 (grownO x l s (refW (rmV s a) x.1)).2.2)).1, emptyR, [])
    else ((grownO x l s (refW (rmV s a) x.1)).1, emptyR, [])
theorem grown_leaf {x : It} {s u : Rm} {a : Int} {up : List It} (h : grownO x 0 s a = (0, u, up)) : ∃ u0, builtO s 0 (insL (rmV s a).2 (placeN (rmV s a) x.1) (if thereN (rmV s a) x.1 = true then 1 else 0) [x]) = (0, u0, up) ∧ u = if x.2.1 = 0 then u0 else freR u0 x.2.1 := by
  unfold grownO at h
  generalize hb : builtO s 0 _ = b at h
  obtain ⟨e, v, q⟩ := b
  split at h
  · rename_i h0
    cases h
    exact ⟨v, by rw [show e = 0 from h0], rfl⟩
  · rename_i h0
    simp only [Prod.mk.injEq] at h
    exact absurd h.1 h0
theorem grown_inner {x : It} {l : Nat} {s u : Rm} {a : Int} {up : List It} (h : grownO x (l + 1) s a = (0, u, up)) : ∃ u1 up1 u2, grownO x l s (refW (rmV s a) x.1) = (0, u1, up1) ∧ builtO u1 ((l + 1 : Nat) : Int) (insL (rmV s a).2 (wayN (rmV s a) x.1) 1 up1) = (0, u2, up) ∧ u = freL u2 up1 := by
  unfold grownO at h
  generalize hg : grownO x l s _ = g at h
  obtain ⟨e, u1, up1⟩ := g
  generalize hb : builtO _ _ _ = b at h
  obtain ⟨f, u2, q⟩ := b
  split at h
  · rename_i h0
    split at h
    · rename_i h1
      cases h
      exact ⟨u1, up1, u2, by rw [show e = 0 from h0], by rw [← show f = 0 from h1]; exact hb, rfl⟩
    · rename_i h1
      simp only [Prod.mk.injEq] at h
      exact absurd h.1 h1
  · rename_i h0
    simp only [Prod.mk.injEq] at h
    exact absurd h.1 h0
theorem built_key {s u : Rm} {lv : Int} {L up : List It} (h : builtO s lv L = (0, u, up)) (hne : L ≠ []) : ∀ y ∈ up, ∃ q ∈ L, y.1 = q.1 := by
  have hk : ∀ {M : List It}, M ≠ [] → ∃ q ∈ M, keyO M = q.1 := fun {M} hM => by
    obtain ⟨q, r, rfl⟩ := List.exists_cons_of_ne_nil hM
    exact ⟨q, List.mem_cons_self, rfl⟩
  rcases built_ways h with ⟨_, _, rfl⟩ | ⟨h0, _, _, _, rfl⟩
  · intro y hy
    rw [List.mem_singleton.1 hy]
    exact hk hne
  · have hd : L.drop 3 ≠ [] := fun e => by
      have := congrArg List.length e
      rw [List.length_drop] at this
      simp at this
      omega
    have ht : L.take 3 ≠ [] := fun e => by
      have h5 : (L.take 3).length = 0 := by rw [e]; rfl
      rw [List.length_take] at h5
      omega
    intro y hy
    rcases List.mem_cons.1 hy with rfl | hy
    · obtain ⟨q, hq, e⟩ := hk ht
      exact ⟨q, List.mem_of_mem_take hq, e⟩
    · rw [List.mem_singleton.1 hy]
      obtain ⟨q, hq, e⟩ := hk hd
      exact ⟨q, List.mem_of_mem_drop hq, e⟩
theorem putL_key {y : It} {r : List It} {x : It} (h : Up (y :: r)) (hx : lessK x.1 y.1 = false) : keyO (putL (y :: r) x) = y.1 := by
  unfold putL
  cases hy : lessK y.1 x.1 with
  | true =>
    rw [List.filter_cons_of_pos (by simpa using hy)]
    rfl
  | false =>
    have e : y.1 = x.1 := by
      by_cases e : y.1 = x.1
      · exact e
      · rw [less_total e hy] at hx; cases hx
    rw [filter_none (L := y :: r) fun z hz => ?_]
    · exact e.symm
    · rcases List.mem_cons.1 hz with rfl | hz
      · exact hy
      · rw [← e]
        exact less_anti ((List.pairwise_cons.1 h).1 z hz)

noncomputable def innT (s : Rm) : Nat → List It → Ky → Bool → Bool
  | 0, L, _, _ => leafO s L
  | j + 1, L, tb, e => itsO (rightO s j) L tb e
/-- A node, of a level, to which an item's way leads. -/
structure TopT (s : Rm) (l : Nat) (a : Int) (tb : Ky) (e : Bool) : Prop where
  ok : rmE s a = 0
  lv : (rmV s a).1 = (l : Int)
  inn : innT s l (rmV s a).2 tb e = true
  low : e = true → ∀ y ∈ (rmV s a).2, lessK y.1 tb = true
theorem right_top {s : Rm} {l : Nat} {a : Int} {k tb : Ky} {e : Bool} (h : rightO s l a k tb e = true) : TopT s l a tb e ∧ ∀ y r, (rmV s a).2 = y :: r → y.1 = k := by
  obtain ⟨r1, r2, r3, r4⟩ := right_of h
  obtain ⟨y, r, e1, e2, e3⟩ := head_of r3
  refine ⟨⟨r1, r2, by cases l <;> exact r4, fun he => ?_⟩, fun y' r' e' => ?_⟩
  · obtain ⟨z, hz, hb⟩ := e3 he
    exact up_last (up_may (rm_may r1).1) hz hb
  · rw [e1] at e'
    cases e'
    exact e2
theorem tree_top {s : Rm} {a : Int} (h : treeO s a = true) : TopT s (rmV s a).1.toNat a keyZ false := by
  obtain ⟨r1, _, _, l0, _, hi⟩ := tree_of h
  refine ⟨r1, by omega, ?_, fun he => by cases he⟩
  unfold innerO at hi
  cases hl : (rmV s a).1.toNat with
  | zero => rw [hl] at hi; exact hi
  | succ j => rw [hl] at hi; exact hi
def hold (x : It) (i : Nat) : Nat := if x.2.1 ≠ 0 ∧ i = x.2.1.toNat then 1 else 0
structure GrownIs (s u : Rm) (P : Nat → Nat) (N N' : List Int) (l : Nat) (a : Int) (up : List It) (x : It) (tb : Ky) (e : Bool) : Prop where
  keep : KeepR s u
  its : itsO (rightO u l) up tb e = true
  all : (up.flatMap fun y => itsT u l y.2.1) = putL (itsT s l a) x
  first : ∃ z r, up = z :: r ∧ ∀ y q, (rmV s a).2 = y :: q → lessK x.1 y.1 = false → z.1 = y.1
  enf : Enf u.1 u.2.1 (fun i => P i + cntR up i) N'
  more : ∀ m ∈ N, m ∈ N'
  ups : ∀ y ∈ up, y.2.1 ∈ N' ∧ 8 ≤ y.2.1 ∧ y.2.1 < 256 ∧ (ndD u.1 y.2.1).1 = (l : Int)
  inI : ∀ y ∈ up, InI y
  few : up.length ≤ 2
  writes : u.1.2.length ≤ s.1.2.length + 2 * (l + 1)
theorem leaf_grown {x : It} (hx : InI x) {s u : Rm} {a : Int} {tb : Ky} {e : Bool} {P : Nat → Nat} {N : List Int} {up : List It} (ht : TopT s 0 a tb e) (hb : e = true → lessK x.1 tb = true) (hr : x.2.1 = 0 ∨ (0 < x.2.1 ∧ s.2.1[x.2.1.toNat]?.getD 0 ≠ 0))
    (hE : Enf s.1 s.2.1 (fun i => P i + hold x i) N) (h : grownO x 0 s a = (0, u, up)) : ∃ N', GrownIs s u P N N' 0 a up x tb e := by
  obtain ⟨u0, h1, rfl⟩ := grown_leaf h
  have hm := (rm_may ht.ok).1
  have el : insL (rmV s a).2 (placeN (rmV s a) x.1) (if thereN (rmV s a) x.1 = true then 1 else 0) [x] = putL (rmV s a).2 x := leaf_put hm x
  rw [el] at h1
  have hin : x ∈ putL (rmV s a).2 x := putL_in.2 (.inl rfl)
  have hne : putL (rmV s a).2 x ≠ [] := fun e => by rw [e] at hin; cases hin
  have hi : InN ((0 : Int), putL (rmV s a).2 x) := ⟨⟨by simp, by simp⟩, fun y hy => by
    rcases putL_in.1 hy with rfl | ⟨hy, _⟩
    · exact hx
    · exact (rm_in ht.ok).it y hy⟩
  have hrow : rowP s 0 (putL (rmV s a).2 x) tb e (putL (rmV s a).2 x) := by
    refine ⟨putL_up (up_may hm) x, ?_, fun he y hy => ?_, rfl⟩
    · have h2 : leafO s (rmV s a).2 = true := ht.inn
      unfold leafO at h2 ⊢
      rw [List.all_eq_true] at h2 ⊢
      intro y hy
      rcases putL_in.1 hy with rfl | ⟨hy, _⟩
      · rcases hr with hr | hr
        · simp [hr]
        · simp [hr.2]
      · exact h2 y hy
    · rcases putL_in.1 hy with rfl | ⟨hy, _⟩
      · exact hb he
      · exact ht.low he y hy
  obtain ⟨k1, g1, g2, z, r, ez, kz⟩ := built_right (lv := 0) h1 hi hne hrow
  obtain ⟨N', e1, _, e3, e4, e5, e6, e7, e8⟩ := built_enf h1 hi hE fun h0 => absurd rfl h0
  have hK : KeepR u0 (if x.2.1 = 0 then u0 else freR u0 x.2.1) ∧ Enf (if x.2.1 = 0 then u0 else freR u0 x.2.1).1 (if x.2.1 = 0 then u0 else freR u0 x.2.1).2.1 (fun i => P i + cntR up i) N' := by
    by_cases h0 : x.2.1 = 0
    · rw [if_pos h0]
      exact ⟨ptk_same k1.may, e1.same fun i => by simp [hold, h0]⟩
    · rw [if_neg h0]
      obtain ⟨n, hn, hxn⟩ := e6 x hin
      have hpos : 0 < x.2.1 := by rcases hr with hr | hr <;> omega
      refine fre_enf k1.may (e1.same fun i => ?_) hpos ⟨n, hn, x, hxn, rfl⟩
      show P i + cntR up i + (if i = x.2.1.toNat then 1 else 0) = P i + hold x i + cntR up i
      unfold hold
      by_cases ei : i = x.2.1.toNat
      · rw [if_pos ei, if_pos ⟨h0, ei⟩]; omega
      · rw [if_neg ei, if_neg fun h => ei h.2]; omega
  obtain ⟨k2, e9⟩ := hK
  have hnd : ∀ m ∈ N', ndD (if x.2.1 = 0 then u0 else freR u0 x.2.1).1 m = ndD u0.1 m := fun m hm => by
    by_cases h0 : x.2.1 = 0
    · rw [if_pos h0]
    · rw [if_neg h0]; rfl
  refine ⟨N', ptk_trans k1 k2, its_mono (fun a k tb e hf => (keep_right k2 0 a k tb e hf).1) _ _ _ g1, ?_, ⟨z, r, ez, fun y q ey hxy => ?_⟩, e9, e3, fun y hy => ?_, fun y hy => ?_, e7, ?_⟩
  · rw [show itsT s 0 a = (rmV s a).2 from rfl, ← g2]
    exact flat_same fun y hy => by
      obtain ⟨t', e', hf⟩ := its_mem g1 y hy
      exact (keep_right k2 0 _ _ _ _ hf).2.1
  · rw [kz, ey]
    exact putL_key (by rw [← ey]; exact up_may hm) hxy
  · obtain ⟨f1, f2, f3, f4⟩ := e5 y hy
    exact ⟨f1, f2, f3, by rw [hnd _ f1]; exact f4⟩
  · obtain ⟨q, hq, eq⟩ := built_key h1 hne y hy
    obtain ⟨_, f2, f3, _⟩ := e5 y hy
    exact ⟨by rw [eq]; exact (hi.it q hq).key, ⟨by omega, by omega⟩⟩
  · have : (if x.2.1 = 0 then u0 else freR u0 x.2.1).1 = u0.1 := by
      by_cases h0 : x.2.1 = 0
      · rw [if_pos h0]
      · rw [if_neg h0]; rfl
    rw [this]
    omega
theorem way_part {n : Nd} {k : Ky} {y : It} (hy : n.2[wayN n k]? = some y) : n.2 = n.2.take (wayN n k) ++ y :: n.2.drop (wayN n k + 1) := by
  obtain ⟨hp, hg⟩ := List.getElem?_eq_some_iff.1 hy
  conv => lhs; rw [← List.take_append_drop (wayN n k) n.2, List.drop_eq_getElem_cons hp, hg]
theorem inner_grown {x : It} {l : Nat} (h6 : l + 1 < 6) {s u : Rm} {a : Int} {tb : Ky} {e : Bool} {P : Nat → Nat} {N : List Int} {up : List It}
    (ih : ∀ {u : Rm} {a : Int} {tb : Ky} {e : Bool} {up : List It}, TopT s l a tb e → (e = true → lessK x.1 tb = true) → a ∈ N → grownO x l s a = (0, u, up) → ∃ N', GrownIs s u P N N' l a up x tb e)
    (ht : TopT s (l + 1) a tb e) (hb : e = true → lessK x.1 tb = true) (ha : a ∈ N) {Q : Nat → Nat} (hE : Enf s.1 s.2.1 Q N) (h : grownO x (l + 1) s a = (0, u, up)) : ∃ N', GrownIs s u P N N' (l + 1) a up x tb e := by
  obtain ⟨u1, up1, u2, h1, h2, rfl⟩ := grown_inner h
  have hm := (rm_may ht.ok).1
  have hne : 0 < (rmV s a).2.length := (mayN_of hm).1.2.2.2 (by rw [ht.lv]; omega)
  obtain ⟨y, hy⟩ : ∃ y, (rmV s a).2[wayN (rmV s a) x.1]? = some y := ⟨_, List.getElem?_eq_getElem (way_in x.1 hne)⟩
  have hw := way_part hy
  have hyin : y ∈ (rmV s a).2 := List.mem_of_getElem? hy
  have hir : refW (rmV s a) x.1 = y.2.1 := by unfold refW; rw [hy]; rfl
  rw [hir] at h1
  have hbe := fun (i : Nat) (c : It) (hi : wayN (rmV s a) x.1 < i) (hc : (rmV s a).2[i]? = some c) => way_behind hm hi hc
  have hown := way_own hm hy
  have hA0 : (rmV s a).2.take (wayN (rmV s a) x.1) ≠ [] → lessK x.1 y.1 = false := fun hA => hown fun e => hA (by rw [e]; rfl)
  have hCk : ∀ c r, (rmV s a).2.drop (wayN (rmV s a) x.1 + 1) = c :: r → lessK x.1 c.1 = true := fun c r hc => by
    refine hbe (wayN (rmV s a) x.1 + 1) c (by omega) ?_
    have := congrArg (fun l => l[0]?) hc
    simpa [List.getElem?_drop] using this
  have eL : insL (rmV s a).2 (wayN (rmV s a) x.1) 1 up1 = (rmV s a).2.take (wayN (rmV s a) x.1) ++ (up1 ++ (rmV s a).2.drop (wayN (rmV s a) x.1 + 1)) := rfl
  rw [eL] at h2
  generalize hAe : (rmV s a).2.take (wayN (rmV s a) x.1) = A at *
  generalize hCe : (rmV s a).2.drop (wayN (rmV s a) x.1 + 1) = C at *
  have hinn : itsO (rightO s l) (rmV s a).2 tb e = true := ht.inn
  rw [hw] at hinn
  have hsp := hinn
  rw [its_append, Bool.and_eq_true, its_cons, Bool.and_eq_true] at hsp
  obtain ⟨iA, iy, iC⟩ := hsp
  obtain ⟨hty, htk⟩ := right_top iy
  have hbC : bxO C e = true → lessK x.1 (nxO C tb) = true := fun he => by
    cases hC : C with
    | nil => rw [hC] at he; exact hb he
    | cons c r => exact hCk c r hC
  have hnd : ndD s.1 a = rmV s a := ndD_rm ht.ok
  have hsh : ∀ q ∈ (rmV s a).2, q.2.1 ∈ N ∧ q.2.1 ≠ 0 ∧ (ndD s.1 q.2.1).1 + 1 = ((l + 1 : Nat) : Int) := fun q hq => by
    have := hE.shut a ha (by rw [hnd, ht.lv]; omega) q (by rw [hnd]; exact hq)
    rw [hnd, ht.lv] at this
    exact this
  obtain ⟨N1, G⟩ := ih hty hbC (hsh y hyin).1 h1
  obtain ⟨z1, r1, ez1, kz1⟩ := G.first
  have hz1 : lessK x.1 y.1 = false → z1.1 = y.1 := fun hxy => by
    obtain ⟨y0, q0, e0, _⟩ : ∃ y0 q0, (rmV s y.2.1).2 = y0 :: q0 ∧ True := by
      obtain ⟨_, _, r3, _⟩ := right_of iy
      obtain ⟨y0, q0, e0, _⟩ := head_of r3
      exact ⟨y0, q0, e0, trivial⟩
    have k0 := htk y0 q0 e0
    rw [kz1 y0 q0 e0 (by rw [k0]; exact hxy), k0]
  have hits : itsO (rightO u1 l) (A ++ (up1 ++ C)) tb e = true := its_instead hinn (fun hA => hz1 (hA0 hA)) ez1 (fun q _ k tb e hf => (keep_right G.keep l _ _ _ _ hf).1) G.its
  have hfA : (A.flatMap fun q => itsT u1 l q.2.1) = A.flatMap fun q => itsT s l q.2.1 := flat_same fun q hq => by
    obtain ⟨t', e', hf⟩ := its_mem iA q hq
    exact (keep_right G.keep l _ _ _ _ hf).2.1
  have hfC : (C.flatMap fun q => itsT u1 l q.2.1) = C.flatMap fun q => itsT s l q.2.1 := flat_same fun q hq => by
    obtain ⟨t', e', hf⟩ := its_mem iC q hq
    exact (keep_right G.keep l _ _ _ _ hf).2.1
  have hpA : ∀ q ∈ A.flatMap (fun q => itsT s l q.2.1), lessK q.1 x.1 = true := fun q hq => by
    by_cases hA : A = []
    · rw [hA] at hq; cases hq
    · have iA' : itsO (rightO s l) A y.1 true = true := iA
      obtain ⟨_, _, _, hp⟩ := part_its (right_part s l) A y.1 true hA iA'
      exact le_less (hp.bound rfl q hq) (hA0 hA)
  have hpC : ∀ q ∈ C.flatMap (fun q => itsT s l q.2.1), lessK x.1 q.1 = true := fun q hq => by
    by_cases hC : C = []
    · rw [hC] at hq; cases hq
    · obtain ⟨c, r, ec, hp⟩ := part_its (right_part s l) C tb e hC iC
      have hc := hCk c r ec
      rcases hp.ge q hq with e1 | e1
      · rw [e1]; exact hc
      · exact less_trans hc e1
  have hall : ((A ++ (up1 ++ C)).flatMap fun q => itsT u1 l q.2.1) = putL (itsT s (l + 1) a) x := by
    have e1 : itsT s (l + 1) a = (rmV s a).2.flatMap fun q => itsT s l q.2.1 := rfl
    rw [e1, hw, List.flatMap_append, List.flatMap_append, List.flatMap_append, List.flatMap_cons, hfA, hfC, G.all, putL_mid hpA hpC]
  have hin : InN (((l + 1 : Nat) : Int), A ++ (up1 ++ C)) := ⟨⟨by show (-9223372036854775808 : Int) ≤ ((l + 1 : Nat) : Int); omega, by show ((l + 1 : Nat) : Int) ≤ 9223372036854775807; omega⟩, fun q hq => by
    have hN := (rm_in ht.ok).it
    rw [hw] at hN
    rcases List.mem_append.1 hq with hq | hq
    · exact hN q (List.mem_append_left _ hq)
    · rcases List.mem_append.1 hq with hq | hq
      · exact G.inI q hq
      · exact hN q (List.mem_append_right _ (List.mem_cons_of_mem _ hq))⟩
  have hnL : A ++ (up1 ++ C) ≠ [] := by rw [ez1]; simp
  have hrow : rowP u1 (l + 1) (A ++ (up1 ++ C)) tb e (putL (itsT s (l + 1) a) x) := ⟨hits, hall.symm⟩
  obtain ⟨k2, g1, g2, z, r, ez, kz⟩ := built_right h2 hin hnL hrow
  obtain ⟨N2, e1, _, e3, e4, e5, e6, e7, e8⟩ := built_enf h2 hin G.enf fun _ q hq => by
    have hold : ∀ q ∈ (rmV s a).2, q.2.1 ∈ N1 ∧ q.2.1 ≠ 0 ∧ (ndD u1.1 q.2.1).1 + 1 = ((l + 1 : Nat) : Int) := fun q hq => by
      obtain ⟨f1, f2, f3⟩ := hsh q hq
      exact ⟨G.more _ f1, f2, by rw [keep_nd G.keep hE f1]; exact f3⟩
    rw [hw] at hold
    rcases List.mem_append.1 hq with hq | hq
    · exact hold q (List.mem_append_left _ hq)
    · rcases List.mem_append.1 hq with hq | hq
      · obtain ⟨f1, f2, f3, f4⟩ := G.ups q hq
        exact ⟨f1, by omega, by rw [f4]; omega⟩
      · exact hold q (List.mem_append_right _ (List.mem_cons_of_mem _ hq))
  obtain ⟨k3, e9⟩ := freL_enf up1 (s := u2) (P := fun i => P i + cntR up i) (N := N2) k2.may (e1.same fun i => by show P i + cntR up i + cntR up1 i = P i + cntR up1 i + cntR up i; omega) fun q hq => by
    obtain ⟨_, f2, _, _⟩ := G.ups q hq
    obtain ⟨n, hn, hqn⟩ := e6 q (List.mem_append_right _ (List.mem_append_left _ hq))
    exact ⟨by omega, n, hn, q, hqn, rfl⟩
  have hd : (freL u2 up1).1 = u2.1 := by
    clear k3 e9 e1
    have : ∀ (l : List It) (v : Rm), (freL v l).1 = v.1 := by
      intro l
      induction l with
      | nil => intro v; rfl
      | cons q r ih => intro v; rw [freL_cons, ih]; rfl
    exact this up1 u2
  refine ⟨N2, ptk_trans (ptk_trans G.keep k2) k3, its_mono (fun a k tb e hf => (keep_right k3 (l + 1) a k tb e hf).1) _ _ _ g1, ?_, ⟨z, r, ez, fun y0 q0 e0 hxy => ?_⟩, e9, fun m hm => e3 m (G.more m hm), fun q hq => ?_, fun q hq => ?_, e7, ?_⟩
  · rw [← g2]
    exact flat_same fun q hq => by
      obtain ⟨t', e', hf⟩ := its_mem g1 q hq
      exact (keep_right k3 (l + 1) _ _ _ _ hf).2.1
  · rw [kz]
    rw [hw] at e0
    cases hA : A with
    | nil =>
      rw [hA] at e0
      cases e0
      rw [ez1]
      exact hz1 hxy
    | cons c r0 =>
      rw [hA] at e0
      cases e0
      rfl
  · rw [hd]
    exact e5 q hq
  · obtain ⟨p, hp, ep⟩ := built_key h2 hnL q hq
    obtain ⟨_, f2, f3, _⟩ := e5 q hq
    exact ⟨by rw [ep]; exact (hin.it p hp).key, ⟨by omega, by omega⟩⟩
  · rw [hd]
    have := G.writes
    omega
/-- The new nodes: what is built along an item's way. -/
theorem grown_ok {x : It} (hx : InI x) {s : Rm} {P : Nat → Nat} {N : List Int} (hr : x.2.1 = 0 ∨ (0 < x.2.1 ∧ s.2.1[x.2.1.toNat]?.getD 0 ≠ 0)) (hE : Enf s.1 s.2.1 (fun i => P i + hold x i) N) : ∀ (l : Nat), l < 6 → ∀ {u : Rm} {a : Int} {tb : Ky} {e : Bool} {up : List It}, TopT s l a tb e → (e = true → lessK x.1 tb = true) → a ∈ N → grownO x l s a = (0, u, up) → ∃ N', GrownIs s u P N N' l a up x tb e
  | 0, _, _, _, _, _, _, ht, hb, _, h => leaf_grown hx ht hb hr hE h
  | l + 1, h6, _, _, _, _, _, ht, hb, ha, h => inner_grown h6 (fun ht hb ha h => grown_ok hx hr hE l (by omega) ht hb ha h) ht hb ha hE h
end Go.Proofs.YtogieepfimpdmaaGreat

/-
  An item put into a tree, plain: the answer, its items, the other trees, the counts. Conditions: those that each lemma states.
-/
namespace Go.Proofs.YtogieepfimpdmaaGreat
open Go.RowKit

/-- Would two nodes be made of the highest level, along a key's way? -/
noncomputable def tallT (s : Rm) : Nat → Int → Ky → Bool
  | 0, a, k => decide (5 ≤ (rmV s a).2.length) && !thereN (rmV s a) k
  | l + 1, a, k => decide (5 ≤ (rmV s a).2.length) && tallT s l (refW (rmV s a) k) k
noncomputable def tallO (s : Rm) (a : Int) (k : Ky) : Bool := decide ((rmV s a).1 = 5) && tallT s 5 a k
/-- The new root, made of what is instead of the old one. -/
noncomputable def rootO (s : Rm) (lv : Int) (up : List It) : Int × Rm × List It :=
  if 1 < up.length then
    if (builtO s (lv + 1) up).1 = 0 then (0, freL (builtO s (lv + 1) up).2.1 up, (builtO s (lv + 1) up).2.2) else ((builtO s (lv + 1) up).1, emptyR, [])
  else (0, s, up)
def nowL (up : List It) : Int := match up with | [] => 0 | z :: _ => z.2.1
noncomputable def insO (s : Rm) (a : Int) (x : It) : Int × Rm × Int :=
  if tallO s a x.1 then (120, emptyR, 0)
  else if (grownO x (rmV s a).1.toNat s a).1 = 0 then
    if (rootO (grownO x (rmV s a).1.toNat s a).2.1 (rmV s a).1 (grownO x (rmV s a).1.toNat s a).2.2).1 = 0 then
      match lfO (rootO (grownO x (rmV s a).1.toNat s a).2.1 (rmV s a).1 (grownO x (rmV s a).1.toNat s a).2.2).2.1.1 (rootO (grownO x (rmV s a).1.toNat s a).2.1 (rmV s a).1 (grownO x (rmV s a).1.toNat s a).2.2).2.1.2.1 a.toNat with
      | none => (8, emptyR, 0)
      | some v => (0, ((rootO (grownO x (rmV s a).1.toNat s a).2.1 (rmV s a).1 (grownO x (rmV s a).1.toNat s a).2.2).2.1.1, v, (rootO (grownO x (rmV s a).1.toNat s a).2.1 (rmV s a).1 (grownO x (rmV s a).1.toNat s a).2.2).2.1.2.2), nowL (rootO (grownO x (rmV s a).1.toNat s a).2.1 (rmV s a).1 (grownO x (rmV s a).1.toNat s a).2.2).2.2)
    else ((rootO (grownO x (rmV s a).1.toNat s a).2.1 (rmV s a).1 (grownO x (rmV s a).1.toNat s a).2.2).1, emptyR, 0)
  else ((grownO x (rmV s a).1.toNat s a).1, emptyR, 0)
noncomputable def putO (s : Rm) (a : Int) (x : It) : Int × Rm × Int :=
  if ckE s a = 0 then if mayI x then if x.2.1 ≠ 0 ∧ s.2.1[x.2.1.toNat]?.getD 0 = 0 then (6, emptyR, 0) else insO s a x else (8, emptyR, 0) else (ckE s a, emptyR, 0)
theorem root_ways {s u : Rm} {lv : Int} {up top : List It} (h : rootO s lv up = (0, u, top)) : (up.length ≤ 1 ∧ u = s ∧ top = up) ∨ (1 < up.length ∧ ∃ u0, builtO s (lv + 1) up = (0, u0, top) ∧ u = freL u0 up) := by
  unfold rootO at h
  split at h
  · rename_i h0
    generalize hb : builtO s (lv + 1) up = b at h
    obtain ⟨e, v, q⟩ := b
    split at h
    · rename_i h1
      cases h
      exact .inr ⟨h0, v, by rw [show e = 0 from h1], rfl⟩
    · rename_i h1
      simp only [Prod.mk.injEq] at h
      exact absurd h.1 h1
  · cases h
    exact .inl ⟨by omega, rfl, rfl⟩
end Go.Proofs.YtogieepfimpdmaaGreat

/-
  Package room: Same, New. Conditions: those that each lemma states.
-/
namespace Go.Proofs.YtogieepfimpdmaaGreat
open Go.RowKit

/-- A new store. -/
def newR : Rm := (zeroD, zeros 256, zeros 256)
set_option maxRecDepth 100000 in
set_option maxHeartbeats 4000000 in
theorem newR_any (w : World) : Calls Tryz.prog 23 #[] w fun e w' => ∃ t, e = .returned t ∧ Sto (New w.heap.size w') w' t newR ∧ Below w.heap.size w w' := by
  obtain ⟨w1, hw1, f1, hsz, hB⟩ := box_4 w (.slice none 0 0) (.slice none 0 0) (.slice none 0 0) (.slice none 0 0) 29
  have hz : Hid ((zeros 256).length = 256) := Lib.hid (zeros_length 256)
  replace hsz := Lib.hid hsz
  go_enter Tryz.func23, Tryz.ntmps23
  go_upto_region 1 with fail
  clear hw1
  go_wp2_with fail
  with_reducible refine (new_any _).mono ?_
  rintro e w2 ⟨u, rfl, h2, hb2⟩
  obtain ⟨P, p, Q, r, rfl, _⟩ := id h2.open
  have H2 := Lib.hid h2
  have F2 := (hb2.block w.heap.size (by rw [hsz.out]; omega)).trans f1
  have B2 := Lib.hid (hB.trans (hb2.mono hB.size))
  have s2 : Hid (w.heap.size + 1 ≤ w1.heap.size ∧ w1.heap.size ≤ w2.heap.size) := Lib.hid ⟨by rw [hsz.out]; omega, hb2.size⟩
  clear h2 hb2 f1
  go_wp2_with fail
  with_reducible refine (cntNew_by _).mono ?_
  rintro e w3 ⟨g3, rfl, h3, hb3⟩
  have H3 := Lib.hid h3
  have D3 := Lib.hid (H2.out.new (Nat.le_refl _) hb3)
  have F3 := (hb3.block w.heap.size (by have := s2.out; omega)).trans F2
  have B3 := Lib.hid (B2.out.trans (hb3.mono B2.out.size))
  have s3 : Hid (w2.heap.size ≤ w3.heap.size) := Lib.hid hb3.size
  clear h3 hb3 F2 H2
  go_wp2_with fail
  with_reducible refine (cntNew_by _).mono ?_
  rintro e w4 ⟨g4, rfl, h4, hb4⟩
  have D4 := D3.out.new (Nat.le_refl _) hb4
  have N4 := stab_by.new H3.out (Nat.le_refl _) hb4
  have F4 := (hb4.block w.heap.size (by have := s2.out; have := s3.out; omega)).trans F3
  have B4 := B3.out.trans (hb4.mono B3.out.size)
  obtain ⟨c0, c1, c2, c3, c4, c5⟩ := four_cells F4
  obtain ⟨W9, hW9, g9, gr9, gs9⟩ := put_four (a' := .slice P zeroD.1.length p) (b' := .slice Q zeroD.2.length r) (c' := .slice (some ⟨g3, 0, none⟩) 256 256) (d' := .slice (some ⟨g4, 0, none⟩) 256 256) F4
  obtain ⟨n0, n1, n2, n3, _, _⟩ := four_cells g9
  have q2 := s2.out
  have q3 := s3.out
  have l2 := B2.out.size
  have l3 := B3.out.size
  have hfin := Lib.hid (show Sto (New w.heap.size W9) W9 (.agg #[.slice P zeroD.1.length p, .slice Q zeroD.2.length r, .slice (some ⟨g3, 0, none⟩) 256 256, .slice (some ⟨g4, 0, none⟩) 256 256]) newR from
    Sto.mk ((D4.grown gr9 (fun q e => by cases e; omega)).new (by omega) (Below.refl _ _)) (stab_by.new (stab_by.grown N4 gr9 (fun q e => by cases e; omega)) (by omega) (Below.refl _ _)) (stab_by.new (stab_by.grown h4 gr9 (fun q e => by cases e; omega)) (by omega) (Below.refl _ _)))
  have hB9 := Lib.hid (B4.grown gr9 B4.size (fun q e => by cases e; omega))
  clear D4 N4 gr9 gs9 B4 q2 q3 l2 l3 h4 hb4
  replace F4 := Lib.hid F4
  replace F3 := Lib.hid F3
  replace g9 := Lib.hid g9
  go_wp2_with fail
  refine bodyPost_ret (v := .agg #[.slice P zeroD.1.length p, .slice Q zeroD.2.length r, .slice (some ⟨g3, 0, none⟩) 256 256, .slice (some ⟨g4, 0, none⟩) 256 256]) (by simp [results, Tryz.results23, go_sem, n0, n1, n2, n3]) rfl ?_
  exact ⟨_, rfl, hfin.out, hB9.out⟩
end Go.Proofs.YtogieepfimpdmaaGreat

/-
  slices.Chunk at a slice of 256 bytes, in parts of 128. Conditions: those that each lemma states.
-/
namespace Go.Proofs.YtogieepfimpdmaaGreat
open Go.RowKit Go.Shelf
attribute [local go_sem] Oper.semAt_some

/-- What a round keeps: all that lay below block n₀, and the two boxes from Bs on. -/
def Keeps2 (n₀ Bs : Nat) (A B : World) : Prop := Below n₀ A B ∧ B.cell? ⟨Bs, 0, none⟩ = A.cell? ⟨Bs, 0, none⟩ ∧ B.cell? ⟨Bs + 1, 0, none⟩ = A.cell? ⟨Bs + 1, 0, none⟩
theorem Keeps2.trans {n₀ Bs : Nat} {A B C : World} (h : Keeps2 n₀ Bs A B) (h' : Keeps2 n₀ Bs B C) : Keeps2 n₀ Bs A C := ⟨h.1.trans h'.1, h'.2.1.trans h.2.1, h'.2.2.trans h.2.2⟩
theorem Keeps2.refl (n₀ Bs : Nat) (A : World) : Keeps2 n₀ Bs A A := ⟨Below.refl _ _, rfl, rfl⟩
theorem Keeps2.below {n₀ Bs : Nat} {A B : World} (h : Below n₀ A B) (hB : Bs + 1 < n₀) : Keeps2 n₀ Bs A B := ⟨h, h.cell (p := ⟨Bs, 0, none⟩) (by show Bs < n₀; omega), h.cell (p := ⟨Bs + 1, 0, none⟩) hB⟩
end Go.Proofs.YtogieepfimpdmaaGreat

/-
  Package count: Write, which ranges over slices.Chunk. Conditions: those that each lemma states.
-/
namespace Go.Proofs.YtogieepfimpdmaaGreat
open Go.RowKit Go.Shelf
attribute [local go_sem] Oper.semAt_some

/-! ### The two writes, plain -/
theorem put_one {W : World} {g : Nat} {a u : Value} {t : TypeId} (h : W.heap[g]? = some (.cells #[a] t (0, 0))) : ∃ W1, W.setCell ⟨g, 0, none⟩ u = W1 ∧ W1.heap[g]? = some (.cells #[u] t (0, 0)) ∧ W.grownBy W1 (some g) ∧ W1.heap.size = W.heap.size :=
  ⟨_, rfl, by simp [World.setCell, Array.getElem?_modify, h], grow_put (p := ⟨g, 0, none⟩) (grow_refl W (some g)) rfl u, by simp⟩
theorem one_cell {W : World} {g : Nat} {a : Value} {t : TypeId} (h : W.heap[g]? = some (.cells #[a] t (0, 0))) : W.cell? ⟨g, 0, none⟩ = some a ∧ W.frozen? ⟨g, 0, none⟩ = false ∧ g < W.heap.size :=
  ⟨by simp [World.cell?, h], by simp [World.frozen?, h], (Array.getElem?_eq_some_iff.1 h).1⟩
theorem block_kept {W W' : World} {row : Option Nat} {g : Nat} {cs : Array Value} {t : TypeId} (h : W.heap[g]? = some (.cells cs t (0, 0))) (hg : W.grownBy W' row) (hrow : ∀ r, row = some r → ∃ o : Obj, W.heap[r]? = some o ∧ o.isCells = false) : W'.heap[g]? = some (.cells cs t (0, 0)) :=
  (grownBy_keeps_cells hg hrow h rfl).trans h
end Go.Proofs.YtogieepfimpdmaaGreat

/-
  The document's answers of layer 7: Write. Conditions: those that each lemma states.
-/
namespace Go.Proofs.YtogieepfimpdmaaGreat
open Go.RowKit

/-- Cells that hold no empty slice. -/
def NZ (ok : Addr → Prop) (w : World) : Addr → Prop := fun p => ok p ∧ w.cell? p ≠ some (.slice none 0 0)
theorem by_nz {ok : Addr → Prop} {w : World} {cs : List Value} {x : List UInt8} (h : rBy ok w cs x) : rBy (NZ ok w) w cs x := by
  obtain ⟨A, cap, h1, h2, h3, h4⟩ := h
  refine ⟨A, cap, h1, h2, h3, fun i y hi => ?_⟩
  obtain ⟨ad, vs, e1, e2, e3, e4⟩ := h4 i y hi
  refine ⟨ad, vs, e1, e2, fun j u hj => ⟨⟨(e3 j u hj).1, ?_⟩, (e3 j u hj).2⟩, e4⟩
  unfold rU8 at e4
  subst e4
  have := List.mem_of_getElem? hj
  simp only [List.mem_singleton] at this
  rw [(e3 j u hj).2, this]
  simp
theorem slice_nz {ok : Addr → Prop} {w : World} {u : Value} {x : List UInt8} (h : rBy ok w [u] x) (hx : x ≠ []) : u ≠ .slice none 0 0 := by
  obtain ⟨A, c, rfl, _⟩ := rBy_open h
  intro e
  simp only [Value.slice.injEq] at e
  exact hx (List.eq_nil_of_length_eq_zero e.2.1)
theorem rows_nz {ok : Addr → Prop} {w : World} {cs : List Value} {xss : List (List UInt8)} (h : rSl 1 rBy ok w cs xss) (hn : ∀ x ∈ xss, x ≠ []) : rSl 1 rBy (NZ ok w) w cs xss := by
  obtain ⟨A, cap, h1, h2, h3, h4⟩ := h
  refine ⟨A, cap, h1, h2, h3, fun i y hi => ?_⟩
  obtain ⟨ad, vs, e1, e2, e3, e4⟩ := h4 i y hi
  refine ⟨ad, vs, e1, e2, fun j u hj => ⟨⟨(e3 j u hj).1, ?_⟩, (e3 j u hj).2⟩, by_nz e4⟩
  match vs, e2 with
  | [v], _ =>
    have := List.mem_of_getElem? hj
    simp only [List.mem_singleton] at this
    rw [(e3 j u hj).2, this]
    exact fun e => slice_nz e4 (hn y (List.mem_of_getElem? hi)) (by simpa using e)
theorem wts_nz {ok : Addr → Prop} {w : World} {cs : List Value} {ws : List Wt} (h : rSl 2 rWt ok w cs ws) (hn : ∀ x ∈ ws, x.2 ≠ []) : rSl 2 rWt (NZ ok w) w cs ws := by
  obtain ⟨A, cap, h1, h2, h3, h4⟩ := h
  refine ⟨A, cap, h1, h2, h3, fun i y hi => ?_⟩
  obtain ⟨ad, vs, e1, e2, e3, e4⟩ := h4 i y hi
  obtain ⟨v, rfl, b1, b2, hv⟩ := rWt_open e4
  refine ⟨ad, _, e1, e2, fun j u hj => ⟨⟨(e3 j u hj).1, ?_⟩, (e3 j u hj).2⟩, rWt_mk b1 b2 (by_nz hv)⟩
  have := List.mem_of_getElem? hj
  simp only [List.mem_cons, List.not_mem_nil, or_false] at this
  rw [(e3 j u hj).2]
  rcases this with rfl | rfl
  · simp
  · exact fun e => slice_nz hv (hn y (List.mem_of_getElem? hi)) (by simpa using e)
theorem dsk_nz {ok : Addr → Prop} {w : World} {v : Value} {d : Dk} (h : Dsk ok w v d) (h1 : ∀ x ∈ d.1, x ≠ []) (h2 : ∀ x ∈ d.2, x.2 ≠ []) : Dsk (NZ ok w) w v d := by
  obtain ⟨a, b, e, r1, r2⟩ := h
  exact ⟨a, b, e, rows_nz r1 h1, wts_nz r2 h2⟩
theorem full_may {d : Dk} (h : mayB d = true) : (∀ x ∈ d.1, x ≠ []) ∧ (∀ x ∈ d.2, x.2 ≠ []) := by
  obtain ⟨_, _, h1, h2⟩ := may_of h
  refine ⟨fun x hx e => ?_, fun x hx e => ?_⟩
  · obtain ⟨i, hi⟩ := List.getElem?_of_mem hx
    have := h1 i x hi
    rw [e] at this
    cases this
  · obtain ⟨i, hi⟩ := List.getElem?_of_mem hx
    have := (h2 i x hi).2.2
    rw [e] at this
    cases this
end Go.Proofs.YtogieepfimpdmaaGreat

/-
  A store into a box of noughts turns nothing of a store that may be. Conditions: those that each lemma states.
-/
namespace Go.Proofs.YtogieepfimpdmaaGreat
open Go.RowKit

theorem nz_apart {W : World} {g : Nat} {cs : Array Value} {t : TypeId} {p : Addr} {u : Value} (hz : W.heap[g]? = some (.cells cs t (0, 0))) (hcs : ∀ c ∈ cs, c = .slice none 0 0) (hc : W.cell? p = some u) (hn : W.cell? p ≠ some (.slice none 0 0)) : p.block ≠ g := fun e => by
  refine hn ?_
  rw [hc]
  unfold World.cell? at hc
  rw [e, hz] at hc
  dsimp only at hc
  split at hc
  · cases hc
  · obtain ⟨hlt, hu⟩ := Array.getElem?_eq_some_iff.1 hc
    rw [← hu]
    exact congrArg some (hcs _ (Array.getElem_mem hlt))
theorem sto_nz {ok : Addr → Prop} {w : World} {v : Value} {s : Rm} (h : Sto ok w v s) (hd : (∀ x ∈ s.1.1, x ≠ []) ∧ (∀ x ∈ s.1.2, x.2 ≠ [])) : Sto (NZ ok w) w v s := by
  obtain ⟨a, b, n, l, e, h1, h2, h3⟩ := h
  exact ⟨a, b, n, l, e, dsk_nz h1 hd.1 hd.2, by_nz h2, by_nz h3⟩
def FullR (s : Rm) : Prop := (∀ x ∈ s.1.1, x ≠ []) ∧ (∀ x ∈ s.1.2, x.2 ≠ [])
theorem full_rm {s : Rm} (h : mayR s = true) : FullR s := full_may (mayR_of h).1
theorem sto_put_zero {W W9 : World} {g : Nat} {cs : Array Value} {t : TypeId} {v : Value} {s : Rm} (h : Sto (Old W) W v s) (hd : FullR s) (hz : W.heap[g]? = some (.cells cs t (0, 0))) (hcs : ∀ c ∈ cs, c = .slice none 0 0) (hg : W.grownBy W9 (some g)) : Sto (Old W9) W9 v s :=
  (sto_nz h hd).map fun p u hp hc => by
    have hn := nz_apart hz hcs hc hp.2
    exact ⟨Nat.lt_of_lt_of_le hp.1 hg.size, (World.cell?_of_block (hg.block _ hp.1 (by simpa using hn))).trans hc⟩
end Go.Proofs.YtogieepfimpdmaaGreat

/-
  Layer 8: the laws' alive. Conditions: those that each lemma states.
-/
namespace Go.Proofs.YtogieepfimpdmaaGreat
open Go.RowKit

/-- What is free in a new store, and what Take does to it. -/
theorem new_free : (freeL newR).length = 248 ∧ freeL newR = 8 :: 9 :: (freeL newR).drop 2 := by decide +kernel
theorem may_new : mayR newR = true := mayR_mk may_zero may_zeros may_zeros
end Go.Proofs.YtogieepfimpdmaaGreat

/-
  The document's leaf, and package find's held. Conditions: those that each lemma states.
-/
namespace Go.Proofs.YtogieepfimpdmaaGreat
open Go.RowKit

/-- A Ref of a leaf's item, looked up. -/
theorem leaf_ref {s : Rm} {l : List It} {i : Nat} {x : It} {r : Nat} {y : UInt8} (hx : l[i]? = some x) (hr : x.2.1 = (r : Int)) (h0 : r ≠ 0) (hy : s.2.1[r]?.getD 0 = y) : leafO s (l.take (i + 1)) = (leafO s (l.take i) && decide (y ≠ 0)) := by
  rw [leaf_take hx, hr]
  have : ¬ ((r : Nat) : Int) = 0 := by omega
  rw [decide_eq_false this, Bool.false_or, show ((r : Nat) : Int).toNat = r by omega, hy]
theorem leaf_none {s : Rm} {l : List It} {i : Nat} {x : It} (hx : l[i]? = some x) (hr : x.2.1 = 0) : leafO s (l.take (i + 1)) = leafO s (l.take i) := by
  rw [leaf_take hx, hr]
  simp

/-- The first item of a row. -/
theorem its_first {w : World} {A : Option Addr} {n c : Nat} {xs : List It} {s : It} (h : rIts (Old w) w [.slice A n c] xs) (hk : xs[0]? = some s) :
    ∃ ad E ce, A = some ad ∧ InI s ∧ ∀ W, Below w.heap.size w W → At5 W ad s (.slice E s.2.2.length ce) ∧ Itm (Old W) W (itV s (.slice E s.2.2.length ce)) s := by
  obtain ⟨ad, E, ce, e, _, _, h1, F⟩ := its_old h hk
  have e0 : ad.add (0 * 5) = ad := by simp [Addr.add]
  rw [e0] at F
  exact ⟨ad, E, ce, e, h1, F⟩

end Go.Proofs.YtogieepfimpdmaaGreat

/-
  The document's answers of layer 8: Read, Node. Conditions: those that each lemma states.
-/
namespace Go.Proofs.YtogieepfimpdmaaGreat
open Go.RowKit

theorem seen_128 {d : Dk} {k : Nat} (hm : mayB d = true) (hk : k < 256) : (seenD d k).length = 128 := by
  obtain ⟨h1, _, h3, h4⟩ := may_of hm
  unfold seenD
  have e : d.1[k]? = some (d.1[k]'(by omega)) := List.getElem?_eq_getElem _
  refine seenW_length (h3 k _ (by rw [e]; rfl)) fun x hx => ?_
  obtain ⟨i, hi⟩ := List.getElem?_of_mem hx
  exact (h4 i x hi).2.2
end Go.Proofs.YtogieepfimpdmaaGreat

/-
  The document's inner, by its right one level below. Conditions: those that each lemma states.
-/
namespace Go.Proofs.YtogieepfimpdmaaGreat
open Go.RowKit

theorem put_three {W : World} {g : Nat} {a b c a' b' c' : Value} {t : TypeId} (h : W.heap[g]? = some (.cells #[a, b, c] t (0, 0))) : ∃ W1, ((W.setCell ⟨g, 0, none⟩ a').setCell ⟨g, 1, none⟩ b').setCell ⟨g, 2, none⟩ c' = W1 ∧
    W1.heap[g]? = some (.cells #[a', b', c'] t (0, 0)) ∧ W.grownBy W1 (some g) ∧ W1.heap.size = W.heap.size :=
  ⟨_, rfl, by simp [World.setCell, Array.getElem?_modify, h], grow_put (p := ⟨g, 2, none⟩) (grow_put (p := ⟨g, 1, none⟩) (grow_put (p := ⟨g, 0, none⟩) (grow_refl W (some g)) rfl a') rfl b') rfl c', by simp⟩
theorem three_cells {W : World} {g : Nat} {a b c : Value} {t : TypeId} (h : W.heap[g]? = some (.cells #[a, b, c] t (0, 0))) : W.cell? ⟨g, 0, none⟩ = some a ∧ W.cell? ⟨g, 1, none⟩ = some b ∧ W.cell? ⟨g, 2, none⟩ = some c ∧ (∀ o, W.frozen? ⟨g, o, none⟩ = false) ∧ g < W.heap.size :=
  ⟨by simp [World.cell?, h], by simp [World.cell?, h], by simp [World.cell?, h], fun o => by simp [World.frozen?, h], (Array.getElem?_eq_some_iff.1 h).1⟩

end Go.Proofs.YtogieepfimpdmaaGreat

/-
  The document's Tree and Check of layer 10; its Read and package room's Node, opened. Conditions: those that each lemma states.
-/
namespace Go.Proofs.YtogieepfimpdmaaGreat
open Go.RowKit

theorem nodeR_open (v : Value) (s : Rm) (a : Int) (w : World) (h : Sto (Old w) w v s) :
    Calls Tryz.prog 13 #[v, .int .i64 a] w fun e w' => ∃ Z zc, e = .returned (.tuple #[.agg #[.int .i64 (rmV s a).1, .slice Z (rmV s a).2.length zc], .int .i64 (rmE s a)]) ∧ rIts (Old w') w' [.slice Z (rmV s a).2.length zc] (rmV s a).2 ∧
      Nod (New w.heap.size w') w' (.agg #[.int .i64 (rmV s a).1, .slice Z (rmV s a).2.length zc]) (rmV s a) ∧ Below w.heap.size w w' := by
  refine (nodeR_any v s a w h).mono ?_
  rintro e w' ⟨u, rfl, hu, hb'⟩
  have hu2 := hu
  obtain ⟨Z, zc, rfl, _, _, _, hA⟩ := hu.drop.open
  exact ⟨Z, zc, rfl, hA, hu2, hb'⟩

theorem tree_no {s : Rm} {a : Int} (h : rmE s a ≠ 0) : treeO s a = false := by simp [treeO, h]
theorem ck_no {s : Rm} {a : Int} (h : asE s a ≠ 0) : ckE s a = asE s a ∧ ckH s a = 0 := by
  have e : ckE s a = asE s a := by rw [ckE, if_neg h]
  exact ⟨e, by rw [ckH, e, if_neg h]⟩
theorem ck_bad {s : Rm} {a : Int} (h : asE s a = 0) (ht : treeO s a = false) : ckE s a = 8 ∧ ckH s a = 0 := by
  have e : ckE s a = 8 := by rw [ckE, if_pos h, ht]; rfl
  exact ⟨e, by rw [ckH, e, if_neg (by decide)]⟩
theorem ck_ok {s : Rm} {a : Int} (h : asE s a = 0) (ht : treeO s a = true) : ckE s a = 0 ∧ ckH s a = (rmV s a).1 + 1 := by
  have e : ckE s a = 0 := by rw [ckE, if_pos h, ht]; rfl
  exact ⟨e, by rw [ckH, e, if_pos rfl]⟩
theorem ck_of {s : Rm} {a : Int} (h : ckE s a = 0) : treeO s a = true ∧ asE s a = 0 ∧ ckH s a = (rmV s a).1 + 1 := by
  by_cases ha : asE s a = 0
  · cases ht : treeO s a with
    | false => rw [(ck_bad ha ht).1] at h; cases h
    | true => exact ⟨rfl, ha, (ck_ok ha ht).2⟩
  · rw [(ck_no ha).1] at h
    exact absurd h ha

end Go.Proofs.YtogieepfimpdmaaGreat

/-
  The document's One: what is found of a key. Conditions: those that each lemma states.
-/
namespace Go.Proofs.YtogieepfimpdmaaGreat
open Go.RowKit

/-- An item of a row in new memory, in every later world. -/
theorem its_new {lo : Nat} {w : World} {A : Option Addr} {n c k : Nat} {xs : List It} {s : It} (h : rIts (New lo w) w [.slice A n c] xs) (hk : xs[k]? = some s) :
    ∃ ad E ce, A = some ad ∧ InI s ∧ ∀ W, Below w.heap.size w W → At5 W (ad.add (k * 5)) s (.slice E s.2.2.length ce) ∧ Itm (New lo W) W (itV s (.slice E s.2.2.length ce)) s := by
  obtain ⟨ad, E, ce, rfl, _, h5, hi, _, _, hin⟩ := its_at h hk
  exact ⟨ad, E, ce, rfl, hin, fun W hW => ⟨h5.below hW, hi.new (Nat.le_refl _) hW⟩⟩
def NewIs (lo : Nat) (v : Value) (l : List It) : World → Prop := fun w => rIts (New lo w) w [v] l
theorem lasts_newIs (lo : Nat) (v : Value) (l : List It) : Lasts (NewIs lo v l) := fun _ _ h hb => stab_its.new h (Nat.le_refl _) hb
/-- A box of five cells, whole. -/
def BoxW (g : Nat) (cs : Array Value) (t : TypeId) : World → Prop := fun w => w.heap[g]? = some (.cells cs t (0, 0))
theorem lasts_boxW (g : Nat) (cs : Array Value) (t : TypeId) : Lasts (BoxW g cs t) := fun _ _ h hb => (hb.block g (Array.getElem?_eq_some_iff.1 h).1).trans h

end Go.Proofs.YtogieepfimpdmaaGreat

/-
  Rows of items appended to one another, and their rests. Conditions: those that each lemma states.
-/
namespace Go.Proofs.YtogieepfimpdmaaGreat
open Go.RowKit

/-- What is left of a row. -/
theorem its_rest {ok : Addr → Prop} {w : World} {ad : Addr} {n c : Nat} {b : List It} (h : rIts ok w [.slice (some ad) n c] b) (k : Nat) (hk : k ≤ b.length) : rIts ok w [.slice (some (ad.add (k * 5))) (n - k) (c - k)] (b.drop k) := by
  obtain ⟨A, cap, e, h2, h3, h4⟩ := h
  cases e
  refine ⟨some (ad.add (k * 5)), c - k, by rw [List.length_drop], by rw [List.length_drop]; omega, by omega, fun i x hi => ?_⟩
  rw [List.getElem?_drop] at hi
  obtain ⟨ad', vs, e1, e2, e3, e4⟩ := h4 (k + i) x hi
  cases e1
  refine ⟨ad.add (k * 5), vs, rfl, e2, fun j v hj => ?_, e4⟩
  have := e3 j v hj
  rw [add_add', show k * 5 + (i * 5 + j) = (k + i) * 5 + j by omega]
  exact this
end Go.Proofs.YtogieepfimpdmaaGreat

/-
  Package put: stepOf, checkItem, nodes; a step's new items. Conditions: those that each lemma states.
-/
namespace Go.Proofs.YtogieepfimpdmaaGreat
open Go.RowKit

/-- Where a key's way goes on, and whether instead of what is there. -/
noncomputable def stpN (n : Nd) (k : Ky) : Nat × Bool := if n.1 = 0 then (placeN n k, thereN n k) else (wayN n k, true)

set_option maxRecDepth 100000 in
set_option maxHeartbeats 4000000 in
theorem stepOf_any (A : Option Addr) (c : Nat) (n : Nd) (k : Ky) (w : World) (h : Nod (Old w) w (.agg #[.int .i64 n.1, .slice A n.2.length c]) n) :
    Calls Tryz.prog 44 #[.agg #[.int .i64 n.1, .slice A n.2.length c], kyV k] w fun e w' => e = .returned (.agg #[.int .i64 n.1, .slice A n.2.length c, .int .i64 ((stpN n k).1 : Nat), .bool (stpN n k).2]) ∧ Below w.heap.size w w' := by
  obtain ⟨w1, hw1, b1, hs1, hB1⟩ := box_pair' w (.int .i64 n.1) (.slice A n.2.length c) 45
  obtain ⟨w2, hw2, -, -, -, hs2, hB2, b2⟩ := box_three w1 (.int .u8 (k.1.toNat : Int)) (.int .u32 k.2.1) (.int .u32 k.2.2) 37
  obtain ⟨w3, hw3, b3, hs3, hB3⟩ := box_4 w2 (.int .i64 0) (.slice none 0 0) (.int .i64 0) (.bool false) 94
  have B3 := Lib.hid (hB1.trans ((hB2.trans (hB3.mono hB2.size)).mono hB1.size))
  have hb1 := (hB3.block w.heap.size (by omega)).trans ((hB2.block w.heap.size (by omega)).trans b1)
  have hb2 := (hB3.block w1.heap.size (by omega)).trans b2
  have hP := Lib.hid (fun W hW => nodePlace_any _ n k W (h.below hW))
  obtain ⟨p, hp⟩ : ∃ p, placeN n k = p := ⟨_, rfl⟩
  obtain ⟨t, ht⟩ : ∃ t, thereN n k = t := ⟨_, rfl⟩
  obtain ⟨lv, hlv⟩ : ∃ q, n.1 = q := ⟨_, rfl⟩
  obtain ⟨len, hlen⟩ : ∃ q, n.2.length = q := ⟨_, rfl⟩
  have hpl := placeN_le n k
  have hst : Hid (stpN n k = if lv = 0 then (p, t) else (if t = true then p else p - 1, true)) := Lib.hid (by unfold stpN wayN; rw [hlv, hp, ht])
  have hcl : c ≤ 9223372036854775807 ∧ n.2.length ≤ c := by
    obtain ⟨A', c', e, _, h1, h2, _⟩ := h.open
    cases e
    exact ⟨h2, h1⟩
  rw [hp] at hpl hP
  rw [ht] at hP
  rw [hlen] at hpl hcl hP b1 hb1 hw1 ⊢
  rw [hlv] at hP b1 hb1 hw1 ⊢
  have G3 := Lib.hid b3
  have S := Lib.hid (show w.heap.size < w3.heap.size ∧ w1.heap.size < w3.heap.size ∧ w2.heap.size < w3.heap.size ∧ w.heap.size ≤ w2.heap.size from ⟨by omega, by omega, by omega, by omega⟩)
  replace hp := Lib.hid hp
  replace ht := Lib.hid ht
  replace hlv := Lib.hid hlv
  replace hlen := Lib.hid hlen
  replace hs1 := Lib.hid hs1
  replace hs2 := Lib.hid hs2
  replace hs3 := Lib.hid hs3
  obtain ⟨p0, p1, _, _⟩ := two_cells hb1
  obtain ⟨q0, q1, q2, _⟩ := three_cells hb2
  have G1 := Lib.hid hb1
  clear h hB1 hB2 hB3 b1 b2 b3 hb1 hb2
  unfold kyV
  go_enter Tryz.func44, Tryz.ntmps44
  go_upto_region 1 with fail
  clear hw1 hw2 hw3
  go_wp2_with fail
  with_reducible refine (hP.out _ B3.out).mono ?_
  rintro e w4 ⟨rfl, hb4⟩
  have g3 := (hb4.block w2.heap.size S.out.2.2.1).trans G3.out
  have g1 := (hb4.block w.heap.size S.out.1).trans G1.out
  have B4 := Lib.hid (B3.out.trans (hb4.mono B3.out.size))
  have hfin : Hid (∀ (x : Nat) (y : Bool), stpN n k = (x, y) → ∃ W9, (((w4.setCell ⟨w2.heap.size, 0, none⟩ (.int .i64 lv)).setCell ⟨w2.heap.size, 1, none⟩ (.slice A len c)).setCell ⟨w2.heap.size, 2, none⟩ (.int .i64 (x : Int))).setCell ⟨w2.heap.size, 3, none⟩ (.bool y) = W9 ∧
      W9.cell? ⟨w2.heap.size, 0, none⟩ = some (.int .i64 lv) ∧ W9.cell? ⟨w2.heap.size, 1, none⟩ = some (.slice A len c) ∧ W9.cell? ⟨w2.heap.size, 2, none⟩ = some (.int .i64 (x : Int)) ∧ W9.cell? ⟨w2.heap.size, 3, none⟩ = some (.bool y) ∧
      (Ending.returned (.agg #[.int .i64 lv, .slice A len c, .int .i64 (x : Int), .bool y]) = .returned (.agg #[.int .i64 lv, .slice A len c, .int .i64 ((stpN n k).1 : Nat), .bool (stpN n k).2]) ∧ Below w.heap.size w W9)) := Lib.hid fun x y he => by
    obtain ⟨W9, e9, g9, gr9, _⟩ := put_four (a' := .int .i64 lv) (b' := .slice A len c) (c' := .int .i64 (x : Int)) (d' := .bool y) g3
    obtain ⟨k0, k1, k2, k3, _⟩ := four_cells g9
    exact ⟨W9, e9, k0, k1, k2, k3, by rw [he], B4.out.grown gr9 B4.out.size fun q e => by cases e; exact S.out.2.2.2⟩
  obtain ⟨m0, m1, _, _⟩ := two_cells g1
  obtain ⟨r0, r1, r2, r3, rf, _⟩ := four_cells g3
  clear p0 p1 q0 q1 q2 hb4 g3 g1
  have hcl1 := hcl.1
  have hcl2 := hcl.2
  clear hcl
  by_cases h0 : lv = 0
  · subst h0
    obtain ⟨W9, e9, k0, k1, k2, k3, hf⟩ := hfin.out p t (by rw [hst.out, if_pos rfl])
    replace hf := Lib.hid hf
    replace e9 := Lib.hid e9
    clear hfin hst
    go_wp2_with fail
    rw [e9.out]
    exact bodyPost_ret (v := .agg #[.int .i64 0, .slice A len c, .int .i64 (p : Int), .bool t]) (by simp [results, Tryz.results44, go_sem, k0, k1, k2, k3]) rfl hf.out
  · have h0' : (lv == 0) = false := by simpa using h0
    cases t with
    | true =>
      obtain ⟨W9, e9, k0, k1, k2, k3, hf⟩ := hfin.out p true (by rw [hst.out, if_neg h0, if_pos rfl])
      replace hf := Lib.hid hf
      replace e9 := Lib.hid e9
      clear hfin hst h0
      go_wp2_with fail
      rw [e9.out]
      exact bodyPost_ret (v := .agg #[.int .i64 lv, .slice A len c, .int .i64 (p : Int), .bool true]) (by simp [results, Tryz.results44, go_sem, k0, k1, k2, k3]) rfl hf.out
    | false =>
      have hwr : IntKind.i64.wrap ((p : Int) - 1) = (p : Int) - 1 := by rw [IntKind.wrap_i64]; omega
      by_cases hp0 : p = 0
      · obtain ⟨W9, e9, k0, k1, k2, k3, hf⟩ := hfin.out 0 true (by rw [hst.out, if_neg h0, if_neg (by decide), hp0])
        subst hp0
        replace hf := Lib.hid hf
        replace e9 := Lib.hid e9
        clear hfin hst h0
        go_wp2_with fail
        refine Eq.mpr (congrArg _ e9.out) ?_
        exact bodyPost_ret (v := .agg #[.int .i64 lv, .slice A len c, .int .i64 (0 : Nat), .bool true]) (by simp [results, Tryz.results44, go_sem, k0, k1, k2, k3]) rfl hf.out
      · obtain ⟨W9, e9, k0, k1, k2, k3, hf⟩ := hfin.out (p - 1) true (by rw [hst.out, if_neg h0, if_neg (by decide)])
        have hp1 : ((p - 1 : Nat) : Int) = (p : Int) - 1 := by omega
        have hp2 : (0 : Int) ≤ (p : Int) - 1 := by omega
        rw [hp1] at e9 k2 hf
        replace hf := Lib.hid hf
        replace e9 := Lib.hid e9
        clear hfin hst h0 hp1
        go_wp2_with fail
        refine Eq.mpr (congrArg _ e9.out) ?_
        exact bodyPost_ret (v := .agg #[.int .i64 lv, .slice A len c, .int .i64 ((p : Int) - 1), .bool true]) (by simp [results, Tryz.results44, go_sem, k0, k1, k2, k3]) rfl hf.out

/-- What is wrong with an item that is to be put in. -/
def citE (s : Rm) (x : It) : Int := if mayI x then if x.2.1 ≠ 0 ∧ s.2.1[x.2.1.toNat]?.getD 0 = 0 then 6 else 0 else 8

set_option maxRecDepth 100000 in
set_option maxHeartbeats 4000000 in
theorem checkItem_any (v u : Value) (s : Rm) (x : It) (w : World) (hm : mayR s = true) (h : Sto (Old w) w v s) (hu : Itm (Old w) w u x) :
    Calls Tryz.prog 24 #[v, u] w fun e w' => e = .returned (.int .i64 (citE s x)) ∧ Below w.heap.size w w' := by
  obtain ⟨A, ca, B, cb, N, cn, L, cl, rfl, _⟩ := id h.open
  obtain ⟨D, dc, rfl, _, _, _, _⟩ := id hu.open
  obtain ⟨w1, hw1, b1, hs1, hB1⟩ := box_4 w (.slice A s.1.1.length ca) (.slice B s.1.2.length cb) (.slice N s.2.1.length cn) (.slice L s.2.2.length cl) 29
  obtain ⟨w2, hw2, -, -, -, -, -, hs2, hB2, b2⟩ := box_five w1 (.int .u8 (x.1.1.toNat : Int)) (.int .u32 x.1.2.1) (.int .u32 x.1.2.2) (.int .i64 x.2.1) (.slice D x.2.2.length dc) 40
  have hb1 := (hB2.block w.heap.size (by omega)).trans b1
  have B2 := Lib.hid (hB1.trans (hB2.mono hB1.size))
  have hC := Lib.hid (checkI_any _ x w2 (hu.map fun p v hp hc => ⟨Nat.lt_of_lt_of_le hp B2.out.size, (B2.out.cell hp).trans hc⟩))
  have HS := Lib.hid (h.below B2.out)
  have hl := mayT_len (mayR_of hm).2.1
  have hcit : Hid (citE s x = if mayI x then if x.2.1 ≠ 0 ∧ s.2.1[x.2.1.toNat]?.getD 0 = 0 then 6 else 0 else 8) := Lib.hid rfl
  have hmw : mayI x = true → x.2.1 = 0 ∨ ∃ k : Nat, x.2.1 = k ∧ 8 ≤ k ∧ k < 256 := fun h => by
    rcases (mayI_of h).1 with e | e
    · exact .inl e
    · exact .inr ⟨x.2.1.toNat, by omega, by omega, by omega⟩
  obtain ⟨z, hz⟩ : ∃ z, x.2.1 = z := ⟨_, rfl⟩
  obtain ⟨ev, hev⟩ : ∃ q, chkI x = q := ⟨_, rfl⟩
  rw [hl] at b1 hb1 hw1 HS ⊢
  rw [hz] at hw2 b2 hcit hmw
  unfold itV at hC
  rw [hz] at hC
  rw [hev] at hC
  change Calls _ _ #[_, .agg #[.int .u8 (x.1.1.toNat : Int), .int .u32 x.1.2.1, .int .u32 x.1.2.2, .int .i64 x.2.1, .slice D x.2.2.length dc]] _ _
  rw [hz]
  replace hz := Lib.hid hz
  replace hl := Lib.hid hl
  replace hs1 := Lib.hid hs1
  replace hs2 := Lib.hid hs2
  obtain ⟨p0, p1, p2, p3, _⟩ := four_cells hb1
  obtain ⟨q0, q1, q2, q3, q4, _⟩ := five_cells b2
  have G1 := Lib.hid hb1
  have G2 := Lib.hid b2
  have S := Lib.hid (show w.heap.size < w2.heap.size ∧ w1.heap.size < w2.heap.size from ⟨by have := hs1.out; have := hs2.out; omega, by have := hs2.out; omega⟩)
  clear h hu hB1 hB2 b1 b2 hb1
  go_enter Tryz.func24, Tryz.ntmps24
  go_upto_region 1 with fail
  clear hw1 hw2
  go_wp2_with fail
  with_reducible refine (hC.out).mono ?_
  rintro e w3 ⟨rfl, hb3⟩
  have g1 := (hb3.block w.heap.size S.out.1).trans G1.out
  have g2 := (hb3.block w1.heap.size S.out.2).trans G2.out
  have B3 := Lib.hid (B2.out.trans (hb3.mono B2.out.size))
  have H3 := Lib.hid (HS.out.below hb3)
  obtain ⟨p0, p1, p2, p3, _⟩ := four_cells g1
  obtain ⟨q0, q1, q2, q3, q4, _⟩ := five_cells g2
  clear hb3 g1 g2 hC
  rcases bool_two (mayI x) with hb | hb
  · have he8 : ev = 8 := by rw [← hev]; simp [chkI, hb]
    subst he8
    have hr := Lib.hid (show citE s x = 8 by rw [hcit.out, hb]; rfl)
    replace hev := Lib.hid hev
    replace hb := Lib.hid hb
    clear hmw
    go_wp2_with fail
    go_ret
    exact ⟨ret_int hr.out.symm, B3.out⟩
  have he0 : ev = 0 := by rw [← hev]; simp [chkI, hb]
  subst he0
  have hw := hmw hb
  rw [hb, if_pos rfl] at hcit
  replace hev := Lib.hid hev
  replace hb := Lib.hid hb
  clear hmw
  rcases hw with h0 | ⟨k, hk, h8, h256⟩
  · subst h0
    have hr := Lib.hid (show citE s x = 0 by rw [hcit.out, if_neg (by simp)])
    clear hcit
    go_wp2_with fail
    go_ret
    exact ⟨ret_int hr.out.symm, B3.out⟩
  · subst hk
    have j0 : ((k : Int) != 0) = true := by simp; omega
    have i1 : (0 : Int) ≤ (k : Int) := by omega
    have i2 : (k : Int) < 256 := by omega
    obtain ⟨A2, c2, e2, n1, n2, hc2⟩ := rBy_open H3.out.parts.2.1
    rw [hl.out] at e2 hc2
    cases e2
    obtain ⟨ad, rfl, _, hck⟩ := hc2 k h256
    obtain ⟨y, hy⟩ : ∃ y, s.2.1[k]?.getD 0 = y := ⟨_, rfl⟩
    rw [hy] at hck
    rw [Int.toNat_natCast, hy] at hcit
    replace hy := Lib.hid hy
    clear hc2 n1 n2
    by_cases hy0 : y = 0
    · have t1 := byte_same (y := 0) (q := 0) rfl hy0
      have hr := Lib.hid (show citE s x = 6 by rw [hcit.out, if_pos ⟨by omega, hy0⟩])
      replace hy0 := Lib.hid hy0
      clear hcit
      go_wp2_with fail
      go_ret
      exact ⟨ret_int hr.out.symm, B3.out⟩
    · have t1 := byte_unlike (y := 0) (q := 0) rfl hy0
      have hr := Lib.hid (show citE s x = 0 by rw [hcit.out, if_neg (fun h => hy0 h.2)])
      replace hy0 := Lib.hid hy0
      clear hcit
      go_wp2_with fail
      go_ret
      exact ⟨ret_int hr.out.symm, B3.out⟩

/-- Where the items of one node are, or those of two: a row of rows. -/
def NodesV (w : World) (A : Option Addr) (n c : Nat) (e : Ending) (w' : World) : Prop := Below w.heap.size w w' ∧
  ((n ≤ 5 ∧ e = .returned (.slice (some ⟨w.heap.size, 0, none⟩) 1 1) ∧ w'.heap[w.heap.size]? = some (.cells #[.slice A n c] 43 (0, 0))) ∨
   (5 < n ∧ ∃ ad, A = some ad ∧ e = .returned (.slice (some ⟨w.heap.size, 0, none⟩) 2 2) ∧ w'.heap[w.heap.size]? = some (.cells #[.slice (some ad) 3 c, .slice (some (ad.add (3 * 5))) (n - 3) (c - 3)] 43 (0, 0))))

set_option maxRecDepth 100000 in
set_option maxHeartbeats 4000000 in
theorem nodes_any (A : Option Addr) (n c : Nat) (w : World) (hn : n ≤ c) (hc : c ≤ 9223372036854775807) (hA : 0 < n → ∃ ad, A = some ad) : Calls Tryz.prog 68 #[.slice A n c] w (NodesV w A n c) := by
  by_cases h5 : n ≤ 5
  · have i5 : (n : Int) ≤ 5 := by omega
    go_enter Tryz.func68, Tryz.ntmps68
    go_wp2_with fail
    go_ret
    exact ⟨(Below.refl _ w).alloc (Nat.le_refl _) _, .inl ⟨h5, rfl, heap_alloc_new w _⟩⟩
  · have i5 : ¬ ((n : Int) ≤ 5) := by omega
    obtain ⟨ad, rfl⟩ := hA (by omega)
    have i6 : (3 : Int) ≤ (c : Int) := by omega
    have i7 : (3 : Int) ≤ (n : Int) := by omega
    have i8 : ¬ c = 3 := by omega
    go_enter Tryz.func68, Tryz.ntmps68
    go_wp2_with fail
    go_still_tail 4, (by kernel_rfl)
    go_wp2_with fail
    go_ret
    exact ⟨((Below.refl _ w).drew).alloc (Nat.le_refl _) _, .inr ⟨by omega, ad, rfl, rfl, heap_alloc_new w.drew _⟩⟩
end Go.Proofs.YtogieepfimpdmaaGreat

/-
  Package put: a step's new items; rows of items as cells, and read again. Conditions: those that each lemma states.
-/
namespace Go.Proofs.YtogieepfimpdmaaGreat
open Go.RowKit

theorem InsP.low {lo : Nat} {w w1 : World} {A : Option Addr} {L : List Iv} {e : Ending} {w' : World} (h : InsP lo w1 A L e w') (hg : w.grownBy w1 (A.map (·.block))) : InsP lo w A L e w' := by
  obtain ⟨A', c', h1, h2, h3⟩ := h
  exact ⟨A', c', h1, h2, grow_trans hg h3⟩

set_option maxRecDepth 100000 in
set_option maxHeartbeats 4000000 in
theorem stepItems_any (A : Option Addr) (lo lf n c fb m fc i : Nat) (lv : Int) (b : Bool) (ps qs : List Iv) (w : World) (h : w.ownsRow lo 40 5 (.slice A n c) n (cells5 ps)) (hf : w.ownsRow lf 40 5 (.slice (some ⟨fb, 0, none⟩) m fc) m (cells5 qs))
    (hne : A.map (·.block) ≠ some fb) (hi : i + (if b = true then 1 else 0) ≤ n) (hm : 0 < m) (hbig : n + m ≤ 1000) (hp1 : ∀ p ∈ ps, p.2.oneCell' = true) (hq1 : ∀ p ∈ qs, p.2.oneCell' = true) (hlo : lo ≤ w.heap.size) :
    Calls Tryz.prog 47 #[.agg #[.int .i64 lv, .slice A n c, .int .i64 i, .bool b], .slice (some ⟨fb, 0, none⟩) m fc] w fun e w' => InsP lo w A (ps.take i ++ (qs ++ ps.drop (i + if b = true then 1 else 0))) e w' ∧ w.heap.size < w'.heap.size := by
  obtain ⟨w1, hw1, b1, hs1, hB1⟩ := box_4 w (.int .i64 lv) (.slice A n c) (.int .i64 i) (.bool b) 94
  have h1 := own_below h hB1
  have hf1 := own_below hf hB1
  have hlow := Lib.hid (fun L e w' (hh : InsP lo w1 A L e w') => (⟨hh.low (w := w) (hw1 ▸ World.grownBy_alloc w _ _), by obtain ⟨_, _, _, _, hg⟩ := hh; have := hg.size; omega⟩ : InsP lo w A L e w' ∧ w.heap.size < w'.heap.size))
  obtain ⟨p0, p1, p2, p3, _⟩ := four_cells b1
  have hwr : IntKind.i64.wrap ((i : Int) + 1) = (i : Int) + 1 := by rw [IntKind.wrap_i64]; split at hi <;> omega
  cases b with
  | true =>
    have hR := replace_any A lo lf n c fb m fc i (i + 1) ps qs w1 h1 hf1 hne rfl hi hm hbig hp1 hq1 (by omega)
    rw [show ((i + 1 : Nat) : Int) = (i : Int) + 1 by omega] at hR
    rw [if_pos rfl]
    obtain ⟨L, hL⟩ : ∃ L, ps.take i ++ (qs ++ ps.drop (i + 1)) = L := ⟨_, rfl⟩
    rw [hL] at hR ⊢
    replace hL := Lib.hid hL
    have HR := Lib.hid hR
    clear h hf h1 hf1 hR hp1 hq1 hne hB1 b1 hs1 hi
    go_enter Tryz.func47, Tryz.ntmps47
    go_upto_region 1 with fail
    clear hw1
    go_wp2_with fail
    with_reducible refine (HR.out).mono ?_
    intro e w2 hh
    have H2 := Lib.hid (hlow.out _ _ _ hh)
    obtain ⟨A', c', rfl, _⟩ := hh
    go_wp2_with fail
    go_ret
    exact H2.out
  | false =>
    have hR := insert_any A lo lf n c fb m fc i ps qs w1 h1 hf1 hne (by simpa using hi) hm hbig hp1 hq1 (by omega)
    rw [if_neg (by decide), Nat.add_zero]
    obtain ⟨L, hL⟩ : ∃ L, ps.take i ++ (qs ++ ps.drop i) = L := ⟨_, rfl⟩
    rw [hL] at hR ⊢
    replace hL := Lib.hid hL
    have HR := Lib.hid hR
    clear h hf h1 hf1 hR hp1 hq1 hne hB1 b1 hs1 hi
    go_enter Tryz.func47, Tryz.ntmps47
    go_upto_region 1 with fail
    clear hw1
    go_wp2_with fail
    with_reducible refine (HR.out).mono ?_
    intro e w2 hh
    have H2 := Lib.hid (hlow.out _ _ _ hh)
    obtain ⟨A', c', rfl, _⟩ := hh
    go_wp2_with fail
    go_ret
    exact H2.out

/-- A row of items of the call's own, told to the cell. -/
theorem rowOf_cells {lo : Nat} {w : World} {A : Option Addr} {c : Nat} {xs : List It} (h : RowOf rIt 5 40 lo w A c xs) : ∃ ps : List Iv, ps.map (·.1) = xs ∧ w.ownsRow lo 40 5 (.slice A xs.length c) xs.length (cells5 ps) ∧ ∀ p ∈ ps, InI p.1 ∧ rBy (NewBut lo A w) w [p.2] p.1.2.2 := by
  obtain ⟨cs, ho, hcs⟩ := h
  obtain ⟨ps, hl, hps⟩ := list_of (n := xs.length) (p := fun i (p : Iv) => xs[i]? = some p.1 ∧ (∀ j u, (cell5 p)[j]? = some u → cs[i * 5 + j]? = some u) ∧ InI p.1 ∧ rBy (NewBut lo A w) w [p.2] p.1.2.2) (fun i hi => by
    have hx : xs[i]? = some xs[i] := List.getElem?_eq_getElem hi
    obtain ⟨vs, e5, hc, r⟩ := hcs i _ hx
    obtain ⟨d, rfl, hin, hd⟩ := rIt_open r
    exact ⟨(xs[i], d), hx, hc, hin, hd⟩)
  have hmap : ps.map (·.1) = xs := by
    apply List.ext_getElem?
    intro i
    rw [List.getElem?_map]
    cases e : ps[i]? with
    | none =>
      have : xs.length ≤ i := by rw [← hl]; exact List.getElem?_eq_none_iff.1 e
      rw [List.getElem?_eq_none this]
      rfl
    | some p => exact (hps i p e).1.symm
  have hcell : cs = cells5 ps := by
    apply List.ext_getElem?
    intro j
    rcases Nat.lt_or_ge j (xs.length * 5) with hj | hj
    · obtain ⟨p, hp⟩ : ∃ p, ps[j / 5]? = some p := ⟨_, List.getElem?_eq_getElem (by omega)⟩
      obtain ⟨u, hu⟩ : ∃ u, (cell5 p)[j % 5]? = some u := ⟨_, List.getElem?_eq_getElem (by show j % 5 < 5; omega)⟩
      have h1 := cells5_at hp _ _ hu
      have h2 := (hps _ p hp).2.1 _ _ hu
      rw [show j / 5 * 5 + j % 5 = j by omega] at h1 h2
      rw [h1, h2]
    · rw [List.getElem?_eq_none (by rw [ho.1]; exact hj), List.getElem?_eq_none (by rw [cells5_length, hl]; exact hj)]
  exact ⟨ps, hmap, hcell ▸ ho, fun p hp => by
    obtain ⟨i, hi⟩ := List.mem_iff_getElem?.1 hp
    exact (hps i p hi).2.2⟩
/-- .. and read. -/
theorem its_of5 {lo n c : Nat} {w : World} {A : Option Addr} {ps : List Iv} (h : w.ownsRow lo 40 5 (.slice A n c) n (cells5 ps)) (hp : ∀ p ∈ ps, InI p.1 ∧ rBy (Old w) w [p.2] p.1.2.2) : rIts (Old w) w [.slice A n c] (ps.map (·.1)) := by
  have hl := iv_len5 h
  refine own_sl_ok (fun p _ hn => hn.2.1) h (by rw [List.length_map]; exact hl) fun i x hi => ?_
  rw [List.getElem?_map] at hi
  obtain ⟨p, hp', rfl⟩ := Option.map_eq_some_iff.1 hi
  obtain ⟨h1, h2⟩ := hp p (List.mem_of_getElem? hp')
  exact ⟨cell5 p, rfl, fun j u hj => cells5_at hp' j u hj, rIt_mk h1 h2⟩
theorem ivs_one {ok : Addr → Prop} {w : World} {ps : List Iv} (h : ∀ p ∈ ps, InI p.1 ∧ rBy ok w [p.2] p.1.2.2) : ∀ p ∈ ps, p.2.oneCell' = true := fun p hp => iv_one (h p hp).2
end Go.Proofs.YtogieepfimpdmaaGreat

/-
  What is left, as a stack that is gone through; plain. Conditions: those that each lemma states.
-/
namespace Go.Proofs.YtogieepfimpdmaaGreat
open Go.RowKit

/-- A reference that goes: the block, and of which level the node there has to be (-1: none is read; 6: any). -/
abbrev Rf := Int × Int
def Rfd (x : Rf) : Prop := 8 ≤ x.1 ∧ x.1 < 256 ∧ -1 ≤ x.2 ∧ x.2 ≤ 6
noncomputable def wkF (d : Dk) (lv : Int) (t : List UInt8) (a : Nat) : Option (List UInt8) := if lv = 6 then lfO d t a else lvF d (lv + 1).toNat t a
noncomputable def runT (d : Dk) : List UInt8 → List Rf → Option (List UInt8)
  | t, [] => some t
  | t, x :: l => (wkF d x.2 t x.1.toNat).bind fun u => runT d u l
theorem runT_app (d : Dk) : ∀ (a b : List Rf) (t : List UInt8), runT d t (a ++ b) = (runT d t a).bind fun u => runT d u b
  | [], b, t => rfl
  | x :: a, b, t => by
    simp only [List.cons_append, runT]
    cases wkF d x.2 t x.1.toNat with
    | none => rfl
    | some u => exact runT_app d a b u
/-- The references of items, in order. -/
def rfsL (lv : Int) (l : List It) : List Rf := (l.filter fun x => decide (x.2.1 ≠ 0)).map fun x => (x.2.1, lv)
def rfsT (n : Nd) : List Rf := rfsL (n.1 - 1) n.2
theorem rfsL_nil (lv : Int) : rfsL lv [] = [] := rfl
theorem rfsL_zero {lv : Int} {x : It} {l : List It} (h : x.2.1 = 0) : rfsL lv (x :: l) = rfsL lv l := by simp [rfsL, h]
theorem rfsL_more {lv : Int} {x : It} {l : List It} (h : x.2.1 ≠ 0) : rfsL lv (x :: l) = (x.2.1, lv) :: rfsL lv l := by simp [rfsL, h]
theorem rfsL_app (lv : Int) (a b : List It) : rfsL lv (a ++ b) = rfsL lv a ++ rfsL lv b := by simp [rfsL]
theorem rfsL_len (lv : Int) (l : List It) : (rfsL lv l).length ≤ l.length := by
  rw [rfsL, List.length_map]
  exact List.length_filter_le _ _
theorem rfsL_ok {lv : Int} (h1 : -1 ≤ lv) (h6 : lv ≤ 6) : ∀ {l : List It}, refsOk l → ∀ x ∈ rfsL lv l, Rfd x
  | [], _, x, hx => by simp [rfsL] at hx
  | y :: l, h, x, hx => by
    obtain ⟨r1, r2⟩ := refs_cons h
    rcases r1 with r1 | ⟨k, r1, r8, r256⟩
    · rw [rfsL_zero r1] at hx
      exact rfsL_ok h1 h6 r2 x hx
    · rw [rfsL_more (by omega)] at hx
      rcases List.mem_cons.1 hx with rfl | hx
      · exact ⟨by show 8 ≤ y.2.1; omega, by show y.2.1 < 256; omega, h1, h6⟩
      · exact rfsL_ok h1 h6 r2 x hx
theorem each_run (d : Dk) {k : Nat} (hk : k ≤ 6) : ∀ (l : List It) (t : List UInt8), eachO (lvF d k) t l = runT d t (rfsL ((k : Int) - 1) l)
  | [], t => rfl
  | x :: l, t => by
    unfold eachO
    by_cases h : x.2.1 = 0
    · rw [if_pos h, rfsL_zero h]
      exact each_run d hk l t
    · rw [if_neg h, rfsL_more h]
      have e : wkF d ((k : Int) - 1) t x.2.1.toNat = lvF d k t x.2.1.toNat := by
        rw [wkF, if_neg (by omega), show ((k : Int) - 1 + 1).toNat = k by omega]
      show (lvF d k t x.2.1.toNat).bind _ = (wkF d ((k : Int) - 1) t x.2.1.toNat).bind _
      rw [e]
      cases lvF d k t x.2.1.toNat with
      | none => rfl
      | some u => exact each_run d hk l u
theorem wk_none {d : Dk} {lv : Int} {t : List UInt8} {a : Nat} (h : t[a]?.getD 0 = 0) : wkF d lv t a = none := by
  have hd : dnO t a = none := by rw [dnO, if_pos h]
  unfold wkF
  split
  · rw [lfO, hd]; rfl
  · cases (lv + 1).toNat with
    | zero => exact hd
    | succ l =>
      show lvS d l (lvF d l) t a = none
      rw [lvS, hd]; rfl
theorem one_less {x : UInt8} (h : x ≠ 0) : x - 1 ≠ 0 ↔ 1 < x.toNat := by
  have h1 := dn_nat h
  refine ⟨fun e => ?_, fun e e0 => ?_⟩
  · have : (x - 1).toNat ≠ 0 := fun e' => e (nat_zero.1 e')
    omega
  · have := nat_zero.2 e0
    omega
/-- Whether it is read what is there. -/
def Rdn (d : Dk) (lv : Int) (a : Nat) : Prop := reN (seenD d a) = 0 ∧ (lv = 6 ∨ (reV (seenD d a)).1 = lv)
theorem wk_ways {d : Dk} {lv : Int} {t : List UInt8} {a : Nat} (h1 : -1 ≤ lv) (h6 : lv ≤ 6) (h : t[a]?.getD 0 ≠ 0) :
    ((t[a]?.getD 0 - 1 ≠ 0 ∨ lv = -1) ∧ wkF d lv t a = some (t.set a (t[a]?.getD 0 - 1))) ∨
    (t[a]?.getD 0 - 1 = 0 ∧ lv ≠ -1 ∧ ¬ Rdn d lv a ∧ wkF d lv t a = none) ∨
    (t[a]?.getD 0 - 1 = 0 ∧ lv ≠ -1 ∧ Rdn d lv a ∧ wkF d lv t a = runT d (t.set a (t[a]?.getD 0 - 1)) (rfsT (reV (seenD d a)))) := by
  have hd := dnO_yes h
  have hlow : reN (seenD d a) = 0 → 0 ≤ (reV (seenD d a)).1 ∧ (reV (seenD d a)).1 < 6 := fun hr => by
    obtain ⟨⟨s1, s2, _⟩, _⟩ := mayN_of (blkN_read hr).1
    exact ⟨s1, s2⟩
  by_cases hc : t[a]?.getD 0 - 1 = 0
  case neg =>
    refine .inl ⟨.inl hc, ?_⟩
    have hm := (one_less h).1 hc
    unfold wkF
    split
    · rw [lfO, hd]
      show (if 1 < (t[a]?.getD 0).toNat then _ else _) = _
      rw [if_pos hm]
    · exact lvF_many d _ t a hm
  have hm : ¬ 1 < (t[a]?.getD 0).toNat := fun e => (one_less h).2 e hc
  by_cases hl : lv = -1
  · refine .inl ⟨.inr hl, ?_⟩
    subst hl
    exact hd
  right
  by_cases h0 : lv = 6
  · subst h0
    have e : wkF d 6 t a = if reN (seenD d a) = 0 then eachO (lvF d (reV (seenD d a)).1.toNat) (t.set a (t[a]?.getD 0 - 1)) (reV (seenD d a)).2 else none := by
      rw [wkF, if_pos rfl, lfO, hd]
      show (if 1 < (t[a]?.getD 0).toNat then _ else _) = _
      rw [if_neg hm]
    by_cases hr : reN (seenD d a) = 0
    · refine .inr ⟨hc, by decide, ⟨hr, .inl rfl⟩, ?_⟩
      have hq := hlow hr
      rw [e, if_pos hr, each_run d (by omega), rfsT, show (((reV (seenD d a)).1.toNat : Nat) : Int) = (reV (seenD d a)).1 by omega]
    · exact .inl ⟨hc, by decide, fun h => hr h.1, by rw [e, if_neg hr]⟩
  · obtain ⟨l, rfl⟩ : ∃ l : Nat, lv = l := ⟨lv.toNat, by omega⟩
    have e : wkF d l t a = if reN (seenD d a) = 0 ∧ (reV (seenD d a)).1 = (l : Int) then eachO (lvF d l) (t.set a (t[a]?.getD 0 - 1)) (reV (seenD d a)).2 else none := by
      rw [wkF, if_neg h0, show ((l : Int) + 1).toNat = l + 1 by omega]
      show lvS d l (lvF d l) t a = _
      rw [lvS, hd]
      show (if 1 < (t[a]?.getD 0).toNat then _ else _) = _
      rw [if_neg hm]
    by_cases hr : reN (seenD d a) = 0 ∧ (reV (seenD d a)).1 = (l : Int)
    · refine .inr ⟨hc, hl, ⟨hr.1, .inr hr.2⟩, ?_⟩
      rw [e, if_pos hr, each_run d (by omega), rfsT, hr.2]
    · exact .inl ⟨hc, hl, fun h => hr ⟨h.1, h.2.resolve_left h0⟩, by rw [e, if_neg hr]⟩

/-! ### How much is counted in all -/
def allT (t : List UInt8) : Nat := (t.map (·.toNat)).sum
theorem allT_le : ∀ t : List UInt8, allT t ≤ 255 * t.length
  | [] => by simp [allT]
  | x :: t => by
    have h1 := allT_le t
    have h2 := x.toNat_lt
    simp only [allT, List.map_cons, List.sum_cons, List.length_cons] at h1 ⊢
    omega
theorem allT_dn : ∀ {t : List UInt8} {a : Nat}, t[a]?.getD 0 ≠ 0 → allT (t.set a (t[a]?.getD 0 - 1)) + 1 = allT t
  | [], a, h => absurd (by simp) h
  | x :: t, 0, h => by
    have h' : x ≠ 0 := by simpa using h
    have := dn_nat h'
    simp only [List.set_cons_zero, allT, List.map_cons, List.sum_cons, List.getElem?_cons_zero, Option.getD_some]
    omega
  | x :: t, a + 1, h => by
    have h' : t[a]?.getD 0 ≠ 0 := by simpa using h
    have := allT_dn h'
    simp only [List.set_cons_succ, allT, List.map_cons, List.sum_cons, List.getElem?_cons_succ] at this ⊢
    omega
end Go.Proofs.YtogieepfimpdmaaGreat

/-
  Layer 8: package room's Twin, and the document's. Conditions: those that each lemma states.
-/
namespace Go.Proofs.YtogieepfimpdmaaGreat
open Go.RowKit

def SmallR (s : Rm) : Prop := Small s.1 ∧ s.2.1.length ≤ 10000 ∧ s.2.2.length ≤ 10000
theorem smallR_may {s : Rm} (h : mayR s = true) : SmallR s := by
  obtain ⟨h1, h2, h3⟩ := mayR_of h
  exact ⟨small_of_may h1, by rw [mayT_len h2]; omega, by rw [mayT_len h3]; omega⟩
/-- What stands in a box that is filled last. -/
theorem sto_fin {lo : Nat} {w1 W W9 : World} {P Q N L : Value} {s : Rm} {g : Nat} (hd : Dsk (New w1.heap.size W) W (.agg #[P, Q]) s.1) (hn : rBy (New w1.heap.size W) W [N] s.2.1) (hl : rBy (New w1.heap.size W) W [L] s.2.2) (hg : g < w1.heap.size) (hlo : lo ≤ w1.heap.size) (gr : W.grownBy W9 (some g)) : Sto (New lo W9) W9 (.agg #[P, Q, N, L]) s :=
  Sto.mk ((hd.grown gr (fun q e => by cases e; exact hg)).new hlo (Below.refl _ _)) (stab_by.new (stab_by.grown hn gr (fun q e => by cases e; exact hg)) hlo (Below.refl _ _)) (stab_by.new (stab_by.grown hl gr (fun q e => by cases e; exact hg)) hlo (Below.refl _ _))

set_option maxRecDepth 100000 in
set_option maxHeartbeats 4000000 in
theorem twinR_any (v : Value) (s : Rm) (hsm : SmallR s) (w : World) (h : Sto (Old w) w v s) :
    Calls Tryz.prog 74 #[v] w fun e w' => ∃ A ca B cb N cn L cl, e = .returned (.agg #[.slice A s.1.1.length ca, .slice B s.1.2.length cb, .slice N s.2.1.length cn, .slice L s.2.2.length cl]) ∧ Sto (New w.heap.size w') w' (.agg #[.slice A s.1.1.length ca, .slice B s.1.2.length cb, .slice N s.2.1.length cn, .slice L s.2.2.length cl]) s ∧ Below w.heap.size w w' := by
  obtain ⟨A, ca, B, cb, N, cn, L, cl, w1, rfl, hw1, f1, f2, hsz, hB, H⟩ := box_sto2 h
  clear h
  obtain ⟨m0, m1, m2, m3, _, mg⟩ := four_cells f1
  replace hsz := Lib.hid hsz
  replace f1 := Lib.hid f1
  replace f2 := Lib.hid f2
  replace hsm := Lib.hid hsm
  go_enter Tryz.func74, Tryz.ntmps74
  go_upto_region 1 with fail
  clear hw1
  refine wp_region_tails (by kernel_rfl) 10 (fun W => Below w1.heap.size w1 W) (fun i => match i with
      | 2 => some (fun v W => Dsk (New w1.heap.size W) W v s.1)
      | 5 => some (fun v W => rBy (New w1.heap.size W) W [v] s.2.1)
      | 8 => some (fun v W => rBy (New w1.heap.size W) W [v] s.2.2)
      | 9 => some (fun v W => ∃ P p Q r Y y X x, v = .agg #[.slice P s.1.1.length p, .slice Q s.1.2.length r, .slice Y s.2.1.length y, .slice X s.2.2.length x] ∧ Dsk (New w1.heap.size W) W (.agg #[.slice P s.1.1.length p, .slice Q s.1.2.length r]) s.1 ∧ rBy (New w1.heap.size W) W [.slice Y s.2.1.length y] s.2.1 ∧ rBy (New w1.heap.size W) W [.slice X s.2.2.length x] s.2.2)
      | _ => none) (fun _ => none) (by decide) (by kernel_rfl) (by kernel_rfl) (Below.refl _ _).drew (fun w w' h hb => h.trans (hb.mono h.size)) ?tst ?_
  case tst =>
    intro j φ x W W' hp hx hb
    match j, hp with
    | 2, hp => cases hp; exact hx.new (Nat.le_refl _) hb
    | 5, hp => cases hp; exact stab_by.new hx (Nat.le_refl _) hb
    | 8, hp => cases hp; exact stab_by.new hx (Nat.le_refl _) hb
    | 9, hp =>
      cases hp
      obtain ⟨P, p, Q, r, Y, y, X, x, e1, e2, e3, e4⟩ := hx
      exact ⟨P, p, Q, r, Y, y, X, x, e1, e2.new (Nat.le_refl _) hb, stab_by.new e3 (Nat.le_refl _) hb, stab_by.new e4 (Nat.le_refl _) hb⟩
  simp only [List.take_succ_cons, List.take_zero, List.drop_succ_cons, List.drop_zero]
  repeat (first
    | (refine wpAs_skip rfl ?_; simp only [Act.put, List.setIfInBounds_toArray, List.set_cons_zero, List.set_cons_succ])
    | (refine wpAs_pure (v := ?_) rfl rfl ?_ ?_; rotate_left; (intro W hC hE; clear hE; (have z0 := (hC.cell (p := ⟨w.heap.size, 0, none⟩) mg).trans m0; have z1 := (hC.cell (p := ⟨w.heap.size, 1, none⟩) mg).trans m1); clear hC; go_simp; done); simp only [Act.put, List.setIfInBounds_toArray, List.set_cons_zero, List.set_cons_succ])
    | (refine wpAs_pure (v := ?_) rfl rfl ?_ ?_; rotate_left; (intro W hC hE; clear hE; (have z0 := (hC.cell (p := ⟨w.heap.size, 0, none⟩) mg).trans m0; have z1 := (hC.cell (p := ⟨w.heap.size, 1, none⟩) mg).trans m1); clear hC; go_simp; with_reducible rfl); simp only [Act.put, List.setIfInBounds_toArray, List.set_cons_zero, List.set_cons_succ]))
  refine wpAs_act rfl rfl ?_ ?_
  · intro W hC hE
    clear hE
    refine does_enter (f := 98) (args := #[.agg #[.slice A s.1.1.length ca, .slice B s.1.2.length cb]]) ?_ ?_
    · go_simp
    · refine (twin_any _ s.1 W hsm.out.1 (H.out.below hC).parts.1).mono ?_
      rintro e W' ⟨u, rfl, hu, hb⟩
      exact ⟨_, rfl, hu.new hC.size (Below.refl _ _), hb⟩
  simp only [Act.put, List.setIfInBounds_toArray, List.set_cons_zero, List.set_cons_succ, envAdd]
  intro x5
  repeat (first
    | (refine wpAs_skip rfl ?_; simp only [Act.put, List.setIfInBounds_toArray, List.set_cons_zero, List.set_cons_succ])
    | (refine wpAs_pure (v := ?_) rfl rfl ?_ ?_; rotate_left; (intro W hC hE; clear hE; (have z2 := (hC.cell (p := ⟨w.heap.size, 2, none⟩) mg).trans m2); clear hC; go_simp; done); simp only [Act.put, List.setIfInBounds_toArray, List.set_cons_zero, List.set_cons_succ])
    | (refine wpAs_pure (v := ?_) rfl rfl ?_ ?_; rotate_left; (intro W hC hE; clear hE; (have z2 := (hC.cell (p := ⟨w.heap.size, 2, none⟩) mg).trans m2); clear hC; go_simp; with_reducible rfl); simp only [Act.put, List.setIfInBounds_toArray, List.set_cons_zero, List.set_cons_succ]))
  refine wpAs_act rfl rfl ?_ ?_
  · intro W hC hE
    clear hE
    refine does_enter (f := 52) (args := #[.slice N s.2.1.length cn]) ?_ ?_
    · go_simp
    · refine (clone_by _ s.2.1 W (by have := hsm.out.2.1; omega) (H.out.below hC).parts.2.1).mono ?_
      rintro e W' ⟨u, rfl, ho, hb⟩
      exact ⟨_, rfl, stab_by.new ho hC.size (Below.refl _ _), hb⟩
  simp only [Act.put, List.setIfInBounds_toArray, List.set_cons_zero, List.set_cons_succ, envAdd]
  intro x8
  repeat (first
    | (refine wpAs_skip rfl ?_; simp only [Act.put, List.setIfInBounds_toArray, List.set_cons_zero, List.set_cons_succ])
    | (refine wpAs_pure (v := ?_) rfl rfl ?_ ?_; rotate_left; (intro W hC hE; clear hE; (have z3 := (hC.cell (p := ⟨w.heap.size, 3, none⟩) mg).trans m3); clear hC; go_simp; done); simp only [Act.put, List.setIfInBounds_toArray, List.set_cons_zero, List.set_cons_succ])
    | (refine wpAs_pure (v := ?_) rfl rfl ?_ ?_; rotate_left; (intro W hC hE; clear hE; (have z3 := (hC.cell (p := ⟨w.heap.size, 3, none⟩) mg).trans m3); clear hC; go_simp; with_reducible rfl); simp only [Act.put, List.setIfInBounds_toArray, List.set_cons_zero, List.set_cons_succ]))
  refine wpAs_act rfl rfl ?_ ?_
  · intro W hC hE
    clear hE
    refine does_enter (f := 52) (args := #[.slice L s.2.2.length cl]) ?_ ?_
    · go_simp
    · refine (clone_by _ s.2.2 W (by have := hsm.out.2.2; omega) (H.out.below hC).parts.2.2).mono ?_
      rintro e W' ⟨u, rfl, ho, hb⟩
      exact ⟨_, rfl, stab_by.new ho hC.size (Below.refl _ _), hb⟩
  simp only [Act.put, List.setIfInBounds_toArray, List.set_cons_zero, List.set_cons_succ, envAdd]
  intro x11
  refine wpAs_act rfl rfl ?_ ?_
  · intro W hC hE
    have h11 := hE.1 rfl
    have h8 := hE.2.1 rfl
    have h5 := hE.2.2.1 rfl
    obtain ⟨X, x, rfl, _⟩ := rBy_open h11
    obtain ⟨Y, y, rfl, _⟩ := rBy_open h8
    obtain ⟨P, p, Q, r, rfl, _⟩ := h5.open
    have h11' := Lib.hid h11
    have h8' := Lib.hid h8
    have h5' := Lib.hid h5
    clear hE hC h11 h8 h5
    go_simp
    exact ⟨⟨P, p, Q, r, Y, y, X, x, rfl, h5'.out, h8'.out, h11'.out⟩, Below.refl _ _⟩
  simp only [Act.put, List.setIfInBounds_toArray, List.set_cons_zero, List.set_cons_succ, envAdd]
  intro x12
  refine wpAs_end fun W hC hE => ?_
  obtain ⟨⟨P, p, Q, r, Y, y, X, x, rfl, hd, hn, hl⟩, _⟩ := hE
  have bW := (hC.block (w.heap.size + 1) (by rw [hsz.out]; omega)).trans f2.out
  obtain ⟨c0, c1, c2, c3, c4, c5⟩ := four_cells bW
  obtain ⟨W9, hW9, g9, gr9, gs9⟩ := put_four (a' := .slice P s.1.1.length p) (b' := .slice Q s.1.2.length r) (c' := .slice Y s.2.1.length y) (d' := .slice X s.2.2.length x) bW
  obtain ⟨n0, n1, n2, n3, _, _⟩ := four_cells g9
  have BW := hB.trans (hC.mono hB.size)
  have hfin := Lib.hid (sto_fin (lo := w.heap.size) hd hn hl (by rw [hsz.out]; omega) hB.size gr9)
  have hB9 := Lib.hid (BW.grown gr9 BW.size (fun q e => by cases e; omega))
  clear hd hn hl gr9 gs9 BW hC
  replace bW := Lib.hid bW
  replace g9 := Lib.hid g9
  go_wp2_with fail
  refine bodyPost_ret (v := .agg #[.slice P s.1.1.length p, .slice Q s.1.2.length r, .slice Y s.2.1.length y, .slice X s.2.2.length x]) (by simp [results, Tryz.results74, go_sem, n0, n1, n2, n3]) rfl ?_
  exact ⟨_, _, _, _, _, _, _, _, rfl, hfin.out, hB9.out⟩
end Go.Proofs.YtogieepfimpdmaaGreat

/-
  Package drop: checkHeld, read. Conditions: those that each lemma states.
-/
namespace Go.Proofs.YtogieepfimpdmaaGreat
open Go.RowKit

set_option maxRecDepth 100000 in
set_option maxHeartbeats 4000000 in
theorem heldD_any (v : Value) (s : Rm) (n : Int) (w : World) (h : Sto (Old w) w v s) : Calls Tryz.prog 72 #[v, .int .i64 n] w fun e w' => e = .returned (.int .i64 (asE s n)) ∧ Below w.heap.size w w' := by
  obtain ⟨A, ca, B, cb, N, cn, L, cl, w1, rfl, hw1, f, hsz, hB, _, NN, _⟩ := box_sto h
  have H := Lib.hid (h.below hB)
  clear h
  obtain ⟨k0, k1, k2, k3, _, kg⟩ := four_cells f
  replace hsz := Lib.hid hsz
  rcases as_ways s n with ⟨hm, he⟩ | ⟨hm, hn, he⟩ | ⟨k, hm, rfl, h8, h256, hx, he⟩ | ⟨k, hm, rfl, h8, h256, hx, he⟩
  · replace he := Lib.hid he
    have e1 := chkR_bad hm
    go_enter Tryz.func72, Tryz.ntmps72
    go_upto_region 1 with fail
    clear hw1
    go_wp2_with fail
    with_reducible refine (checkR_any _ s _ H.out).mono ?_
    rintro e w2 ⟨rfl, hb2⟩
    rw [e1]
    replace hb2 := Lib.hid (hB.trans (hb2.mono hB.size))
    go_wp2_with fail
    go_ret
    exact ⟨ret_int he.out.symm, hb2.out⟩
  · replace he := Lib.hid he
    have e1 := chkR_ok hm
    by_cases h8 : n < 8
    · clear hn
      go_enter Tryz.func72, Tryz.ntmps72
      go_upto_region 1 with fail
      clear hw1
      go_wp2_with fail
      with_reducible refine (checkR_any _ s _ H.out).mono ?_
      rintro e w2 ⟨rfl, hb2⟩
      rw [e1]
      replace hb2 := Lib.hid (hB.trans (hb2.mono hB.size))
      go_wp2_with fail
      go_ret
      exact ⟨ret_int he.out.symm, hb2.out⟩
    · have h9 : 256 ≤ n := by omega
      clear hn
      go_enter Tryz.func72, Tryz.ntmps72
      go_upto_region 1 with fail
      clear hw1
      go_wp2_with fail
      with_reducible refine (checkR_any _ s _ H.out).mono ?_
      rintro e w2 ⟨rfl, hb2⟩
      rw [e1]
      replace hb2 := Lib.hid (hB.trans (hb2.mono hB.size))
      go_wp2_with fail
      go_ret
      exact ⟨ret_int he.out.symm, hb2.out⟩
  all_goals
    replace he := Lib.hid he
    have e1 := chkR_ok hm
    have hlen := mayT_len (mayR_of hm).2.1
    obtain ⟨A', c', e2, l1, m1, hby⟩ := rBy_byt (B := w1.heap.size) (fun _ h => h) NN.out
    cases e2
    obtain ⟨ad, rfl, hbk, hc⟩ := hby (by omega)
    have hcell := hc k (by omega)
    replace hbk : (ad.add k).block < w1.heap.size := by rw [add_block]; exact hbk
    obtain ⟨x, hx2⟩ : ∃ x, s.2.1[k]?.getD 0 = x := ⟨_, rfl⟩
    rw [hx2] at hcell hx
    have hlt : k < s.2.1.length := by omega
    first
      | have t0 := byte_same (y := 0) (q := 0) rfl hx
      | have t0 := byte_unlike (y := 0) (q := 0) rfl hx
    have i1 : ¬ (k : Int) < 8 := by omega
    have i2 : ¬ 256 ≤ (k : Int) := by omega
    replace hx2 := Lib.hid hx2
    replace hx := Lib.hid hx
    replace hlen := Lib.hid hlen
    clear hc hby
    go_enter Tryz.func72, Tryz.ntmps72
    go_upto_region 1 with fail
    clear hw1
    go_wp2_with fail
    with_reducible refine (checkR_any _ s _ H.out).mono ?_
    rintro e w2 ⟨rfl, hb2⟩
    rw [e1]
    replace k2 := (hb2.cell (p := ⟨w.heap.size, 2, none⟩) kg).trans k2
    replace hcell := (hb2.cell hbk).trans hcell
    replace hb2 := Lib.hid (hB.trans (hb2.mono hB.size))
    go_wp2_with fail
    go_ret
    exact ⟨ret_int he.out.symm, hb2.out⟩

theorem box_rd (w : World) (a b c d e f : Value) : ∃ w1, ((w.alloc (.cells #[a, b, c, d] 29)).alloc (.cells #[e, f] 104)).alloc (.cells #[.int .i64 0, .slice none 0 0] 45) = w1 ∧
    w1.heap[w.heap.size]? = some (.cells #[a, b, c, d] 29 (0, 0)) ∧ w1.heap[w.heap.size + 1]? = some (.cells #[e, f] 104 (0, 0)) ∧ w1.heap[w.heap.size + 2]? = some (.cells #[.int .i64 0, .slice none 0 0] 45 (0, 0)) ∧ w1.heap.size = w.heap.size + 3 ∧ Below w.heap.size w w1 := by
  refine ⟨_, rfl, alloc_block (alloc_block (heap_alloc_new _ _)), alloc_block ?_, ?_, by simp, (((Below.refl _ w).alloc (Nat.le_refl _) _).alloc (by simp) _).alloc (by simp; omega) _⟩
  · have := heap_alloc_new (w.alloc (.cells #[a, b, c, d] 29)) (.cells #[e, f] 104)
    rwa [World.size_alloc] at this
  · have := heap_alloc_new ((w.alloc (.cells #[a, b, c, d] 29)).alloc (.cells #[e, f] 104)) (.cells #[.int .i64 0, .slice none 0 0] 45)
    rwa [World.size_alloc, World.size_alloc] at this

/-- What read tells. -/
def RdP (s : Rm) (k : Nat) (lv : Int) (w w' : World) (e : Ending) : Prop := ∃ (u : Value) (q : Int) (nd : Nd), e = .returned (.tuple #[u, .int .i64 q]) ∧ ((Rdn s.1 lv k ∧ q = 0 ∧ nd = reV (seenD s.1 k)) ∨ (¬ Rdn s.1 lv k ∧ q = 8 ∧ nd = zeroN)) ∧ Nod (New w.heap.size w') w' u nd ∧ Below w.heap.size w w'

set_option maxRecDepth 100000 in
set_option maxHeartbeats 4000000 in
theorem readD_any (v : Value) (s : Rm) (k : Nat) (lv : Int) (ha : asE s k = 0) (w : World) (h : Sto (Old w) w v s) :
    Calls Tryz.prog 96 #[v, .agg #[.int .i64 k, .int .i64 lv]] w fun e w' => RdP s k lv w w' e := by
  obtain ⟨A, ca, B, cb, N, cn, L, cl, rfl, _, _, _⟩ := h.open
  obtain ⟨w1, hw1, f1, f2, f3, hsz, hB⟩ := box_rd w (.slice A s.1.1.length ca) (.slice B s.1.2.length cb) (.slice N s.2.1.length cn) (.slice L s.2.2.length cl) (.int .i64 k) (.int .i64 lv)
  have H := Lib.hid (h.below hB)
  clear h
  obtain ⟨k0, k1, k2, k3, _, kg⟩ := four_cells f1
  obtain ⟨j0, j1, _, jg⟩ := two_cells f2
  obtain ⟨k', e', _, _, _, _, _, hE, hV, -⟩ := as_read ha
  have hkk : k' = k := by omega
  subst hkk
  clear e'
  obtain ⟨b, hb⟩ : ∃ b, seenD s.1 k' = b := ⟨_, rfl⟩
  rw [hb] at hE hV
  obtain ⟨q, hq⟩ : ∃ q, reN b = q := ⟨_, rfl⟩
  obtain ⟨nd, hnd⟩ : ∃ nd, reV b = nd := ⟨_, rfl⟩
  rw [hq] at hE
  rw [hnd] at hV
  obtain ⟨lw, hlw⟩ : ∃ q, nd.1 = q := ⟨_, rfl⟩
  have hR : Hid (Rdn s.1 lv k' ↔ (q = 0 ∧ (lv = 6 ∨ lw = lv))) := Lib.hid (by unfold Rdn; rw [hb, hq, hnd, hlw])
  have hND : Hid (nd = reV (seenD s.1 k')) := Lib.hid (by rw [hb, hnd])
  replace hsz := Lib.hid hsz
  replace f3 := Lib.hid f3
  replace hb := Lib.hid hb
  replace hq := Lib.hid hq
  replace hnd := Lib.hid hnd
  replace hE := Lib.hid hE
  replace hV := Lib.hid hV
  clear f1 ha
  go_enter Tryz.func96, Tryz.ntmps96
  go_upto_region 1 with fail
  clear hw1
  go_wp2_with fail
  with_reducible refine (nodeR_any _ s (k' : Int) _ H.out).mono ?_
  rintro e w2 ⟨u, rfl, hu, hb2⟩
  rw [hE.out]
  rw [hV.out] at hu
  obtain ⟨P, pc, rfl, _⟩ := id hu.open
  rw [hlw]
  obtain ⟨w3, hw3, g3, hs3, hb3⟩ := box_pair' w2 (.int .i64 lw) (.slice P nd.2.length pc) 45
  have F3 := (hb3.block (w.heap.size + 2) (by have := hb2.size; have := hsz.out; omega)).trans ((hb2.block (w.heap.size + 2) (by have := hsz.out; omega)).trans f3.out)
  have G2 := (hb3.block (w.heap.size + 1) (by have := hb2.size; have := hsz.out; omega)).trans ((hb2.block (w.heap.size + 1) (by have := hsz.out; omega)).trans f2)
  obtain ⟨m0, m1, _, _⟩ := two_cells g3
  obtain ⟨n0, n1, _, _⟩ := two_cells G2
  obtain ⟨x0, x1, x2, _⟩ := two_cells F3
  have B3 := Lib.hid (hB.trans ((hb2.trans (hb3.mono hb2.size)).mono hB.size))
  have U3 := Lib.hid (hu.new (Nat.le_refl _) hb3)
  have s3 : Hid (w.heap.size + 3 ≤ w1.heap.size) := Lib.hid (by have := hsz.out; omega)
  rw [hlw] at U3
  clear hu hb2 hb3 hB k0 k1 k2 k3 kg j0 j1 jg f2
  replace hs3 := Lib.hid hs3
  replace g3 := Lib.hid g3
  replace G2 := Lib.hid G2
  go_upto_region 2 with fail
  clear hw3
  by_cases hok : q = 0 ∧ (lv = 6 ∨ lw = lv)
  · obtain ⟨W9, hW9, g9, gr9, gs9⟩ := put_two (u := .int .i64 lw) (v := .slice P nd.2.length pc) F3
    obtain ⟨o0, o1, _, _⟩ := two_cells g9
    have hfin := Lib.hid (show Nod (New w.heap.size W9) W9 (.agg #[.int .i64 lw, .slice P nd.2.length pc]) nd from
      (U3.out.grown gr9 (fun q e => by cases e; have := s3.out; omega)).new (by have := s3.out; omega) (Below.refl _ _))
    have hB9 := Lib.hid (B3.out.grown gr9 B3.out.size (fun q e => by cases e; omega))
    have hq0 := hok.1
    have hok' := Lib.hid hok
    subst hq0
    replace F3 := Lib.hid F3
    replace g9 := Lib.hid g9
    clear gr9 gs9
    by_cases h6 : lv = 6
    · have c1 : (lv != 6) = false := by simp [h6]
      clear hok h6
      go_wp2_with fail
      refine bodyPost_ret (v := .tuple #[.agg #[.int .i64 lw, .slice P nd.2.length pc], .int .i64 0]) (by simp [results, Tryz.results96, go_sem, o0, o1]) rfl ?_
      exact ⟨_, 0, nd, rfl, .inl ⟨hR.out.2 hok'.out, rfl, hND.out⟩, hfin.out, hB9.out⟩
    · have c1 : (lv != 6) = true := by simpa using h6
      have c2 : (lw != lv) = false := by
        rcases hok.2 with h | h
        · exact absurd h h6
        · simp [h]
      clear hok
      go_wp2_with fail
      refine bodyPost_ret (v := .tuple #[.agg #[.int .i64 lw, .slice P nd.2.length pc], .int .i64 0]) (by simp [results, Tryz.results96, go_sem, o0, o1]) rfl ?_
      exact ⟨_, 0, nd, rfl, .inl ⟨hR.out.2 hok'.out, rfl, hND.out⟩, hfin.out, hB9.out⟩
  · obtain ⟨W9, hW9, g9, gr9, gs9⟩ := put_two (u := .int .i64 0) (v := .slice none 0 0) F3
    obtain ⟨o0, o1, _, _⟩ := two_cells g9
    have hfin := Lib.hid (nod_zero (New w.heap.size W9) W9)
    have hB9 := Lib.hid (B3.out.grown gr9 B3.out.size (fun q e => by cases e; omega))
    have hok' := Lib.hid hok
    replace F3 := Lib.hid F3
    replace g9 := Lib.hid g9
    clear gr9 gs9
    by_cases hq0 : q = 0
    · have c1 : (lv != 6) = true := by
        have : ¬ lv = 6 := fun h => hok ⟨hq0, .inl h⟩
        simpa using this
      have c2 : (lw != lv) = true := by
        have : ¬ lw = lv := fun h => hok ⟨hq0, .inr h⟩
        simpa using this
      clear hok
      subst hq0
      go_wp2_with fail
      refine bodyPost_ret (v := .tuple #[.agg #[.int .i64 0, .slice none 0 0], .int .i64 8]) (by simp [results, Tryz.results96, go_sem, o0, o1]) rfl ?_
      exact ⟨_, 8, zeroN, rfl, .inr ⟨fun h => hok'.out (hR.out.1 h), rfl, rfl⟩, hfin.out, hB9.out⟩
    · have c0 : (q != 0) = true := by simpa using hq0
      clear hok
      go_wp2_with fail
      refine bodyPost_ret (v := .tuple #[.agg #[.int .i64 0, .slice none 0 0], .int .i64 8]) (by simp [results, Tryz.results96, go_sem, o0, o1]) rfl ?_
      exact ⟨_, 8, zeroN, rfl, .inr ⟨fun h => hok'.out (hR.out.1 h), rfl, rfl⟩, hfin.out, hB9.out⟩
end Go.Proofs.YtogieepfimpdmaaGreat

/-
  The document's answers of layer 8: Taken. Conditions: those that each lemma states.
-/
namespace Go.Proofs.YtogieepfimpdmaaGreat
open Go.RowKit

/-- Cells that lie there, but not in block g. -/
def Off (g : Nat) (w : World) : Addr → Prop := fun p => p.block < w.heap.size ∧ p.block ≠ g
theorem off_put {g : Nat} {W W1 : World} {p : Addr} {v : Value} (gr : W.grownBy W1 (some g)) (hp : Off g W p) (hc : W.cell? p = some v) : Off g W1 p ∧ W1.cell? p = some v :=
  ⟨⟨Nat.lt_of_lt_of_le hp.1 gr.size, hp.2⟩, (World.cell?_of_block (gr.block _ hp.1 (by simpa using hp.2))).trans hc⟩
theorem off_below {g : Nat} {W W1 : World} {p : Addr} {v : Value} (hb : Below W.heap.size W W1) (hp : Off g W p) (hc : W.cell? p = some v) : Off g W1 p ∧ W1.cell? p = some v :=
  ⟨⟨Nat.lt_of_lt_of_le hp.1 hb.size, hp.2⟩, (hb.cell hp.1).trans hc⟩
theorem off_low {g : Nat} {w W : World} {p : Addr} {v : Value} (hb : Below w.heap.size w W) (hg : w.heap.size ≤ g) (hp : Old w p) (hc : w.cell? p = some v) : Off g W p ∧ W.cell? p = some v :=
  ⟨⟨Nat.lt_of_lt_of_le hp hb.size, fun e => by have h : p.block < w.heap.size := hp; omega⟩, (hb.cell hp).trans hc⟩
theorem off_old {g : Nat} {W : World} {p : Addr} {v : Value} (hp : Off g W p) (hc : W.cell? p = some v) : Old W p ∧ W.cell? p = some v := ⟨hp.1, hc⟩
end Go.Proofs.YtogieepfimpdmaaGreat

/-
  The document's answers of layer 9: Counted, Made, Make. Conditions: those that each lemma states.
-/
namespace Go.Proofs.YtogieepfimpdmaaGreat
open Go.RowKit

theorem ct_split {l : List It} {i : Nat} {x : It} {t : List UInt8} (h : ctE t (l.take i) = 0) (hx : l[i]? = some x) : ctE t l = ctE (ctV t (l.take i)) (x :: l.drop (i + 1)) := by
  have hk := (List.getElem?_eq_some_iff.1 hx).1
  have hg : l[i] = x := (List.getElem?_eq_some_iff.1 hx).2
  have e : l = l.take i ++ x :: l.drop (i + 1) := by rw [← hg, List.getElem_cons_drop, List.take_append_drop]
  have : ctE t l = ctE t (l.take i ++ x :: l.drop (i + 1)) := by rw [← e]
  rw [this, ctE_app, if_pos h]
theorem ct_next {l : List It} {i : Nat} {x : It} {t : List UInt8} (h : ctE t (l.take i) = 0) (hx : l[i]? = some x) : ctE t (l.take (i + 1)) = ctE (ctV t (l.take i)) [x] ∧ ctV t (l.take (i + 1)) = ctV (ctV t (l.take i)) [x] := by
  have hk := (List.getElem?_eq_some_iff.1 hx).1
  have hg : l[i] = x := (List.getElem?_eq_some_iff.1 hx).2
  rw [← List.take_append_getElem hk, ctE_app, ctV_app, if_pos h, hg]
  exact ⟨rfl, rfl⟩
theorem box_three3 {w : World} (a b c d e f : Value) : ∃ w1, ((w.alloc (.cells #[a, b, c, d] 29)).alloc (.cells #[e, f] 45)).alloc (.cells #[.slice none 0 0, .slice none 0 0, .slice none 0 0, .slice none 0 0] 29) = w1 ∧
    w1.heap[w.heap.size]? = some (.cells #[a, b, c, d] 29 (0, 0)) ∧ w1.heap[w.heap.size + 1]? = some (.cells #[e, f] 45 (0, 0)) ∧ w1.heap[w.heap.size + 2]? = some (.cells #[.slice none 0 0, .slice none 0 0, .slice none 0 0, .slice none 0 0] 29 (0, 0)) ∧ w1.heap.size = w.heap.size + 3 ∧ Below w.heap.size w w1 := by
  refine ⟨_, rfl, alloc_block (alloc_block (heap_alloc_new _ _)), alloc_block ?_, ?_, by simp, (((Below.refl _ w).alloc (Nat.le_refl _) _).alloc (by simp) _).alloc (by simp; omega) _⟩
  · have := heap_alloc_new (w.alloc (.cells #[a, b, c, d] 29)) (.cells #[e, f] 45)
    rwa [World.size_alloc] at this
  · have := heap_alloc_new ((w.alloc (.cells #[a, b, c, d] 29)).alloc (.cells #[e, f] 45)) (.cells #[.slice none 0 0, .slice none 0 0, .slice none 0 0, .slice none 0 0] 29)
    rwa [World.size_alloc, World.size_alloc] at this

theorem mk_ways {s : Rm} {n : Nd} (hm : mayR s = true) (hn : mayN n = true) : (ctE s.2.1 n.2 ≠ 0 ∧ mkE s n = ctE s.2.1 n.2 ∧ mkN s n = 0 ∧ mkV s n = emptyR) ∨ (ctE s.2.1 n.2 = 0 ∧ mkE s n = tkE (ctS s n) (blkN n) ∧ mkN s n = tkN (ctS s n) (blkN n) ∧ mkV s n = tkV (ctS s n) (blkN n)) := by
  by_cases hc : ctE s.2.1 n.2 = 0
  · have e : mkE s n = tkE (ctS s n) (blkN n) := by simp [mkE, hm, hn, hc]
    refine .inr ⟨hc, e, ?_, ?_⟩
    · by_cases h : mkE s n = 0
      · rw [mkN, if_pos h]
      · rw [mkN, if_neg h, (tk_no (by rw [← e]; exact h)).1]
    · by_cases h : mkE s n = 0
      · rw [mkV, if_pos h]
      · rw [mkV, if_neg h, (tk_no (by rw [← e]; exact h)).2]
  · have e : mkE s n = ctE s.2.1 n.2 := by simp [mkE, hm, hn, hc]
    have h : mkE s n ≠ 0 := by rw [e]; exact hc
    exact .inl ⟨hc, e, (mk_no h).1, (mk_no h).2⟩

end Go.Proofs.YtogieepfimpdmaaGreat

/-
  Package drop: refer, which counts all Refs of a node in a table of the caller's own. Conditions: those that each lemma states.
-/
namespace Go.Proofs.YtogieepfimpdmaaGreat
open Go.RowKit

theorem grow_of {a b : World} {row : Option Nat} (h : Below a.heap.size a b) : a.grownBy b row := grow_later (grow_refl a row) h
/-- What lies elsewhere, behind a row's turning. -/
theorem Nod.off {g : Nat} {W W1 : World} {v : Value} {n : Nd} (h : Nod (Off g W) W v n) (gr : W.grownBy W1 (some g)) : Nod (Off g W1) W1 v n := h.map fun _ _ hp hc => off_put gr hp hc

set_option maxRecDepth 100000 in
set_option maxHeartbeats 8000000 in
theorem refer_any (g c lo : Nat) (t0 : List UInt8) (u : Value) (n : Nd) (hn : mayN n = true) (hl0 : t0.length = 256) (w : World) (hown : w.ownsRow lo 5 1 (.slice (some ⟨g, 0, none⟩) 256 c) 256 (u8s t0)) (hu : Nod (Off g w) w u n) :
    Calls Tryz.prog 65 #[.slice (some ⟨g, 0, none⟩) 256 c, u] w fun e w' => e = .returned (.int .i64 (ctE t0 n.2)) ∧ w.grownBy w' (some g) ∧ (ctE t0 n.2 = 0 → w'.ownsRow lo 5 1 (.slice (some ⟨g, 0, none⟩) 256 c) 256 (u8s (ctV t0 n.2))) := by
  obtain ⟨I, ci, rfl, _, _, _, hI⟩ := hu.open
  obtain ⟨lw, hlw⟩ : ∃ q, n.1 = q := ⟨_, rfl⟩
  obtain ⟨l, hl⟩ : ∃ q, n.2 = q := ⟨_, rfl⟩
  obtain ⟨m, hlm⟩ : ∃ q, l.length = q := ⟨_, rfl⟩
  have hrf := Lib.hid (refs_may hn)
  obtain ⟨⟨_, _, s3, _⟩, _⟩ := mayN_of hn
  rw [hl, hlm] at s3 hI
  rw [hl] at hrf ⊢
  rw [hlw, hlm]
  have hg0 : g < w.heap.size := ((hown.lt g rfl).2)
  obtain ⟨w1, hw1, b1, hs1, hB1⟩ := box_pair' w (.int .i64 lw) (.slice I m ci) 45
  have HI := Lib.hid (stab_its _ _ _ _ _ _ (fun _ _ hp hc => off_below (g := g) hB1 hp hc) hI)
  have HO := Lib.hid (own_below hown hB1)
  have GB := Lib.hid (grow_of (row := some g) hB1)
  obtain ⟨p0, p1, _, pg⟩ := two_cells b1
  have hgs : Hid (g ≠ w.heap.size) := Lib.hid (by omega)
  have b1h := Lib.hid b1
  replace hl0 := Lib.hid hl0
  replace hl := Lib.hid hl
  replace hlw := Lib.hid hlw
  replace hlm := Lib.hid hlm
  replace hs1 := Lib.hid hs1
  clear hown hu hI b1 hB1
  go_enter Tryz.func65, Tryz.ntmps65
  go_upto_region 1 with fail
  clear hw1
  go_wp2_with fail
  clear p0 p1
  go_loopw [10] (fun vi wr => ∃ i : Nat, i ≤ m ∧ vi = .int .i64 i ∧ ctE t0 (l.take i) = 0 ∧ wr.ownsRow lo 5 1 (.slice (some ⟨g, 0, none⟩) 256 c) 256 (u8s (ctV t0 (l.take i))) ∧ w1.grownBy wr (some g)) (fun vi _ => m - (intOf vi).toNat)
  case atStart => exact ⟨0, by omega, rfl, rfl, HO.out, grow_refl _ _⟩
  case round =>
    obtain ⟨i, hi, rfl, hE, hown, hgr⟩ := hrel
    have GF := Lib.hid (grow_trans GB.out hgr)
    by_cases hlt : i < m
    case neg =>
      have hlast : Hid (l.take i = l) := Lib.hid (List.take_of_length_le (by rw [hlm.out]; omega))
      have hEl : Hid (ctE t0 l = 0) := Lib.hid (by rw [← hE, hlast.out])
      rw [hlast.out] at hown
      have HO2 := Lib.hid hown
      clear hown hgr hE
      go_wp2_with fail
      go_ret
      exact ⟨ret_int hEl.out.symm, GF.out, fun _ => HO2.out⟩
    obtain ⟨x, hx⟩ : ∃ x, l[i]? = some x := ⟨_, List.getElem?_eq_getElem (by rw [hlm.out]; exact hlt)⟩
    have hsp := Lib.hid (ct_split hE hx)
    have hnx := Lib.hid (ct_next hE hx)
    have hxr := hrf.out x (List.mem_of_getElem? hx)
    have hIr := stab_its _ _ _ _ _ _ (fun _ _ hp hc => off_put (g := g) hgr hp hc) HI.out
    obtain ⟨ad5, E5, ce5, rfl, _, ⟨z0, z1, z2, z3, z4⟩, _⟩ := its_at hIr hx
    clear hIr
    obtain ⟨w5, hw5, y0, y1, y2, y3, y4, hs5, hB5, _⟩ := box_five wr (.int .u8 (x.1.1.toNat : Int)) (.int .u32 x.1.2.1) (.int .u32 x.1.2.2) (.int .i64 x.2.1) (.slice E5 x.2.2.length ce5) 40
    have hown5 := own_below hown hB5
    have hgr5 := Lib.hid (grow_later hgr (hB5.mono hgr.size))
    have GF5 := Lib.hid (grow_trans GB.out hgr5.out)
    replace hs5 := Lib.hid hs5
    have i4 : (0 : Int) ≤ (i : Int) := by omega
    have i5 : (i : Int) < (m : Int) := by omega
    obtain ⟨z, hzz⟩ : ∃ z, x.2.1 = z := ⟨_, rfl⟩
    have hc1 : ∀ T, ctE T (x :: l.drop (i + 1)) = if z = 0 then ctE T (l.drop (i + 1)) else if T[z.toNat]?.getD 0 = 0 then 6 else if T[z.toNat]?.getD 0 = 255 then 70 else ctE (T.set z.toNat (T[z.toNat]?.getD 0 + 1)) (l.drop (i + 1)) := fun T => by rw [← hzz]; rfl
    have hc2 : ∀ T, ctE T [x] = if z = 0 then 0 else if T[z.toNat]?.getD 0 = 0 then 6 else if T[z.toNat]?.getD 0 = 255 then 70 else 0 := fun T => by rw [← hzz]; rfl
    have hc3 : ∀ T, ctV T [x] = if z = 0 then T else T.set z.toNat (T[z.toNat]?.getD 0 + 1) := fun T => by rw [← hzz]; rfl
    rw [hzz] at z3 hxr hw5 y3
    replace hx := Lib.hid hx
    replace hzz := Lib.hid hzz
    obtain ⟨T, hT⟩ : ∃ T, ctV t0 (l.take i) = T := ⟨_, rfl⟩
    have hTl : Hid (T.length = 256) := Lib.hid (by rw [← hT, ctV_len, hl0.out])
    rw [hT] at hown5 hsp hnx
    replace hT := Lib.hid hT
    replace hE := Lib.hid hE
    clear hown hgr hB5
    go_upto_region 4 with fail
    clear hw5 z0 z1 z2 z3 z4
    by_cases hz0 : z = 0
    · have hn1 : Hid (ctE t0 (l.take (i + 1)) = 0 ∧ ctV t0 (l.take (i + 1)) = T) := Lib.hid ⟨by rw [hnx.out.1, hc2, if_pos hz0], by rw [hnx.out.2, hc3, if_pos hz0]⟩
      subst hz0
      have HO := Lib.hid hown5
      clear hc1 hc2 hc3 hxr hown5 hE hsp hnx
      go_wp2_with fail
      go_roundw
      case rel => exact ⟨i + 1, by omega, by go_num, hn1.out.1, by rw [hn1.out.2]; exact HO.out, hgr5.out⟩
      case measure => simp [intOf]; omega
    obtain ⟨r, hr, r8, r256⟩ : ∃ r : Nat, z = r ∧ 8 ≤ r ∧ r < 256 := ⟨z.toNat, by omega, by omega, by omega⟩
    rw [hc1, if_neg hz0, show z.toNat = r by omega] at hsp
    rw [hc2, hc3, if_neg hz0, if_neg hz0, show z.toNat = r by omega] at hnx
    have j3 : (z == 0) = false := by simpa using hz0
    subst hr
    have hcell := own_cell hown5 (j := r) r256
    obtain ⟨y, hy⟩ : ∃ y, T[r]?.getD 0 = y := ⟨_, rfl⟩
    rw [hy] at hsp hnx hcell
    replace hy := Lib.hid hy
    by_cases hy0 : y = 0
    · have t1 := byte_same (y := 0) (q := 0) rfl hy0
      have hEl : Hid (ctE t0 l = 6) := Lib.hid (by rw [hsp.out, if_pos hy0])
      clear hc1 hc2 hc3 hxr hown5 hE hsp hnx hz0
      go_wp2_with fail
      go_ret
      exact ⟨ret_int hEl.out.symm, GF5.out, fun h => by rw [hEl.out] at h; cases h⟩
    have t1 := byte_unlike (y := 0) (q := 0) rfl hy0
    by_cases hy5 : y = 255
    · have t2 := byte_same (y := 255) (q := 255) rfl hy5
      have hEl : Hid (ctE t0 l = 70) := Lib.hid (by rw [hsp.out, if_neg hy0, if_pos hy5])
      clear hc1 hc2 hc3 hxr hown5 hE hsp hnx hz0
      go_wp2_with fail
      go_ret
      exact ⟨ret_int hEl.out.symm, GF5.out, fun h => by rw [hEl.out] at h; cases h⟩
    have t2 := byte_unlike (y := 255) (q := 255) rfl hy5
    have hfr : w5.frozen? ⟨g, r, none⟩ = false := hown5.frozenAt r
    obtain ⟨hu1, hu2, hu3⟩ := up_byte hy5
    have hset := own_set hown5 r (y + 1)
    have hn1 : Hid (ctE t0 (l.take (i + 1)) = 0 ∧ ctV t0 (l.take (i + 1)) = T.set r (y + 1)) := Lib.hid ⟨by rw [hnx.out.1, if_neg hy0, if_neg hy5], hnx.out.2⟩
    rw [← hu1] at hset
    replace hset := Lib.hid hset
    replace hu1 := Lib.hid hu1
    have hgn := Lib.hid (grow_put hgr5.out (p := ⟨g, r, none⟩) rfl (.int .u8 ((y.toNat : Int) + 1)))
    clear hc1 hc2 hc3 hxr hown5 hE hsp hnx hz0
    go_wp2_with fail
    go_roundw
    case rel => exact ⟨i + 1, by omega, by go_num, hn1.out.1, by rw [hn1.out.2]; exact hset.out, hgn.out⟩
    case measure => simp [intOf]; omega
end Go.Proofs.YtogieepfimpdmaaGreat

/-
  Package drop: refs, which ranges over slices.Backward of items. Conditions: those that each lemma states.
-/
namespace Go.Proofs.YtogieepfimpdmaaGreat
open Go.RowKit Go.Shelf Go.Maps
attribute [local go_sem] Oper.semAt_some

theorem rf_info0 : (Tryz.prog.info? 104).map (fun i => (i.zero, i.size, i.bytes)) = some (some (.agg #[.int .i64 0, .int .i64 0]), 2, 16) := by kernel_rfl
/-- The cells of references. -/
def rfV (l : List Rf) : List Value := l.flatMap fun x => [.int .i64 x.1, .int .i64 x.2]
theorem rfV_len (l : List Rf) : (rfV l).length = l.length * 2 := by
  induction l with
  | nil => rfl
  | cons x l ih =>
    show (rfV l).length + 2 = _
    rw [ih, List.length_cons]
    omega
theorem rfV_app (a b : List Rf) : rfV (a ++ b) = rfV a ++ rfV b := by simp [rfV]
theorem rfV_one (l : List Rf) : ∀ v ∈ rfV l, v.oneCell' = true := by
  intro v hv
  simp only [rfV, List.mem_flatMap] at hv
  obtain ⟨x, _, hx⟩ := hv
  simp at hx
  rcases hx with rfl | rfl <;> rfl
set_option maxRecDepth 100000 in
set_option maxHeartbeats 4000000 in
/-- The closure of slices.Backward at items, for every loop body that keeps what lay below n₀. -/
theorem backI_in (F : Fence) (n : Nat) (hf : F.fn 128) (hro : F.round = none) (hn : 1 ≤ n) (l Bs n₀ cap m : Nat) (A : Option Addr) (ad : Addr) (f : Nat → It) (E : Nat → Option Addr) (ca : Nat → Nat) (hm : m ≤ 9223372036854775807) (hA : 0 < m → A = some ad ∧ ad.block < n₀) (J Jx : List Nat → World → Prop)
    (hY : ∀ (pre : List Nat) (x : Nat) (W : World), J pre W → pre.length < m → YieldAt F (n - 1) Tryz.prog l #[.int .i64 (x : Int), .agg #[.int .u8 ((f x).1.1.toNat : Int), .int .u32 (f x).1.2.1, .int .u32 (f x).1.2.2, .int .i64 (f x).2.1, .slice (E x) (f x).2.2.length (ca x)]] W fun e W' =>
      (e = .returned (.bool true) ∧ J (pre ++ [x]) W' ∧ Keeps n₀ Bs W W') ∨ (e = .returned (.bool false) ∧ Jx (pre ++ [x]) W'))
    (W : World) (hBs : W.cell? ⟨Bs, 0, none⟩ = some (.slice A m cap)) (hc : ∀ j, j < m → At5 W (ad.add (j * 5)) (f j) (.slice (E j) (f j).2.2.length (ca j))) (h0 : J [] W) :
    CallsIn F n Tryz.prog 128 #[.func (.yield l) #[] #[], .pointer (some ⟨Bs, 0, none⟩)] W fun e W' => (∃ v, e = .returned v) ∧
      ((∃ ys, ys = downs m m ∧ J ys W') ∨ (∃ pre, (∃ k, k ≤ m ∧ pre = downs m k) ∧ Jx pre W')) := by
  refine callsIn_of_wp Tryz.func128 rfl hf ?_ hro
  simp only [Tryz.ntmps128, List.size_toArray, List.length_cons, List.length_nil, Nat.reduceAdd, Nat.reduceSub, Array.replicate_succ, Array.replicate_zero, List.push_toArray, List.append_toArray, List.nil_append, List.cons_append]
  have HC := Lib.hid hc
  clear hc
  replace hA := Lib.hid hA
  gi_wp2
  gi_loopw [3] (fun i wr => ∃ k : Nat, k ≤ m ∧ i = .int .i64 ((m : Int) - 1 - k) ∧ J (downs m k) wr ∧ Below n₀ W wr ∧ wr.cell? ⟨Bs, 0, none⟩ = some (.slice A m cap))
    (fun i _ => (intOf i + 1).toNat)
  case atStart => exact ⟨0, Nat.zero_le _, by simp, h0, Below.refl _ _, hBs⟩
  case round =>
    obtain ⟨k, hk, rfl, hJs, hnx, hbs⟩ := hrel
    by_cases hlt : k < m
    · obtain ⟨rfl, hb⟩ := hA.out (by omega)
      have hx := HC.out (m - 1 - k) (by omega)
      have g1 := (hnx.cell (p := ad.add ((m - 1 - k) * 5)) (by rw [add_block]; exact hb)).trans hx.c0
      have g2 := (hnx.cell (p := ⟨(ad.add ((m - 1 - k) * 5)).block, (ad.add ((m - 1 - k) * 5)).off + 1, none⟩) (by rw [add_block]; exact hb)).trans hx.c1
      have g3 := (hnx.cell (p := ⟨(ad.add ((m - 1 - k) * 5)).block, (ad.add ((m - 1 - k) * 5)).off + 2, none⟩) (by rw [add_block]; exact hb)).trans hx.c2
      have g4 := (hnx.cell (p := ⟨(ad.add ((m - 1 - k) * 5)).block, (ad.add ((m - 1 - k) * 5)).off + 3, none⟩) (by rw [add_block]; exact hb)).trans hx.c3
      have g5 := (hnx.cell (p := ⟨(ad.add ((m - 1 - k) * 5)).block, (ad.add ((m - 1 - k) * 5)).off + 4, none⟩) (by rw [add_block]; exact hb)).trans hx.c4
      clear hx
      obtain ⟨fn, tmps, assign, body, hy, hR⟩ := hY _ (m - 1 - k) wr hJs (by rw [downs_length]; exact hlt)
      try dsimp only at hy
      have e1 : ((m : Int) - 1 - k).toNat = m - 1 - k := by omega
      have e2 : ((m - 1 - k : Nat) : Int) = (m : Int) - 1 - k := by omega
      rw [e2] at hy
      clear e2
      have hds := Lib.hid (downs_succ m k)
      generalize ((f (m - 1 - k)).1.1.toNat : Int) = q1 at *
      generalize (f (m - 1 - k)).1.2.1 = q2 at *
      generalize (f (m - 1 - k)).1.2.2 = q3 at *
      generalize (f (m - 1 - k)).2.1 = q4 at *
      generalize (f (m - 1 - k)).2.2.length = q5 at *
      generalize E (m - 1 - k) = q6 at *
      generalize ca (m - 1 - k) = q7 at *
      gi_wp2
      refine hR.mono ?_
      rintro e W3 (⟨rfl, hJ3, hk3⟩ | ⟨rfl, hJx3⟩)
      · gi_wp2
        go_roundw
        case rel => exact ⟨k + 1, by omega, by go_num, by rw [hds.out]; exact hJ3, hnx.trans hk3.1, hk3.2.trans hbs⟩
        case measure => simp [intOf]; omega
      · gi_wp2
        refine bodyPost_ret (results_none rfl _ _ _) rfl ?_
        exact ⟨⟨_, rfl⟩, .inr ⟨_, ⟨k + 1, by omega, hds.out.symm⟩, hJx3⟩⟩
    · obtain rfl : k = m := by omega
      gi_wp2
      go_end0
      exact ⟨⟨_, rfl⟩, .inl ⟨_, rfl, hJs⟩⟩

set_option maxHeartbeats 1000000 in
/-- slices.Backward(s): the slice value is boxed; the function value captures the box. -/
theorem backwardI_in (F : Fence) (n : Nat) (hf : F.fn 114) (hro : F.round = none) (a : Option Addr) (len cap : Nat) (w : World) :
    CallsIn F n Tryz.prog 114 #[.slice a len cap] w fun e w' => e = .returned (.func (.func 128) #[] #[.pointer (some ⟨w.heap.size, 0, none⟩)]) ∧ w' = w.alloc (.cells #[.slice a len cap] 43) := by
  refine callsIn_of_wp Tryz.func114 rfl hf ?_ hro
  simp only [Tryz.ntmps114, List.size_toArray, List.length_cons, List.length_nil, Nat.reduceAdd, Nat.reduceSub, Array.replicate_succ, Array.replicate_zero, List.push_toArray, List.append_toArray, List.nil_append, List.cons_append]
  gi_wp2
  go_ret
  exact ⟨rfl, rfl⟩

/-- slices.Backward(s) hands back a value that gives the elements from behind: all, or the first k of them. -/
theorem backwardI_stops (F : Fence) (n : Nat) (hf : F.fn 128) (hro : F.round = none) (hn : 1 ≤ n) (Bs n₀ cap m : Nat) (A : Option Addr) (ad : Addr) (f : Nat → It) (E : Nat → Option Addr) (ca : Nat → Nat) (hm : m ≤ 9223372036854775807) (w : World) (hBs : Bs < w.heap.size) (_hn₀ : n₀ ≤ w.heap.size)
    (hc : w.cell? ⟨Bs, 0, none⟩ = some (.slice A m cap)) (hA : 0 < m → A = some ad ∧ ad.block < n₀) (hx : ∀ j, j < m → At5 w (ad.add (j * 5)) (f j) (.slice (E j) (f j).2.2.length (ca j))) :
    SeqStopsK F n Tryz.prog 128 #[.pointer (some ⟨Bs, 0, none⟩)] (fun x : Nat => #[Value.int .i64 (x : Int), Value.agg #[.int .u8 ((f x).1.1.toNat : Int), .int .u32 (f x).1.2.1, .int .u32 (f x).1.2.2, .int .i64 (f x).2.1, .slice (E x) (f x).2.2.length (ca x)]]) (Keeps n₀ Bs) (fun ys => ys = downs m m)
      (fun pre => ∃ k, k ≤ m ∧ pre = downs m k) m w := fun l J Jx W hW _ _ hY h0 => by
  have hc' := (hW.cell (p := ⟨Bs, 0, none⟩) hBs).trans hc
  exact backI_in F n hf hro hn l Bs n₀ cap m A ad f E ca hm hA J Jx hY W hc' (fun j hj => (hx j hj).below hW) h0

/-- A row of items, as functions of the place. -/
theorem its_fn {w : World} {A : Option Addr} {n c : Nat} {xs : List It} (h : rIts (Old w) w [.slice A n c] xs) (hn : xs.length = n) :
    ∃ (ad : Addr) (f : Nat → It) (E : Nat → Option Addr) (ca : Nat → Nat), (0 < n → A = some ad ∧ ad.block < w.heap.size) ∧ (∀ i x, xs[i]? = some x → f i = x) ∧ ∀ i, i < n → At5 w (ad.add (i * 5)) (f i) (.slice (E i) (f i).2.2.length (ca i)) := by
  subst hn
  have h2 : ∀ i, ∃ g : It × Option Addr × Nat, ∀ x, xs[i]? = some x → g.1 = x ∧ ∃ ad, A = some ad ∧ ad.block < w.heap.size ∧ At5 w (ad.add (i * 5)) x (.slice g.2.1 x.2.2.length g.2.2) := fun i => by
    cases hx : xs[i]? with
    | none => exact ⟨(((0, 0, 0), 0, []), none, 0), fun x e => by cases e⟩
    | some x =>
      obtain ⟨ad, E, ce, rfl, hok, h5, _⟩ := its_at h hx
      exact ⟨(x, E, ce), fun y e => by cases e; exact ⟨rfl, ad, rfl, by have := h5.lt; rwa [add_block] at this, h5⟩⟩
  obtain ⟨g, hg⟩ : ∃ g : Nat → It × Option Addr × Nat, ∀ i x, xs[i]? = some x → (g i).1 = x ∧ ∃ ad, A = some ad ∧ ad.block < w.heap.size ∧ At5 w (ad.add (i * 5)) x (.slice (g i).2.1 x.2.2.length (g i).2.2) :=
    ⟨fun i => Classical.choose (h2 i), fun i => Classical.choose_spec (h2 i)⟩
  rcases A with _ | ad
  · refine ⟨⟨0, 0, none⟩, fun i => (g i).1, fun i => (g i).2.1, fun i => (g i).2.2, fun h0 => ?_, fun i x hi => (hg i x hi).1, fun i hi => ?_⟩
    · obtain ⟨_, _, e, _⟩ := hg 0 _ (List.getElem?_eq_getElem h0)
      cases e
    · obtain ⟨_, _, e, _⟩ := hg i _ (List.getElem?_eq_getElem hi)
      cases e
  · refine ⟨ad, fun i => (g i).1, fun i => (g i).2.1, fun i => (g i).2.2, fun h0 => ?_, fun i x hi => (hg i x hi).1, fun i hi => ?_⟩
    · obtain ⟨_, _, e, hb, _⟩ := hg 0 _ (List.getElem?_eq_getElem h0)
      cases e
      exact ⟨rfl, hb⟩
    · obtain ⟨e1, _, e, _, h5⟩ := hg i _ (List.getElem?_eq_getElem hi)
      cases e
      rw [← e1] at h5
      exact h5

/-! ### What is collected -/
def colF (lv : Int) (f : Nat → It) (pre : List Nat) : List Rf := rfsL lv (pre.map f)
theorem colF_zero {lv : Int} {f : Nat → It} {pre : List Nat} {x : Nat} (h : (f x).2.1 = 0) : colF lv f (pre ++ [x]) = colF lv f pre := by
  rw [colF, List.map_append, rfsL_app, List.map_cons, List.map_nil, rfsL_zero h, rfsL_nil, List.append_nil]
  rfl
theorem colF_more {lv : Int} {f : Nat → It} {pre : List Nat} {x : Nat} (h : (f x).2.1 ≠ 0) : colF lv f (pre ++ [x]) = colF lv f pre ++ [((f x).2.1, lv)] := by
  rw [colF, List.map_append, rfsL_app, List.map_cons, List.map_nil, rfsL_more h, rfsL_nil]
  rfl
theorem downs_all {f : Nat → It} {xs : List It} (h : ∀ i x, xs[i]? = some x → f i = x) : (downs xs.length xs.length).map f = xs.reverse := by
  refine List.ext_getElem (by simp [downs]) fun i h1 h2 => ?_
  have hi : i < xs.length := by simpa using h2
  simp only [downs, List.map_map, List.getElem_map, List.getElem_range, Function.comp, List.getElem_reverse]
  exact h _ _ (List.getElem?_eq_getElem (by omega))
theorem rfsL_rev (lv : Int) (l : List It) : rfsL lv l.reverse = (rfsL lv l).reverse := by simp [rfsL, List.filter_reverse]
theorem colF_all {lv : Int} {f : Nat → It} {xs : List It} (h : ∀ i x, xs[i]? = some x → f i = x) : colF lv f (downs xs.length xs.length) = (rfsL lv xs).reverse := by
  rw [colF, downs_all h, rfsL_rev]
end Go.Proofs.YtogieepfimpdmaaGreat

/-
  Package drop: refs, all references of a node, the last one first. Conditions: those that each lemma states.
-/
namespace Go.Proofs.YtogieepfimpdmaaGreat
open Go.RowKit Go.Shelf Go.Maps
attribute [local go_sem] Oper.semAt_some

theorem cells_two {w : World} {a b : Value} {t : TypeId} : ∀ j u, ([a, b] : List Value)[j]? = some u → (w.alloc (.cells #[a, b] t)).cell? ((⟨w.heap.size, 0, none⟩ : Addr).add j) = some u := by
  intro j u hj
  rw [add_off, Nat.zero_add, cell_of_row _ _ _ #[a, b] t _ (heap_alloc_new w _)]
  simpa using hj

/-- A block of another type stays where a row is pushed to, and the row's box is turned. -/
theorem block_appended {W w1 : World} {g B base size k : Nat} {cs : Array Value} {t e : TypeId} {tmp : Obj} {v v' : Value} {xs : List Value} (h : W.heap[g]? = some (.cells cs t (0, 0))) (hte : t ≠ e) (hr : W.ownsRow base e size v k xs) (hg : (W.alloc tmp).grownBy w1 v.ownBlock) (hB : g ≠ B) :
    (w1.setCell ⟨B, 0, none⟩ v').heap[g]? = some (.cells cs t (0, 0)) := by
  have hlt : g < W.heap.size := (Array.getElem?_eq_some_iff.1 h).1
  have hne : some g ≠ v.ownBlock := by
    rcases hr.2 with ⟨rfl, _⟩ | ⟨q, cap, cur, rfl, _, hq, _⟩
    · simp [Value.ownBlock]
    · intro e'
      obtain rfl : g = q := by simpa [Value.ownBlock] using e'
      rw [h] at hq
      simp at hq
      exact hte hq.2
  rw [Below.heap_setCell w1 ⟨B, 0, none⟩ v' g hB, hg.block g (by simp; omega) hne, Below.heap_alloc W tmp g hlt, h]

set_option maxRecDepth 100000 in
set_option maxHeartbeats 4000000 in
theorem refs_in (F : Fence) (n : Nat) (h3 : F.fn 97) (h5 : F.fn 114) (h7 : F.fn 128) (hro : F.round = none) (hn : 3 ≤ n)
    (v : Value) (nd : Nd) (h0 : 0 ≤ nd.1) (h6 : nd.1 < 6) (hl5 : nd.2.length ≤ 5) (w : World) (h : Nod (Old w) w v nd) :
    CallsIn F n Tryz.prog 97 #[v] w fun e W' => ∃ u, e = .returned u ∧ W'.ownsRow w.heap.size 104 2 u (rfsT nd).length (rfV (rfsT nd).reverse) ∧ Below w.heap.size w W' := by
  have h1 : 1 ≤ n := by omega
  obtain ⟨i0, hi, hz0, hz1, hz2⟩ := info_parts rf_info0
  obtain ⟨A, c, rfl, _, l1, m1, hI⟩ := h.open
  obtain ⟨m, hm⟩ : ∃ m, nd.2.length = m := ⟨_, rfl⟩
  obtain ⟨lv, hlv⟩ : ∃ lv, nd.1 = lv := ⟨_, rfl⟩
  rw [hm] at l1 hI hl5 ⊢
  obtain ⟨ad, f, E, ca, hA, hf, hc⟩ := its_fn hI hm
  have hcol : Hid (colF (lv - 1) f (downs m m) = (rfsT nd).reverse) := Lib.hid (by rw [← hm, colF_all hf, rfsT, hlv])
  rw [hlv] at h0 h6 ⊢
  replace hlv := Lib.hid hlv
  replace hm := Lib.hid hm
  replace hc := Lib.hid hc
  replace hA := Lib.hid hA
  replace hf := Lib.hid hf
  clear hI h
  refine callsIn_of_wp_marks Tryz.func97 rfl h3 ?_ hro
  simp only [Tryz.ntmps97, List.size_toArray, List.length_cons, List.length_nil, Nat.reduceAdd, Nat.reduceSub, Array.replicate_succ, Array.replicate_zero, List.push_toArray, List.append_toArray, List.nil_append, List.cons_append]
  gi_wp2_with (gi_at_call 114; refine (backwardI_in F (n - 1) h5 hro _ _ _ _).mono ?_; rintro e w' ⟨rfl, rfl⟩)
  obtain ⟨W0, hW0, hB0, hs0, b0, bx, b3⟩ : ∃ W0, ((w.alloc (.cells #[.int .i64 lv, .slice A m c] 45)).alloc (.cells #[.slice none 0 0] 162)).alloc (.cells #[.slice A m c] 43) = W0 ∧ Below w.heap.size w W0 ∧ W0.heap.size = w.heap.size + 3 ∧
      W0.heap[w.heap.size]? = some (.cells #[.int .i64 lv, .slice A m c] 45 (0, 0)) ∧ Boxed W0 (w.heap.size + 1) 162 (.slice none 0 0) ∧ Boxed W0 (w.heap.size + 1 + 1) 43 (.slice A m c) :=
    ⟨_, rfl, (((Below.refl _ w).alloc (Nat.le_refl _) _).alloc (by simp) _).alloc (by simp; omega) _, by simp, (Below.heap_alloc _ _ _ (by simp; omega)).trans ((Below.heap_alloc _ _ _ (by simp)).trans (heap_alloc_new w _)), ((by have := Boxed.new (w.alloc (.cells #[.int .i64 lv, .slice A m c] 45)) 162 (.slice none 0 0); simpa using this : Boxed ((w.alloc (.cells #[.int .i64 lv, .slice A m c] 45)).alloc (.cells #[.slice none 0 0] 162)) (w.heap.size + 1) 162 (.slice none 0 0))).alloc _, by have := Boxed.new ((w.alloc (.cells #[.int .i64 lv, .slice A m c] 45)).alloc (.cells #[.slice none 0 0] 162)) 43 (.slice A m c); simpa using this⟩
  rw [hW0]
  clear hW0
  have hlo : w.heap.size ≤ W0.heap.size := hB0.size
  have hA0 : 0 < m → A = some ad ∧ ad.block < w.heap.size := hA.out
  refine wpIn_rangeFunc_ownH hro h1 (gf := 128) (lb := #[.pointer (some ⟨w.heap.size + 1 + 1, 0, none⟩)]) rfl h7 (enters_of Tryz.func128 (by kernel_rfl) rfl)
    (backwardI_stops F (n - 1) h7 hro (by omega) (w.heap.size + 1 + 1) w.heap.size c m A ad f E ca (by omega) W0 (by omega) hlo b3.cell hA0 (fun j hj => (hc.out j hj).below hB0))
    (fun h h' => Keeps.trans h h') (fun W l o o' hl h1 h2 h3 => keeps_b (w := W0) (by omega) hlo l o o' hl h1 h2 h3) (Below.refl _ _) (fun _ => rfl)
    (fun pre W => ((∃ v, Boxed W (w.heap.size + 1) 162 v ∧ W.ownsRow w.heap.size 104 2 v (colF (lv - 1) f pre).length (rfV (colF (lv - 1) f pre)) ∧ True) ∧ (W.heap[w.heap.size]? = some (.cells #[.int .i64 lv, .slice A m c] 45 (0, 0)) ∧ Boxed W (w.heap.size + 1 + 1) 43 (.slice A m c))) ∧ Below w.heap.size w W)
    (fun _ _ _ => False)
    (OwnFrom.and (OwnFrom.and (Own.from (holdsRow_own w.heap.size (w.heap.size + 1) 162 104 2 (fun pre : List Nat => (colF (lv - 1) f pre).length) (fun pre => rfV (colF (lv - 1) f pre)) (fun _ _ => True)) _) (Own.from (fun s A B row hs hg hr => ⟨block_kept hs.1 hg hr, block_kept hs.2 hg hr⟩) _)) (ownFrom_below (Nat.le_refl _) hlo))
    (fun _ _ _ _ _ hs _ _ => hs)
    ⟨⟨⟨_, bx, World.ownsRow_nil _ _ _ _, trivial⟩, b0, b3⟩, hB0⟩
    (fun x a' W => ∃ g, a' = { tmps := #[.agg #[.int .i64 lv, .slice A m c], .pointer (some ⟨w.heap.size, 0, none⟩), .slice none 0 0, .pointer (some ⟨w.heap.size + 1, 0, none⟩), undef, .pointer (some ⟨g, 0, none⟩), .pointer (some ⟨w.heap.size, 1, none⟩), .slice A m c,
      .func (.func 128) #[] #[.pointer (some ⟨w.heap.size + 1 + 1, 0, none⟩)], .int .i64 (x : Int), .agg #[.int .u8 ((f x).1.1.toNat : Int), .int .u32 (f x).1.2.1, .int .u32 (f x).1.2.2, .int .i64 (f x).2.1, .slice (E x) (f x).2.2.length (ca x)], undef, undef, undef, undef, undef, undef, undef, undef, undef, undef, undef, undef, undef], defers := [] } ∧
      W.cell? ⟨g, 3, none⟩ = some (.int .i64 (f x).2.1))
    (fun x a' => Own.from (fun s A B row hs hg hr => by
      obtain ⟨g, e, h1⟩ := hs
      exact ⟨g, e, cell_kept h1 hg hr⟩) _) ?assign ?body ?done ?stop
  case assign =>
    rintro l pre x W K ⟨⟨⟨v, hv, hrow, _⟩, c0, c3⟩, hb⟩ hK
    have c3' := c3.cell
    gi_wp2
    exact hK _ _ ((KeepsOthers.alloc _ _).from _) ⟨(Below.refl _ W).alloc hb.size _, (Lib.cell?_alloc_some _ c3').trans c3'.symm⟩
      ⟨⟨⟨v, hv.alloc _, hrow.alloc _, trivial⟩, (Below.heap_alloc W _ _ (Array.getElem?_eq_some_iff.1 c0).1).trans c0, c3.alloc _⟩, hb.alloc hb.size _⟩ ⟨W.heap.size, rfl, by go_simp⟩
  case body =>
    rintro l pre x a' W hl hloop ⟨⟨⟨v, hv, hrow, _⟩, c0, c3⟩, hb⟩ ⟨g, rfl, g3⟩ hlen
    obtain ⟨q, hq⟩ : ∃ q, (f x).2.1 = q := ⟨_, rfl⟩
    rw [hq] at g3
    have d0 : W.cell? ⟨w.heap.size, 0, none⟩ = some (.int .i64 lv) := by rw [cell_of_row _ _ _ _ _ _ c0]; rfl
    by_cases he : q = 0
    · have he' : (q != 0) = false := by simp [he]
      have hcz : Hid (colF (lv - 1) f (pre ++ [x]) = colF (lv - 1) f pre) := Lib.hid (colF_zero (by rw [hq, he]))
      replace hq := Lib.hid hq
      replace he := Lib.hid he
      gi_wp2
      refine ⟨KeepsFrom.refl _ _, ⟨Below.refl _ _, rfl⟩, ⟨⟨v, hv, ?_, trivial⟩, c0, c3⟩, hb⟩
      rw [hcz.out]
      exact hrow
    · have he' : (q != 0) = true := by simpa using he
      have hcm : Hid (colF (lv - 1) f (pre ++ [x]) = colF (lv - 1) f pre ++ [(q, lv - 1)]) := Lib.hid (by rw [colF_more (by rw [hq]; exact he), hq])
      have hle : w.heap.size ≤ w.heap.size + 1 := by omega
      have hcell := hv.cell
      have hkl : Hid ((colF (lv - 1) f pre).length ≤ 1000000) := Lib.hid (by
        have := rfsL_len (lv - 1) (pre.map f)
        rw [List.length_map] at this
        exact Nat.le_trans this (by omega))
      obtain ⟨k, hk⟩ : ∃ k, (colF (lv - 1) f pre).length = k := ⟨_, rfl⟩
      rw [hk] at hrow hkl
      replace hk := Lib.hid hk
      have hwr : IntKind.i64.wrap (lv - 1) = lv - 1 := by rw [IntKind.wrap_i64]; omega
      replace hq := Lib.hid hq
      replace he := Lib.hid he
      gi_wp2_with (gi_at_builtin; refine wpListIn_append_own _ rfl _ _ 162 rfl w.heap.size 104 i0 (.agg #[.int .i64 0, .int .i64 0]) 2 16 Tryz.underlying162 hi hz0 hz1 hz2 rfl (by decide) _ _ _ rfl (hrow.alloc _) ⟨W.heap.size, 0, none⟩ 1 1 [.int .i64 q, .int .i64 (lv - 1)] rfl rfl cells_two (by simp [Value.oneCell']) (by unfold maxLen; have := hkl.out; omega) (by have := hkl.out; omega) (by have := hb.size; simp; omega) ?_; intro v' w1 hown' hgrow _; obtain ⟨g', cap', rfl⟩ := ownsRow_succ hown'; obtain ⟨hv1, hv2, hr2, hk2, hb2⟩ := hv.appended (by decide) hrow hb.size hle hown' hgrow; have hc1 := hv1.cell; have hf1 := hv1.frozen)
      have e0 := block_appended (v' := .slice (some ⟨g', 0, none⟩) (k + 1) cap') c0 (by decide) hrow hgrow (B := w.heap.size + 1) (by omega)
      have e3 : Boxed _ (w.heap.size + 1 + 1) 43 (.slice A m c) := block_appended (v' := .slice (some ⟨g', 0, none⟩) (k + 1) cap') c3 (by decide) hrow hgrow (B := w.heap.size + 1) (by omega)
      refine ⟨hk2.from _, ⟨hb2, e3.cell.trans c3.cell.symm⟩, ⟨⟨_, hv2, ?_, trivial⟩, e0, e3⟩, hb.trans hb2⟩
      rw [hcm.out, List.length_append, hk.out, rfV_app]
      exact hr2
  case done =>
    rintro D zs W hD rfl ⟨⟨⟨v, hv, hrow, _⟩, c0, c3⟩, hb⟩ hK
    have hcell := hv.cell
    rw [hcol.out, List.length_reverse] at hrow
    gi_wp2
    refine ⟨by simp, .inl ⟨_, _, rfl, run_takeDeferred hK, ?_⟩⟩
    have hrow' := ownsRow_putObj hrow (.deferred none) hK rfl
    refine ⟨_, results_tmp rfl _ _ _, v, rfl, hrow', hb.trans (belowK_b hlo _ D _ _ hD hK rfl rfl)⟩
  case stop =>
    rintro D c pre W _ _ h _
    exact h.elim

theorem refs_any (v : Value) (nd : Nd) (h0 : 0 ≤ nd.1) (h6 : nd.1 < 6) (hl5 : nd.2.length ≤ 5) (w : World) (h : Nod (Old w) w v nd) :
    Calls Tryz.prog 97 #[v] w fun e W' => ∃ u, e = .returned u ∧ W'.ownsRow w.heap.size 104 2 u (rfsT nd).length (rfV (rfsT nd).reverse) ∧ Below w.heap.size w W' :=
  callsIn_wide.1 (refs_in Fence.wide 3 trivial trivial trivial rfl (Nat.le_refl _) v nd h0 h6 hl5 w h)
end Go.Proofs.YtogieepfimpdmaaGreat

/-
  Package drop: lower, a stack that is gone through, its counts turned in a table of the caller's own. Conditions: those that each lemma states.
-/
namespace Go.Proofs.YtogieepfimpdmaaGreat
open Go.RowKit

theorem own_under {w w' : World} {B base g n c : Nat} {e : TypeId} {size : Nat} {xs : List Value} (h : w.ownsRow base e size (.slice (some ⟨g, 0, none⟩) n c) n xs) (hb : Below B w w') (hg : g < B) : w'.ownsRow base e size (.slice (some ⟨g, 0, none⟩) n c) n xs := by
  refine ⟨h.1, h.2.imp id ?_⟩
  rintro ⟨q, cap, cur, e1, h1, h2, h3⟩
  have hq : g = q := by
    simp only [Value.slice.injEq, Option.some.injEq, Addr.mk.injEq, and_true, true_and] at e1
    exact e1.1
  exact ⟨q, cap, cur, e1, h1, (hb.block q (by omega)).trans h2, h3⟩
/-- The last element is taken off. -/
theorem own_pop {w : World} {base g n c : Nat} {e : TypeId} {size : Nat} {xs ys : List Value} (h : w.ownsRow base e size (.slice (some ⟨g, 0, none⟩) (n + 1) c) (n + 1) (xs ++ ys)) (hx : xs.length = n * size) : w.ownsRow base e size (.slice (some ⟨g, 0, none⟩) n c) n xs := by
  refine ⟨hx, .inr ?_⟩
  rcases h.2 with ⟨e1, _⟩ | ⟨q, cap, cur, e1, h1, h2, h3, h4, h5, h6⟩
  · simp at e1
  · simp only [Value.slice.injEq, Option.some.injEq, Addr.mk.injEq, and_true, true_and] at e1
    obtain ⟨rfl, rfl⟩ := e1
    refine ⟨g, c, cur, rfl, h1, h2, by omega, h4, h5, ?_⟩
    have : (cur.toList.take ((n + 1) * size)).take (n * size) = (xs ++ ys).take (n * size) := by rw [h6]
    rw [List.take_take, Nat.min_eq_left (Nat.mul_le_mul_right _ (by omega))] at this
    rw [this, ← hx]
    exact List.take_left
theorem rf_app {w : World} {base base' n m : Nat} {ty : TypeId} {v u : Value} {a b : List Rf} (hown : w.ownsRow base 104 2 v n (rfV a)) (hu : w.ownsRow base' 104 2 u m (rfV b)) (h : n + m ≤ 1000000) (hbase : base ≤ w.heap.size) :
    ∃ v' w', (Builtin.append_ #[162, 162] ty #[v, u]).run Tryz.prog w = .ok v' w' ∧ w'.ownsRow base 104 2 v' (n + m) (rfV (a ++ b)) ∧ w.grownBy w' v.ownBlock ∧ Below base w w' := by
  obtain ⟨i0, hi, hz0, hz1, hz2⟩ := info_parts rf_info0
  obtain ⟨A, c, rfl, _, _, ho, _⟩ := own_any hu
  have hcs := fun g => hu.cells (g := g)
  rw [rfV_app]
  refine app_any base _ ty 104 i0 (.agg #[.int .i64 0, .int .i64 0]) 2 16 Tryz.underlying162 hi hz0 hz1 hz2 rfl (by decide) v n (rfV a) hown A m c (rfV b) hu.1 (fun j x hj => ?_) (rfV_one b) (by unfold maxLen; omega) (by omega) hbase
  rcases hu.2 with ⟨e, rfl⟩ | ⟨g, cap, cur, e, _⟩
  · have := hu.1
    rw [Nat.zero_mul] at this
    rw [List.eq_nil_of_length_eq_zero this] at hj
    simp at hj
  · cases e
    exact ⟨_, rfl, hcs _ rfl j x hj⟩

theorem last_of (l : List Rf) : l = [] ∨ ∃ a x, l = a ++ [x] := by
  rcases List.eq_nil_or_concat l with h | ⟨a, x, h⟩
  · exact .inl h
  · exact .inr ⟨a, x, by rw [h, List.concat_eq_append]⟩
/-- How much is counted in a table that lies in a block. -/
def msr (w : World) (g : Nat) : Nat := ((List.range 256).map fun j => match w.cell? ⟨g, j, none⟩ with
  | some (.int _ n) => n.toNat
  | _ => 0).sum
theorem msr_own {w : World} {base g c : Nat} {T : List UInt8} (h : w.ownsRow base 5 1 (.slice (some ⟨g, 0, none⟩) 256 c) 256 (u8s T)) : msr w g = allT T := by
  have hl : T.length = 256 := own_length h
  unfold msr allT
  congr 1
  refine List.ext_getElem (by simp [hl]) fun i h1 h2 => ?_
  have hi : i < 256 := by simpa using h1
  rw [List.getElem_map, List.getElem_map, List.getElem_range]
  rw [own_cell h hi]
  show ((T[i]?.getD 0).toNat : Int).toNat = _
  rw [List.getElem?_eq_getElem (by omega)]
  rfl

/-- What lower tells. -/
def LwP (s : Rm) (x : Rf) (t0 : List UInt8) (g c lo : Nat) (w w' : World) (e : Ending) : Prop := ∃ q : Int, e = .returned (.int .i64 q) ∧ w.grownBy w' (some g) ∧
  ((wkF s.1 x.2 t0 x.1.toNat = none ∧ q = 8) ∨ (∃ t, wkF s.1 x.2 t0 x.1.toNat = some t ∧ q = 0 ∧ w'.ownsRow lo 5 1 (.slice (some ⟨g, 0, none⟩) 256 c) 256 (u8s t)))

theorem box_lw (w : World) (a b c d e f : Value) : ∃ w1, (w.alloc (.cells #[a, b, c, d] 29)).alloc (.cells #[e, f] 104) = w1 ∧
    w1.heap[w.heap.size]? = some (.cells #[a, b, c, d] 29 (0, 0)) ∧ w1.heap[w.heap.size + 1]? = some (.cells #[e, f] 104 (0, 0)) ∧ w1.heap.size = w.heap.size + 2 ∧ Below w.heap.size w w1 := by
  refine ⟨_, rfl, alloc_block (heap_alloc_new _ _), ?_, by simp, ((Below.refl _ w).alloc (Nat.le_refl _) _).alloc (by simp) _⟩
  have := heap_alloc_new (w.alloc (.cells #[a, b, c, d] 29)) (.cells #[e, f] 104)
  rwa [World.size_alloc] at this

/-- What holds at each round. -/
def LwR (s : Rm) (t0 : List UInt8) (R : Option (List UInt8)) (g c lo : Nat) (w1 : World) (v : Value) (wr : World) : Prop := ∃ (st : List Rf) (T : List UInt8) (A : Option Addr) (sc : Nat), v = .slice A st.length sc ∧
  wr.ownsRow w1.heap.size 104 2 (.slice A st.length sc) st.length (rfV st) ∧ wr.ownsRow lo 5 1 (.slice (some ⟨g, 0, none⟩) 256 c) 256 (u8s T) ∧ w1.grownBy wr (some g) ∧
  runT s.1 T st.reverse = R ∧ LeT T t0 ∧ (∀ x ∈ st, Rfd x) ∧ st.length + 5 * allT T ≤ 400000

set_option maxRecDepth 100000 in
set_option maxHeartbeats 8000000 in
theorem lower_any (g c lo : Nat) (t0 : List UInt8) (v : Value) (s : Rm) (hm : mayR s = true) (a0 lv0 : Int) (hx0 : Rfd (a0, lv0)) (hle0 : LeT t0 s.2.1) (w : World) (hown : w.ownsRow lo 5 1 (.slice (some ⟨g, 0, none⟩) 256 c) 256 (u8s t0)) (h : Sto (Off g w) w v s) :
    Calls Tryz.prog 73 #[.slice (some ⟨g, 0, none⟩) 256 c, v, .agg #[.int .i64 a0, .int .i64 lv0]] w fun e w' => LwP s (a0, lv0) t0 g c lo w w' e := by
  obtain ⟨A, ca, B, cb, N, cn, L, cl, rfl, _⟩ := id h.open
  have hl0 : t0.length = 256 := own_length hown
  have hg0 : g < w.heap.size := ((hown.lt g rfl).2)
  obtain ⟨w1, hw1, f1, f2, hsz, hB⟩ := box_lw w (.slice A s.1.1.length ca) (.slice B s.1.2.length cb) (.slice N s.2.1.length cn) (.slice L s.2.2.length cl) (.int .i64 a0) (.int .i64 lv0)
  have H := Lib.hid (show Sto (Off g w1) w1 _ s from h.map fun _ _ hp hc => off_below hB hp hc)
  have HO := Lib.hid (own_below hown hB)
  have GB := Lib.hid (grow_of (row := some g) hB)
  obtain ⟨k0, k1, k2, k3, _, kg⟩ := four_cells f1
  obtain ⟨j0, j1, _, jg⟩ := two_cells f2
  have f1h := Lib.hid f1
  obtain ⟨R, hR⟩ : ∃ R, wkF s.1 lv0 t0 a0.toNat = R := ⟨_, rfl⟩
  have hgs : Hid (g < w.heap.size) := Lib.hid hg0
  have hsz' := Lib.hid hsz
  replace hl0 := Lib.hid hl0
  replace hle0 := Lib.hid hle0
  have hL1 : Hid (LwR s t0 R g c lo w1 (.slice (some ⟨w1.heap.size, 0, none⟩) 1 1) (w1.alloc (.cells #[.int .i64 a0, .int .i64 lv0] 104))) := Lib.hid (by
    refine ⟨[(a0, lv0)], t0, some ⟨w1.heap.size, 0, none⟩, 1, rfl, ?_, own_below HO.out ((Below.refl _ _).alloc (Nat.le_refl _) _), grow_of ((Below.refl _ _).alloc (Nat.le_refl _) _), ?_, LeT.refl _, ?_, ?_⟩
    · exact World.ownsRow_lit w1 #[.int .i64 a0, .int .i64 lv0] 1 (Nat.le_refl _) (by unfold maxLen; omega) rfl
    · show (wkF s.1 lv0 t0 a0.toNat).bind _ = R
      rw [hR]
      cases R <;> rfl
    · intro x hx
      rw [List.mem_singleton] at hx
      rw [hx]
      exact hx0
    · have := allT_le t0
      rw [hl0.out] at this
      show 1 + 5 * allT t0 ≤ 400000
      omega)
  replace hR := Lib.hid hR
  clear hown h f1 f2 hB hg0 hsz hx0
  go_enter Tryz.func73, Tryz.ntmps73
  go_upto_region 1 with fail
  clear hw1
  go_upto_region 2 with fail
  obtain ⟨W2, hW2⟩ : ∃ W2, w1.alloc (.cells #[.int .i64 a0, .int .i64 lv0] 104) = W2 := ⟨_, rfl⟩
  rw [hW2] at hL1 ⊢
  clear hW2 k0 k1 k2 k3 j0 j1 jg
  go_loopw [7] (fun vs wr => LwR s t0 R g c lo w1 vs wr) (fun _ wr => msr wr g)
  case atStart => exact hL1.out
  case round =>
    obtain ⟨st, T, E, sc, rfl, hst, hown, hgr, hrun, hle, hrf, hbd⟩ := hrel
    have GF := Lib.hid (grow_trans GB.out hgr)
    rcases last_of st with rfl | ⟨st', x, rfl⟩
    · have hfin : Hid (R = some T) := Lib.hid hrun.symm
      have HO2 := Lib.hid hown
      clear hst hown hgr hrun hle hrf hbd
      go_wp2_with fail
      go_ret
      exact ⟨0, rfl, GF.out, .inr ⟨T, hR.out.trans hfin.out, rfl, HO2.out⟩⟩
    obtain ⟨a, lv⟩ := x
    have hxd := hrf (a, lv) (by simp)
    obtain ⟨k, rfl⟩ : ∃ k : Nat, a = k := ⟨a.toNat, by have := hxd.1; dsimp only at this; omega⟩
    obtain ⟨h8, h256, hm1, h6⟩ := hxd
    dsimp only at h8 h256 hm1 h6
    have hrf' : Hid (∀ x ∈ st', Rfd x) := Lib.hid fun x hx => hrf x (by simp [hx])
    rw [List.reverse_append] at hrun
    replace hrun : (wkF s.1 lv T ((k : Int)).toNat).bind (fun u => runT s.1 u st'.reverse) = R := hrun
    rw [show ((k : Int)).toNat = k by omega] at hrun
    rw [rfV_app, List.length_append] at hst
    rw [List.length_append] at hbd
    obtain ⟨n, hn⟩ : ∃ n, st'.length = n := ⟨_, rfl⟩
    have e1 : (st' ++ [((k : Int), lv)]).length = n + 1 := by rw [List.length_append, hn]; rfl
    rw [e1]
    replace hst : wr.ownsRow w1.heap.size 104 2 (.slice E (n + 1) sc) (n + 1) (rfV st' ++ [.int .i64 (k : Int), .int .i64 lv]) := by
      rw [hn] at hst
      exact hst
    rw [hn] at hbd
    replace hbd : n + 1 + 5 * allT T ≤ 400000 := hbd
    obtain ⟨gs, cap, e2⟩ := ownsRow_succ hst
    cases e2
    have hrl : (rfV st').length = n * 2 := by rw [rfV_len, hn]
    have hc0 : wr.cell? ⟨gs, n * 2, none⟩ = some (.int .i64 (k : Int)) := by
      rw [hst.cellAt (n * 2) (by omega), List.getElem?_append_right (by omega), hrl, Nat.sub_self]
      rfl
    have hc1 : wr.cell? ⟨gs, n * 2 + 1, none⟩ = some (.int .i64 lv) := by
      rw [hst.cellAt (n * 2 + 1) (by omega), List.getElem?_append_right (by omega), hrl, show n * 2 + 1 - n * 2 = 1 by omega]
      rfl
    have hpop := own_pop hst hrl
    have hsc0 : Hid (n + 1 ≤ sc) := Lib.hid (by
      obtain ⟨_, _, e, hs, _⟩ := own_any hst
      cases e
      exact hs)
    clear hst e1 hrf
    obtain ⟨w5, hw5, b5, hs5, hB5⟩ := box_pair' wr (.int .i64 (k : Int)) (.int .i64 lv) 104
    have hown5 := own_below hown hB5
    have hpop5 := own_below hpop hB5
    have hgr5 := grow_later hgr (hB5.mono hgr.size)
    have hms : Hid (msr wr g = allT T) := Lib.hid (msr_own hown)
    obtain ⟨q0, q1, _, qg⟩ := two_cells b5
    have hrs : Hid (w1.heap.size ≤ wr.heap.size) := Lib.hid hgr.size
    clear hown hpop hgr hB5
    have n1 : IntKind.i64.wrap ((n : Int) + 1 - 1) = n := by rw [IntKind.wrap_i64]; omega
    go_upto_region 4 with fail
    clear hw5 hc0 hc1
    replace hs5 := Lib.hid hs5
    have hsc : n + 1 ≤ sc := by
      have := hsc0.out
      exact this
    have hs0 : (0 : Int) ≤ (n : Int) := by omega
    have hs2 : ¬ sc = 0 := by omega
    have hs3 : ¬ 0 = sc := by omega
    have hs4 : 0 < sc := by omega
    have hs5' : n ≤ sc := by omega
    clear hsc
    have hs1 : (n : Int) ≤ (sc : Int) := by omega
    clear hrl
    go_upto_region 5 with fail
    clear hs0 hs1 hs2 hs3 hs4 hs5' n1
    have hle0' : Hid (T[k]?.getD 0 ≠ 0 → asE s (k : Int) = 0) := Lib.hid fun hz => as_yes hm (by omega) (by omega) (fun e => hz (nat_zero.1 (by
      have h1 := (hle.trans hle0.out).le k
      rw [e] at h1
      exact Nat.le_zero.1 h1)))
    have hways := Lib.hid (fun hz => wk_ways (d := s.1) (lv := lv) (t := T) (a := k) hm1 h6 hz)
    have hnone := Lib.hid (fun hz => wk_none (d := s.1) (lv := lv) (t := T) (a := k) hz)
    have hdn := Lib.hid (fun hz => allT_dn (t := T) (a := k) hz)
    have hTl : Hid (T.length = 256) := Lib.hid (own_length hown5)
    have hcell := own_cell hown5 (j := k) (by omega)
    have hfr : w5.frozen? ⟨g, k, none⟩ = false := hown5.frozenAt k
    have k256 : k < 256 := by omega
    obtain ⟨y, hy⟩ : ∃ y, T[k]?.getD 0 = y := ⟨_, rfl⟩
    rw [hy] at hcell hle0' hways hnone hdn
    replace hy := Lib.hid hy
    have hgr5' := Lib.hid hgr5
    replace hrun := Lib.hid hrun
    replace hle := Lib.hid hle
    replace hbd := Lib.hid hbd
    replace hn := Lib.hid hn
    clear hgr5
    by_cases hy0 : y = 0
    · have t1 := byte_same (y := 0) (q := 0) rfl hy0
      have hN : Hid (R = none) := Lib.hid (by rw [← hrun.out, hnone.out hy0]; rfl)
      have GF5 := Lib.hid (grow_trans GB.out hgr5'.out)
      clear hown5 hpop5 b5 hy0
      go_wp2_with fail
      go_ret
      exact ⟨8, rfl, GF5.out, .inl ⟨hR.out.trans hN.out, rfl⟩⟩
    have t1 := byte_unlike (y := 0) (q := 0) rfl hy0
    obtain ⟨hu1, hu2, hu3⟩ := dn_byte hy0
    have hset := own_set hown5 k (y - 1)
    rw [← hu1] at hset
    have hg6 := grow_put (grow_refl w5 (some g)) (p := ⟨g, k, none⟩) rfl (.int .u8 ((y.toNat : Int) - 1))
    have hpop6 := hpop5.kept hg6 (.inr (fun e => by
      have := (hpop5.lt gs rfl).1
      have h0 := hgs.out
      have h1 := hsz'.out
      have e' : gs = g := by simpa [Value.ownBlock] using e
      omega))
    have hgr6 := grow_put hgr5'.out (p := ⟨g, k, none⟩) rfl (.int .u8 ((y.toNat : Int) - 1))
    have b6 := (hg6.block wr.heap.size qg (fun e => by
      have := hgr5'.out.size
      have h0 := hgs.out
      have h1 := hsz'.out
      have h2 := hgr5'.out.size
      have h4 : wr.heap.size = g := by simpa using e
      have h5 := hrs.out
      omega)).trans b5
    obtain ⟨w6, hw6⟩ : ∃ w6, w5.setCell ⟨g, k, none⟩ (.int .u8 ((y.toNat : Int) - 1)) = w6 := ⟨_, rfl⟩
    rw [hw6] at hset hg6 hpop6 hgr6 b6
    clear hown5 hpop5 b5
    replace hset := Lib.hid hset
    replace hpop6 := Lib.hid hpop6
    replace hgr6 := Lib.hid hgr6
    replace b6 := Lib.hid b6
    replace hu1 := Lib.hid hu1
    clear hg6
    go_upto_region 8 with fail
    clear hw6 hcell hfr q0 q1
    have c6 := own_cell hset.out (j := k) k256
    rw [set_get (by rw [hTl.out]; exact k256)] at c6
    obtain ⟨q0, q1, _, _⟩ := two_cells b6.out
    have hF1 := (hgr6.out.block w.heap.size kg (by
      have h0 := hgs.out
      simp
      omega)).trans f1h.out
    obtain ⟨k0, k1, k2, k3, _, _⟩ := four_cells hF1
    clear hF1
    have hS6 : Hid (Sto (Old w6) w6 (.agg #[.slice A s.1.1.length ca, .slice B s.1.2.length cb, .slice N s.2.1.length cn, .slice L s.2.2.length cl]) s) := Lib.hid ((H.out.map fun _ _ hp hc => off_put hgr6.out hp hc).map fun _ _ hp hc => off_old hp hc)
    have hms6 : Hid (msr w6 g < msr wr g) := Lib.hid (by
      rw [msr_own hset.out, hms.out]
      have := hdn.out hy0
      omega)
    have hle6 : Hid (LeT (T.set k (y - 1)) t0) := Lib.hid ((dnO_some (by rw [dnO, hy.out, if_neg hy0])).2.2.1.trans hle.out)
    have hal6 : Hid (allT (T.set k (y - 1)) + 1 = allT T) := Lib.hid (hdn.out hy0)
    have hT6 : Hid (∀ t, wkF s.1 lv T k = t → t.bind (fun u => runT s.1 u st'.reverse) = R) := Lib.hid fun t ht => by rw [← ht]; exact hrun.out
    obtain ⟨T', hT'⟩ : ∃ T', T.set k (y - 1) = T' := ⟨_, rfl⟩
    obtain ⟨z, hz⟩ : ∃ z, y - 1 = z := ⟨_, rfl⟩
    have hw2 := hways.out hy0
    rw [hT', hz] at hw2
    rw [hz] at c6
    rw [hT'] at hset hle6 hal6
    clear hT' hways hnone hdn
    rcases hw2 with ⟨hc, hF⟩ | ⟨hz0, hl, hnr, hF⟩ | ⟨hz0, hl, hr, hF⟩
    · have hrel6 : Hid (LwR s t0 R g c lo w1 (.slice (some ⟨gs, 0, none⟩) n sc) w6) := Lib.hid ⟨st', T', some ⟨gs, 0, none⟩, sc, by rw [hn.out], by rw [hn.out]; exact hpop6.out, hset.out, hgr6.out, hT6.out _ hF, hle6.out, hrf'.out, by have := hal6.out; have := hbd.out; have := hn.out; omega⟩
      replace hz := Lib.hid hz
      replace hF := Lib.hid hF
      clear hy0 t1
      by_cases hz0 : z = 0
      · have hlv := hc.resolve_left (fun h => h hz0)
        subst hz0
        subst hlv
        replace c6 : w6.cell? ⟨g, k, none⟩ = some (.int .u8 0) := c6
        clear hc
        go_wp2_with fail
        go_roundw
        case rel => exact hrel6.out
        case measure => exact hms6.out
      · have hz1 : 0 < z.toNat := by
          have : z.toNat ≠ 0 := fun e => hz0 (nat_zero.1 e)
          omega
        clear hc hz0
        go_wp2_with fail
        go_roundw
        case rel => exact hrel6.out
        case measure => exact hms6.out
    · have hN : Hid (R = none) := Lib.hid (hT6.out _ hF).symm
      have has := Lib.hid (hle0'.out hy0)
      have c7 : (lv == -1) = false := by simpa using hl
      subst hz0
      replace c6 : w6.cell? ⟨g, k, none⟩ = some (.int .u8 0) := c6
      replace hz := Lib.hid hz
      replace hF := Lib.hid hF
      replace hnr := Lib.hid hnr
      clear hy0 t1 hl
      go_wp2_with fail
      with_reducible refine (readD_any _ s k lv has.out _ hS6.out).mono ?_
      rintro e w7 ⟨u, q, nd, rfl, hq, hu, hb7⟩
      rcases hq with ⟨hr, _⟩ | ⟨_, rfl, _⟩
      · exact absurd hr hnr.out
      obtain ⟨P, pc, rfl, _⟩ := id hu.open
      obtain ⟨pl, hpl⟩ : ∃ pl, nd.2.length = pl := ⟨_, rfl⟩
      obtain ⟨pv, hpv⟩ : ∃ pv, nd.1 = pv := ⟨_, rfl⟩
      rw [hpl, hpv]
      obtain ⟨w8, hw8, b8, hs8, hB8⟩ := box_pair' w7 (.int .i64 pv) (.slice P pl pc) 45
      have G8 := Lib.hid (grow_trans GB.out (grow_later hgr6.out ((hb7.trans (hB8.mono hb7.size)).mono hgr6.out.size)))
      replace hs8 := Lib.hid hs8
      clear hu hpl hpv hb7 hB8 b8 q0 q1 c6 k0 k1 k2 k3
      go_upto_region 10 with fail
      clear hw8
      go_wp2_with fail
      go_ret
      exact ⟨8, rfl, G8.out, .inl ⟨hR.out.trans hN.out, rfl⟩⟩
    · have has := Lib.hid (hle0'.out hy0)
      have c7 : (lv == -1) = false := by simpa using hl
      subst hz0
      replace c6 : w6.cell? ⟨g, k, none⟩ = some (.int .u8 0) := c6
      replace hz := Lib.hid hz
      replace hF := Lib.hid hF
      replace hr := Lib.hid hr
      clear hy0 t1 hl
      go_wp2_with fail
      with_reducible refine (readD_any _ s k lv has.out _ hS6.out).mono ?_
      rintro e w7 ⟨u, q, nd, rfl, hq, hu, hb7⟩
      rcases hq with ⟨_, rfl, hnd⟩ | ⟨hnr, _⟩
      case inr => exact absurd hr.out hnr
      obtain ⟨P, pc, rfl, _⟩ := id hu.open
      obtain ⟨pl, hpl⟩ : ∃ pl, nd.2.length = pl := ⟨_, rfl⟩
      obtain ⟨pv, hpv⟩ : ∃ pv, nd.1 = pv := ⟨_, rfl⟩
      rw [hpl, hpv] at hu ⊢
      obtain ⟨w8, hw8, b8, hs8, hB8⟩ := box_pair' w7 (.int .i64 pv) (.slice P pl pc) 45
      have G8 := Lib.hid (grow_later hgr6.out ((hb7.trans (hB8.mono hb7.size)).mono hgr6.out.size))
      have N8 := Lib.hid (hu.drop.below hB8)
      have own8 := Lib.hid (own_below (own_below hset.out hb7) hB8)
      have pop8 := Lib.hid (own_below (own_below hpop6.out hb7) hB8)
      have hmn := (blkN_read hr.out.1).1
      rw [← hnd] at hF hmn
      obtain ⟨⟨s1, s2, s3, _⟩, _⟩ := mayN_of hmn
      have hrfs := Lib.hid (refs_may hmn)
      replace hs8 := Lib.hid hs8
      obtain ⟨q0, q1, _, _⟩ := two_cells b8
      have b8h := Lib.hid b8
      clear hu hb7 hB8 b8 c6 k0 k1 k2 k3
      go_upto_region 10 with fail
      clear hw8
      go_wp2_with fail
      with_reducible refine (refs_any (.agg #[.int .i64 pv, .slice P pl pc]) nd s1 s2 s3 _ N8.out).mono ?_
      rintro e w9 ⟨u9, rfl, hu9, hb9⟩
      obtain ⟨m, hm9⟩ : ∃ m, (rfsT nd).length = m := ⟨_, rfl⟩
      have hm5 : m ≤ 5 := by
        rw [← hm9]
        exact Nat.le_trans (rfsL_len _ _) s3
      rw [hm9] at hu9
      have own9 := own_below own8.out hb9
      have pop9 := own_below pop8.out hb9
      have G9 := grow_later G8.out (hb9.mono G8.out.size)
      obtain ⟨v', w10, hr10, ho10, _, hb10⟩ := rf_app (ty := 162) pop9 hu9 (by have := hbd.out; omega) G9.size
      obtain ⟨A10, c10, rfl, _⟩ := own_any ho10
      have H10 := Lib.hid hr10
      have hl10 : (st' ++ (rfsT nd).reverse).length = n + m := by rw [List.length_append, List.length_reverse, hn.out, hm9]
      have own10 := own_under own9 hb10 (by have h0 := hgs.out; have h1 := hsz'.out; omega)
      have hrel10 : Hid (LwR s t0 R g c lo w1 (.slice A10 (n + m) c10) w10) := Lib.hid ⟨st' ++ (rfsT nd).reverse, T', A10, c10, by rw [hl10], by rw [hl10]; exact ho10, own10, grow_later G9 hb10, (by
        rw [List.reverse_append, List.reverse_reverse, runT_app]
        exact hT6.out _ hF.out), hle6.out, fun x hx => (List.mem_append.1 hx).elim (hrf'.out x) (fun h => rfsL_ok (by omega) (by omega) hrfs.out x (List.mem_reverse.1 h)), (by rw [hl10]; have := hal6.out; have := hbd.out; omega)⟩
      have hms10 : Hid (msr w10 g < msr wr g) := Lib.hid (by
        have := hms6.out
        rwa [msr_own hset.out, ← msr_own own10] at this)
      clear hr10 ho10 hb10 own9 pop9 G9 hu9 hb9 own10 hl10 hm9 hm5
      go_wp2_with (at_builtin; refine wpList_append_run rfl _ _ _ rfl rfl rfl H10.out ?_; clear H10)
      go_roundw
      case rel => exact hrel10.out
      case measure => exact hms10.out
end Go.Proofs.YtogieepfimpdmaaGreat

/-
  Package drop: leave, Leave, Loose. Conditions: those that each lemma states.
-/
namespace Go.Proofs.YtogieepfimpdmaaGreat
open Go.RowKit

/-- What leave tells, at a level. -/
noncomputable def gdE (s : Rm) (lv a : Int) : Int := if asE s a = 0 then (match wkF s.1 lv s.2.1 a.toNat with | some _ => 0 | none => 8) else asE s a
noncomputable def gdV (s : Rm) (lv a : Int) : Rm := if asE s a = 0 then (match wkF s.1 lv s.2.1 a.toNat with | some t => (s.1, t, s.2.2) | none => emptyR) else emptyR
theorem gd_no {s : Rm} {lv a : Int} (h : asE s a ≠ 0) : gdE s lv a = asE s a ∧ gdV s lv a = emptyR := ⟨by rw [gdE, if_neg h], by rw [gdV, if_neg h]⟩
theorem gd_bad {s : Rm} {lv a : Int} (h : asE s a = 0) (h' : wkF s.1 lv s.2.1 a.toNat = none) : gdE s lv a = 8 ∧ gdV s lv a = emptyR := ⟨by rw [gdE, if_pos h, h'], by rw [gdV, if_pos h, h']⟩
theorem gd_ok {s : Rm} {lv a : Int} {t : List UInt8} (h : asE s a = 0) (h' : wkF s.1 lv s.2.1 a.toNat = some t) : gdE s lv a = 0 ∧ gdV s lv a = (s.1, t, s.2.2) := ⟨by rw [gdE, if_pos h, h'], by rw [gdV, if_pos h, h']⟩
theorem wk_six (d : Dk) (t : List UInt8) (a : Nat) : wkF d 6 t a = lfO d t a := by rw [wkF, if_pos rfl]
theorem wk_one (d : Dk) (t : List UInt8) (a : Nat) : wkF d (-1) t a = dnO t a := by
  rw [wkF, if_neg (by decide)]
  rfl
theorem as_in5 {s : Rm} {n : Int} (h : asE s n = 0) : ∃ k : Nat, n = k ∧ mayR s = true ∧ 8 ≤ k ∧ k < 256 ∧ s.2.1[k]?.getD 0 ≠ 0 := by
  obtain ⟨k, e, hm, h8, h256, _, _, _, _, hx⟩ := as_read h
  exact ⟨k, e, hm, h8, h256, hx⟩
theorem gd_leave (s : Rm) (a : Int) : gdE s 6 a = lvE s a ∧ gdV s 6 a = lvV s a := by
  unfold gdE gdV lvE lvV
  rw [wk_six]
  exact ⟨rfl, rfl⟩
theorem gd_loose (s : Rm) (a : Int) : gdE s (-1) a = asE s a ∧ gdV s (-1) a = loV s a := by
  unfold gdE gdV loV
  rw [wk_one]
  by_cases h : asE s a = 0
  · obtain ⟨k, rfl, _, _, _, hx⟩ := as_in5 h
    rw [show ((k : Int)).toNat = k by omega, dnO_yes hx]
    exact ⟨by rw [if_pos h, h], rfl⟩
  · exact ⟨by rw [if_neg h], by rw [if_neg h, if_neg h]⟩
theorem wk_le {d : Dk} {lv : Int} {t u : List UInt8} {a : Nat} (h : wkF d lv t a = some u) : LeT u t := by
  unfold wkF at h
  split at h
  · exact (lf_some h).2.1
  · exact lvF_le d _ t a u h

theorem box_lv (w : World) (a b c d e f : Value) : ∃ w1, ((w.alloc (.cells #[a, b, c, d] 29)).alloc (.cells #[e, f] 104)).alloc (.cells #[.slice none 0 0, .slice none 0 0, .slice none 0 0, .slice none 0 0] 29) = w1 ∧
    w1.heap[w.heap.size]? = some (.cells #[a, b, c, d] 29 (0, 0)) ∧ w1.heap[w.heap.size + 1]? = some (.cells #[e, f] 104 (0, 0)) ∧ w1.heap[w.heap.size + 2]? = some (.cells #[.slice none 0 0, .slice none 0 0, .slice none 0 0, .slice none 0 0] 29 (0, 0)) ∧ w1.heap.size = w.heap.size + 3 ∧ Below w.heap.size w w1 := by
  refine ⟨_, rfl, alloc_block (alloc_block (heap_alloc_new _ _)), alloc_block ?_, ?_, by simp, (((Below.refl _ w).alloc (Nat.le_refl _) _).alloc (by simp) _).alloc (by simp; omega) _⟩
  · have := heap_alloc_new (w.alloc (.cells #[a, b, c, d] 29)) (.cells #[e, f] 104)
    rwa [World.size_alloc] at this
  · have := heap_alloc_new ((w.alloc (.cells #[a, b, c, d] 29)).alloc (.cells #[e, f] 104)) (.cells #[.slice none 0 0, .slice none 0 0, .slice none 0 0, .slice none 0 0] 29)
    rwa [World.size_alloc, World.size_alloc] at this

set_option maxRecDepth 100000 in
set_option maxHeartbeats 8000000 in
theorem leaveD_any (v : Value) (s : Rm) (a lv : Int) (hlv : -1 ≤ lv ∧ lv ≤ 6) (w : World) (h : Sto (Old w) w v s) :
    Calls Tryz.prog 48 #[v, .agg #[.int .i64 a, .int .i64 lv]] w fun e w' => ∃ u, e = .returned (.tuple #[u, .int .i64 (gdE s lv a)]) ∧ Sto (New w.heap.size w') w' u (gdV s lv a) ∧ Below w.heap.size w w' := by
  obtain ⟨A, ca, B, cb, N, cn, L, cl, rfl, _⟩ := id h.open
  obtain ⟨w1, hw1, f1, f2, f3, hsz, hB⟩ := box_lv w (.slice A s.1.1.length ca) (.slice B s.1.2.length cb) (.slice N s.2.1.length cn) (.slice L s.2.2.length cl) (.int .i64 a) (.int .i64 lv)
  have H := Lib.hid (h.below hB)
  clear h
  obtain ⟨k0, k1, k2, k3, _, kg⟩ := four_cells f1
  obtain ⟨j0, j1, _, jg⟩ := two_cells f2
  replace hsz := Lib.hid hsz
  replace f3 := Lib.hid f3
  by_cases ha : asE s a = 0
  case neg =>
    obtain ⟨hE, hV⟩ := gd_no (lv := lv) ha
    obtain ⟨q, hq⟩ : ∃ q, asE s a = q := ⟨_, rfl⟩
    rw [hq] at ha hE
    have hq1 : (q != 0) = true := by simpa using ha
    replace hq := Lib.hid hq
    replace hE := Lib.hid hE
    replace hV := Lib.hid hV
    clear ha
    go_enter Tryz.func48, Tryz.ntmps48
    go_upto_region 1 with fail
    clear hw1
    go_wp2_with fail
    with_reducible refine (heldD_any _ s a _ H.out).mono ?_
    rintro e w2 ⟨rfl, hb2⟩
    rw [hq.out]
    have F2 := (hb2.block (w.heap.size + 2) (by rw [hsz.out]; omega)).trans f3.out
    replace hb2 := Lib.hid (hB.trans (hb2.mono hB.size))
    clear k0 k1 k2 k3 kg j0 j1 jg f1 f2 hB
    obtain ⟨k0, k1, k2, k3, k4, k5⟩ := four_cells F2
    obtain ⟨W9, hW9, g9, gr9, gs9⟩ := put_four (a' := .slice none 0 0) (b' := .slice none 0 0) (c' := .slice none 0 0) (d' := .slice none 0 0) F2
    obtain ⟨n0, n1, n2, n3, _, _⟩ := four_cells g9
    have hB9 := Lib.hid ((hb2).out.grown gr9 (hb2).out.size (fun q e => by cases e; omega))
    replace g9 := Lib.hid g9
    replace F2 := Lib.hid F2
    clear gr9 gs9
    go_wp2_with fail
    refine bodyPost_ret (v := .tuple #[.agg #[.slice none 0 0, .slice none 0 0, .slice none 0 0, .slice none 0 0], .int .i64 q]) (by simp [results, Tryz.results48, go_sem, n0, n1, n2, n3]) rfl ?_
    rw [hE.out, hV.out]
    exact ⟨_, rfl, sto_empty _ _, hB9.out⟩
  obtain ⟨k, hk, hm, h8, h256, hx⟩ := as_in5 ha
  subst hk
  have hax := Lib.hid ha
  have hlen := Lib.hid (mayT_len (mayR_of hm).2.1)
  obtain ⟨R, hR⟩ : ∃ R, wkF s.1 lv s.2.1 ((k : Int)).toNat = R := ⟨_, rfl⟩
  have hrd : Hid (Rfd ((k : Int), lv)) := Lib.hid ⟨by show (8 : Int) ≤ k; omega, by show (k : Int) < 256; omega, hlv.1, hlv.2⟩
  replace hR := Lib.hid hR
  replace hx := Lib.hid hx
  clear ha hlv h8 h256
  go_enter Tryz.func48, Tryz.ntmps48
  go_upto_region 1 with fail
  clear hw1
  go_wp2_with fail
  with_reducible refine (heldD_any _ s (k : Int) _ H.out).mono ?_
  rintro e w2 ⟨rfl, hb2⟩
  rw [hax.out]
  have F1 := (hb2.block w.heap.size kg).trans f1
  have F2 := (hb2.block (w.heap.size + 1) jg).trans f2
  have F3 := Lib.hid ((hb2.block (w.heap.size + 2) (by rw [hsz.out]; omega)).trans f3.out)
  have H2 := Lib.hid (H.out.below hb2)
  have s2 : Hid (w.heap.size + 3 ≤ w2.heap.size) := Lib.hid (by have := hb2.size; have := hsz.out; omega)
  have B2 := Lib.hid (hB.trans (hb2.mono hB.size))
  clear k0 k1 k2 k3 kg j0 j1 jg f1 f2 hb2 hB
  obtain ⟨k0, k1, k2, k3, _, kg⟩ := four_cells F1
  obtain ⟨j0, j1, _, jg⟩ := two_cells F2
  go_wp2_with fail
  obtain ⟨_, _, e9, l1, m1, hby⟩ := rBy_byt (B := w2.heap.size) (fun _ h => h) H2.out.parts.2.1
  cases e9
  with_reducible refine (clone_any N s.2.1.length cn s.2.1 (Lib.hid rfl) (by rw [hlen.out]; omega) _ hby).mono ?_
  rintro e w3 ⟨u, rfl, hu3, hb3⟩
  obtain ⟨g, c2, rfl, hg1, hg2, hg3, hg4⟩ := own_head hu3 (by rw [hlen.out]; omega)
  rw [hlen.out] at hu3 ⊢
  have G1 := (hb3.block w.heap.size kg).trans F1
  have G2 := (hb3.block (w.heap.size + 1) jg).trans F2
  have G3 := Lib.hid ((hb3.block (w.heap.size + 2) (by have := s2.out; omega)).trans F3.out)
  have H3 := Lib.hid (show Sto (Off g w3) w3 _ s from H2.out.map fun _ _ hp hc => off_low hb3 hg1 hp hc)
  have O3 := Lib.hid hu3
  have B3 := Lib.hid (B2.out.trans (hb3.mono B2.out.size))
  have hgw : Hid (w.heap.size + 3 ≤ g) := Lib.hid (by have := s2.out; omega)
  clear k0 k1 k2 k3 kg j0 j1 jg F1 F2 F3 hb3 B2 H2 hby l1 m1 hu3 hg1
  obtain ⟨k0, k1, k2, k3, _, kg⟩ := four_cells G1
  obtain ⟨j0, j1, _, jg⟩ := two_cells G2
  go_wp2_with fail
  with_reducible refine (lower_any g c2 w2.heap.size s.2.1 _ s hm (k : Int) lv hrd.out (LeT.refl _) _ O3.out H3.out).mono ?_
  rintro e w4 ⟨q, rfl, hgr, hq⟩
  have E1 := (hgr.block w.heap.size kg (by have := hgw.out; simp; omega)).trans G1
  have E3 := (hgr.block (w.heap.size + 2) (by have := G3.out; exact (Array.getElem?_eq_some_iff.1 this).1) (by have := hgw.out; simp; omega)).trans G3.out
  have B4 := Lib.hid (B3.out.grown hgr B3.out.size (fun q e => by cases e; have := hgw.out; omega))
  have H4 := Lib.hid (show Sto (Old w4) w4 _ s from (H3.out.map fun _ _ hp hc => off_put hgr hp hc).map fun _ _ hp hc => off_old hp hc)
  clear k0 k1 k2 k3 kg j0 j1 jg G1 G2 G3 B3 H3 O3 hgr
  rcases hq with ⟨hN, rfl⟩ | ⟨t, hS, rfl, hown⟩
  · obtain ⟨hE, hV⟩ := gd_bad hax.out hN
    replace hE := Lib.hid hE
    replace hV := Lib.hid hV
    replace hN := Lib.hid hN
    clear E1
    obtain ⟨k0, k1, k2, k3, k4, k5⟩ := four_cells E3
    obtain ⟨W9, hW9, g9, gr9, gs9⟩ := put_four (a' := .slice none 0 0) (b' := .slice none 0 0) (c' := .slice none 0 0) (d' := .slice none 0 0) E3
    obtain ⟨n0, n1, n2, n3, _, _⟩ := four_cells g9
    have hB9 := Lib.hid ((B4).out.grown gr9 (B4).out.size (fun q e => by cases e; omega))
    replace g9 := Lib.hid g9
    replace E3 := Lib.hid E3
    clear gr9 gs9
    go_wp2_with fail
    refine bodyPost_ret (v := .tuple #[.agg #[.slice none 0 0, .slice none 0 0, .slice none 0 0, .slice none 0 0], .int .i64 8]) (by simp [results, Tryz.results48, go_sem, n0, n1, n2, n3]) rfl ?_
    rw [hE.out, hV.out]
    exact ⟨_, rfl, sto_empty _ _, hB9.out⟩
  · obtain ⟨hE, hV⟩ := gd_ok hax.out hS
    have hle := wk_le hS
    have htl : t.length = 256 := hle.len.trans hlen.out
    have hmS : mayR (s.1, t, s.2.2) = true := mayR_mk (mayR_of hm).1 (hle.may (mayR_of hm).2.1) (mayR_of hm).2.2
    have hsm := Lib.hid (smallR_may hmS)
    have T4 : Hid (Sto (Old w4) w4 (.agg #[.slice A s.1.1.length ca, .slice B s.1.2.length cb, .slice (some ⟨g, 0, none⟩) 256 c2, .slice L s.2.2.length cl]) (s.1, t, s.2.2)) := Lib.hid (Sto.mk H4.out.parts.1 (stab_by.drop (own_by hown)) H4.out.parts.2.2)
    replace hE := Lib.hid hE
    replace hV := Lib.hid hV
    replace hS := Lib.hid hS
    obtain ⟨k0, k1, k2, k3, _, kg⟩ := four_cells E1
    replace E3 := Lib.hid E3
    clear hown hle
    go_wp2_with fail
    with_reducible refine (twinR_any _ (s.1, t, s.2.2) hsm.out _ T4.out).mono ?_
    rintro e w5 ⟨A5, a5, B5, b5, N5, n5, L5, l5, rfl, h5, hb5⟩
    have F5 := (hb5.block (w.heap.size + 2) (by have := B4.out.size; have := (Array.getElem?_eq_some_iff.1 E3.out).1; omega)).trans E3.out
    have s5 : Hid (w.heap.size + 2 < w4.heap.size) := Lib.hid (Array.getElem?_eq_some_iff.1 E3.out).1
    obtain ⟨o0, o1, o2, o3, _, _⟩ := four_cells F5
    obtain ⟨W9, hW9, g9, gr9, gs9⟩ := put_four (a' := .slice A5 s.1.1.length a5) (b' := .slice B5 s.1.2.length b5) (c' := .slice N5 t.length n5) (d' := .slice L5 s.2.2.length l5) F5
    obtain ⟨n0, n1, n2, n3, _, _⟩ := four_cells g9
    have hfin := Lib.hid (show Sto (New w.heap.size W9) W9 (.agg #[.slice A5 s.1.1.length a5, .slice B5 s.1.2.length b5, .slice N5 t.length n5, .slice L5 s.2.2.length l5]) (s.1, t, s.2.2) from
      (h5.grown gr9 (fun q e => by cases e; exact s5.out)).new B4.out.size (Below.refl _ _))
    have hB9 := Lib.hid ((B4.out.trans (hb5.mono B4.out.size)).grown gr9 (Nat.le_trans B4.out.size hb5.size) (fun q e => by cases e; omega))
    replace F5 := Lib.hid F5
    replace g9 := Lib.hid g9
    replace htl := Lib.hid htl
    clear gr9 gs9 h5 hb5 k0 k1 k2 k3 kg E1
    go_wp2_with fail
    refine bodyPost_ret (v := .tuple #[.agg #[.slice A5 s.1.1.length a5, .slice B5 s.1.2.length b5, .slice N5 t.length n5, .slice L5 s.2.2.length l5], .int .i64 0]) (by simp [results, Tryz.results48, go_sem, n0, n1, n2, n3]) rfl ?_
    rw [hE.out, hV.out]
    exact ⟨_, rfl, hfin.out, hB9.out⟩
end Go.Proofs.YtogieepfimpdmaaGreat

/-
  Package drop: Leave, Loose. Conditions: those that each lemma states.
-/
namespace Go.Proofs.YtogieepfimpdmaaGreat
open Go.RowKit

set_option maxRecDepth 100000 in
set_option maxHeartbeats 8000000 in
theorem leaveV_any (v : Value) (s : Rm) (n : Int) (w : World) (h : Sto (Old w) w v s) :
    Calls Tryz.prog 28 #[v, .int .i64 n] w fun e w' => ∃ u, e = .returned (.tuple #[u, .int .i64 (lvE s n)]) ∧ Sto (New w.heap.size w') w' u (lvV s n) ∧ Below w.heap.size w w' := by
  obtain ⟨A, ca, B, cb, N, cn, L, cl, w1, rfl, hw1, f1, f2, hsz, hB, H⟩ := box_sto2 h
  clear h
  obtain ⟨k0, k1, k2, k3, _, kg⟩ := four_cells f1
  replace hsz := Lib.hid hsz
  replace f2 := Lib.hid f2
  go_enter Tryz.func28, Tryz.ntmps28
  go_upto_region 1 with fail
  clear hw1
  go_wp2_with fail
  with_reducible refine (leaveD_any _ s n 6 (by decide) _ H.out).mono ?_
  rintro e w2 ⟨u, rfl, hu, hb2⟩
  rw [(gd_leave s n).1]
  rw [(gd_leave s n).2] at hu
  obtain ⟨q, hq⟩ : ∃ q, gdE s 6 n = q := ⟨_, rfl⟩
  have hq' := Lib.hid ((gd_leave s n).1.symm.trans hq)
  clear hq
  rw [hq'.out]
  obtain ⟨V, hV⟩ : ∃ V, gdV s 6 n = V := ⟨_, rfl⟩
  have hV' := Lib.hid ((gd_leave s n).2.symm.trans hV)
  clear hV
  rw [hV'.out] at hu
  obtain ⟨P, p, Q, r, Y, y, X, x, rfl, _⟩ := id hu.open
  have F2 := (hb2.block (w.heap.size + 1) (by rw [hsz.out]; omega)).trans f2.out
  obtain ⟨o0, o1, o2, o3, _, _⟩ := four_cells F2
  obtain ⟨W9, hW9, g9, gr9, gs9⟩ := put_four (a' := .slice P V.1.1.length p) (b' := .slice Q V.1.2.length r) (c' := .slice Y V.2.1.length y) (d' := .slice X V.2.2.length x) F2
  obtain ⟨n0, n1, n2, n3, _, _⟩ := four_cells g9
  have hfin := Lib.hid (show Sto (New w.heap.size W9) W9 _ V from (hu.grown gr9 (fun q e => by cases e; rw [hsz.out]; omega)).new hB.size (Below.refl _ _))
  have hB9 := Lib.hid ((hB.trans (hb2.mono hB.size)).grown gr9 (Nat.le_trans hB.size hb2.size) (fun q e => by cases e; omega))
  replace F2 := Lib.hid F2
  replace g9 := Lib.hid g9
  clear gr9 gs9 hu hb2 k0 k1 k2 k3 kg f1
  go_wp2_with fail
  refine bodyPost_ret (v := .tuple #[.agg #[.slice P V.1.1.length p, .slice Q V.1.2.length r, .slice Y V.2.1.length y, .slice X V.2.2.length x], .int .i64 q]) (by simp [results, Tryz.results28, go_sem, n0, n1, n2, n3]) rfl ?_
  rw [hq'.out, hV'.out]
  exact ⟨_, rfl, hfin.out, hB9.out⟩
set_option maxRecDepth 100000 in
set_option maxHeartbeats 8000000 in
theorem looseV_any (v : Value) (s : Rm) (n : Int) (w : World) (h : Sto (Old w) w v s) :
    Calls Tryz.prog 69 #[v, .int .i64 n] w fun e w' => ∃ u, e = .returned (.tuple #[u, .int .i64 (asE s n)]) ∧ Sto (New w.heap.size w') w' u (loV s n) ∧ Below w.heap.size w w' := by
  obtain ⟨A, ca, B, cb, N, cn, L, cl, w1, rfl, hw1, f1, f2, hsz, hB, H⟩ := box_sto2 h
  clear h
  obtain ⟨k0, k1, k2, k3, _, kg⟩ := four_cells f1
  replace hsz := Lib.hid hsz
  replace f2 := Lib.hid f2
  go_enter Tryz.func69, Tryz.ntmps69
  go_upto_region 1 with fail
  clear hw1
  go_wp2_with fail
  with_reducible refine (leaveD_any _ s n (-1) (by decide) _ H.out).mono ?_
  rintro e w2 ⟨u, rfl, hu, hb2⟩
  rw [(gd_loose s n).1]
  rw [(gd_loose s n).2] at hu
  obtain ⟨q, hq⟩ : ∃ q, gdE s (-1) n = q := ⟨_, rfl⟩
  have hq' := Lib.hid ((gd_loose s n).1.symm.trans hq)
  clear hq
  rw [hq'.out]
  obtain ⟨V, hV⟩ : ∃ V, gdV s (-1) n = V := ⟨_, rfl⟩
  have hV' := Lib.hid ((gd_loose s n).2.symm.trans hV)
  clear hV
  rw [hV'.out] at hu
  obtain ⟨P, p, Q, r, Y, y, X, x, rfl, _⟩ := id hu.open
  have F2 := (hb2.block (w.heap.size + 1) (by rw [hsz.out]; omega)).trans f2.out
  obtain ⟨o0, o1, o2, o3, _, _⟩ := four_cells F2
  obtain ⟨W9, hW9, g9, gr9, gs9⟩ := put_four (a' := .slice P V.1.1.length p) (b' := .slice Q V.1.2.length r) (c' := .slice Y V.2.1.length y) (d' := .slice X V.2.2.length x) F2
  obtain ⟨n0, n1, n2, n3, _, _⟩ := four_cells g9
  have hfin := Lib.hid (show Sto (New w.heap.size W9) W9 _ V from (hu.grown gr9 (fun q e => by cases e; rw [hsz.out]; omega)).new hB.size (Below.refl _ _))
  have hB9 := Lib.hid ((hB.trans (hb2.mono hB.size)).grown gr9 (Nat.le_trans hB.size hb2.size) (fun q e => by cases e; omega))
  replace F2 := Lib.hid F2
  replace g9 := Lib.hid g9
  clear gr9 gs9 hu hb2 k0 k1 k2 k3 kg f1
  go_wp2_with fail
  refine bodyPost_ret (v := .tuple #[.agg #[.slice P V.1.1.length p, .slice Q V.1.2.length r, .slice Y V.2.1.length y, .slice X V.2.2.length x], .int .i64 q]) (by simp [results, Tryz.results69, go_sem, n0, n1, n2, n3]) rfl ?_
  rw [hq'.out, hV'.out]
  exact ⟨_, rfl, hfin.out, hB9.out⟩
end Go.Proofs.YtogieepfimpdmaaGreat

/-
  Package drop: Make. Conditions: those that each lemma states.
-/
namespace Go.Proofs.YtogieepfimpdmaaGreat
open Go.RowKit

theorem mkE_store {s : Rm} {n : Nd} (h : mayR s = false) : mkE s n = 8 := by rw [mkE, h]; rfl
theorem mkE_node {s : Rm} {n : Nd} (h : mayN n = false) : mkE s n = 8 := by rw [mkE, h]; simp

set_option maxRecDepth 100000 in
set_option maxHeartbeats 8000000 in
theorem makeV_any (v u : Value) (s : Rm) (n : Nd) (w : World) (h : Sto (Old w) w v s) (hu : Nod (Old w) w u n) :
    Calls Tryz.prog 40 #[v, u] w fun e w' => ∃ t, e = .returned (.tuple #[t, .int .i64 (mkN s n), .int .i64 (mkE s n)]) ∧ Sto (New w.heap.size w') w' t (mkV s n) ∧ Below w.heap.size w w' := by
  obtain ⟨A, ca, B, cb, N, cn, L, cl, rfl, _⟩ := id h.open
  obtain ⟨I, ci, rfl, _⟩ := id hu.open
  obtain ⟨w1, hw1, f1, fn, f2, hsz, hB⟩ := box_three3 (w := w) (.slice A s.1.1.length ca) (.slice B s.1.2.length cb) (.slice N s.2.1.length cn) (.slice L s.2.2.length cl) (.int .i64 n.1) (.slice I n.2.length ci)
  have H := Lib.hid (h.below hB)
  have U := Lib.hid (hu.below hB)
  clear h hu
  obtain ⟨k0, k1, k2, k3, _, kg⟩ := four_cells f1
  obtain ⟨p0, p1, _, pg⟩ := two_cells fn
  replace hsz := Lib.hid hsz
  replace f2 := Lib.hid f2
  cases hm : mayR s with
  | false =>
    have hE := mkE_store (n := n) hm
    obtain ⟨hN, hV⟩ := mk_no (s := s) (n := n) (by rw [hE]; decide)
    have e1 := chkR_bad hm
    replace hE := Lib.hid hE
    replace hN := Lib.hid hN
    replace hV := Lib.hid hV
    go_enter Tryz.func40, Tryz.ntmps40
    go_upto_region 1 with fail
    clear hw1
    go_wp2_with fail
    with_reducible refine (checkR_any _ s _ H.out).mono ?_
    rintro e w2 ⟨rfl, hb2⟩
    rw [e1]
    have F2 := (hb2.block (w.heap.size + 2) (by rw [hsz.out]; omega)).trans f2.out
    replace hb2 := Lib.hid (hB.trans (hb2.mono hB.size))
    clear k0 k1 k2 k3 kg p0 p1 pg f1 fn hB e1 hm
    obtain ⟨k0, k1, k2, k3, k4, k5⟩ := four_cells F2
    obtain ⟨W9, hW9, g9, gr9, gs9⟩ := put_four (a' := .slice none 0 0) (b' := .slice none 0 0) (c' := .slice none 0 0) (d' := .slice none 0 0) F2
    obtain ⟨n0, n1, n2, n3, _, _⟩ := four_cells g9
    have hB9 := Lib.hid ((hb2).out.grown gr9 (hb2).out.size (fun q e => by cases e; omega))
    replace g9 := Lib.hid g9
    replace F2 := Lib.hid F2
    clear gr9 gs9
    go_wp2_with fail
    refine bodyPost_ret (v := .tuple #[.agg #[.slice none 0 0, .slice none 0 0, .slice none 0 0, .slice none 0 0], .int .i64 0, .int .i64 8]) (by simp [results, Tryz.results40, go_sem, n0, n1, n2, n3]) rfl ?_
    rw [hE.out, hN.out, hV.out]
    exact ⟨_, rfl, sto_empty _ _, hB9.out⟩
  | true =>
  have e1 := chkR_ok hm
  obtain ⟨b, hb⟩ : ∃ b, wrN n = b := ⟨_, rfl⟩
  obtain ⟨q, hq⟩ : ∃ q, chkN n = q := ⟨_, rfl⟩
  replace hb := Lib.hid hb
  replace hq := Lib.hid hq
  have hlen := Lib.hid (mayT_len (mayR_of hm).2.1)
  go_enter Tryz.func40, Tryz.ntmps40
  go_upto_region 1 with fail
  clear hw1
  go_wp2_with fail
  with_reducible refine (checkR_any _ s _ H.out).mono ?_
  rintro e w2 ⟨rfl, hb2⟩
  rw [e1]
  have F1 := (hb2.block w.heap.size kg).trans f1
  have Fn := (hb2.block (w.heap.size + 1) pg).trans fn
  have F2 := (hb2.block (w.heap.size + 2) (by rw [hsz.out]; omega)).trans f2.out
  have H2 := H.out.below hb2
  have U2 := U.out.below hb2
  have s2 : Hid (w.heap.size + 3 ≤ w2.heap.size) := Lib.hid (by have := hb2.size; have := hsz.out; omega)
  have B2 := Lib.hid (hB.trans (hb2.mono hB.size))
  clear k0 k1 k2 k3 kg p0 p1 pg f1 fn hb2 hB f2 e1 H U
  obtain ⟨k0, k1, k2, k3, _, kg⟩ := four_cells F1
  obtain ⟨p0, p1, _, pg⟩ := two_cells Fn
  replace F2 := Lib.hid F2
  replace H2 := Lib.hid H2
  replace U2 := Lib.hid U2
  go_wp2_with fail
  with_reducible refine (nodeWrite_any _ n _ U2.out).mono ?_
  rintro e w3 ⟨u3, rfl, h3, hb3⟩
  rw [hq.out]
  rw [hb.out] at h3
  obtain ⟨E, ce, rfl, _⟩ := id (rBy_open h3)
  have G1 := (hb3.block w.heap.size kg).trans F1
  have Gn := (hb3.block (w.heap.size + 1) pg).trans Fn
  have G2 := (hb3.block (w.heap.size + 2) (by have := s2.out; omega)).trans F2.out
  have H3 := H2.out.below hb3
  have U3 := U2.out.below hb3
  have s3 : Hid (w.heap.size + 3 ≤ w3.heap.size) := Lib.hid (by have := hb3.size; have := s2.out; omega)
  have B3 := Lib.hid (B2.out.trans (hb3.mono B2.out.size))
  have R3 := Lib.hid (stab_by.drop h3)
  clear k0 k1 k2 k3 kg p0 p1 pg F1 Fn hb3 F2 H2 U2 B2 h3 s2
  cases hn : mayN n with
  | false =>
    have hE := mkE_node (s := s) hn
    obtain ⟨hN, hV⟩ := mk_no (s := s) (n := n) (by rw [hE]; decide)
    have hq8 : q = 8 := by rw [← hq.out, chkN, hn]; rfl
    subst hq8
    replace hE := Lib.hid hE
    replace hN := Lib.hid hN
    replace hV := Lib.hid hV
    clear H3 U3 G1 Gn hn hm
    obtain ⟨k0, k1, k2, k3, k4, k5⟩ := four_cells G2
    obtain ⟨W9, hW9, g9, gr9, gs9⟩ := put_four (a' := .slice none 0 0) (b' := .slice none 0 0) (c' := .slice none 0 0) (d' := .slice none 0 0) G2
    obtain ⟨n0, n1, n2, n3, _, _⟩ := four_cells g9
    have hB9 := Lib.hid ((B3).out.grown gr9 (B3).out.size (fun q e => by cases e; omega))
    replace g9 := Lib.hid g9
    replace G2 := Lib.hid G2
    clear gr9 gs9
    go_wp2_with fail
    refine bodyPost_ret (v := .tuple #[.agg #[.slice none 0 0, .slice none 0 0, .slice none 0 0, .slice none 0 0], .int .i64 0, .int .i64 8]) (by simp [results, Tryz.results40, go_sem, n0, n1, n2, n3]) rfl ?_
    rw [hE.out, hN.out, hV.out]
    exact ⟨_, rfl, sto_empty _ _, hB9.out⟩
  | true =>
  have hq0 : q = 0 := by rw [← hq.out, chkN, hn]; rfl
  subst hq0
  have hbk : Hid (blkN n = b) := Lib.hid (by rw [← hb.out, wrN, hn]; rfl)
  have hways := Lib.hid (mk_ways hm hn)
  obtain ⟨k0, k1, k2, k3, _, kg⟩ := four_cells G1
  obtain ⟨p0, p1, _, pg⟩ := two_cells Gn
  replace G2 := Lib.hid G2
  replace H3 := Lib.hid H3
  replace U3 := Lib.hid U3
  go_wp2_with fail
  obtain ⟨_, _, e9, l1, m1, hby⟩ := rBy_byt (B := w3.heap.size) (fun _ h => h) H3.out.parts.2.1
  cases e9
  with_reducible refine (clone_any N s.2.1.length cn s.2.1 (Lib.hid rfl) (by rw [hlen.out]; omega) _ hby).mono ?_
  rintro e w4 ⟨u4, rfl, hu4, hb4⟩
  obtain ⟨g, c2, rfl, hg1, hg2, hg3, hg4⟩ := own_head hu4 (by rw [hlen.out]; omega)
  rw [hlen.out] at hu4 ⊢
  have F1 := (hb4.block w.heap.size kg).trans G1
  have Fn := (hb4.block (w.heap.size + 1) pg).trans Gn
  have F2 := Lib.hid ((hb4.block (w.heap.size + 2) (by have := s3.out; omega)).trans G2.out)
  have H4 := Lib.hid (show Sto (Off g w4) w4 _ s from H3.out.map fun _ _ hp hc => off_low hb4 hg1 hp hc)
  have U4 := Lib.hid (show Nod (Off g w4) w4 _ n from U3.out.map fun _ _ hp hc => off_low hb4 hg1 hp hc)
  have R4 := Lib.hid (show rBy (Off g w4) w4 _ b from stab_by _ _ _ _ _ _ (fun _ _ hp hc => off_low hb4 hg1 hp hc) R3.out)
  have O4 := Lib.hid hu4
  have B4 := Lib.hid (B3.out.trans (hb4.mono B3.out.size))
  have hgw : Hid (w.heap.size + 3 ≤ g) := Lib.hid (by have := s3.out; omega)
  clear k0 k1 k2 k3 kg p0 p1 pg G1 Gn G2 hb4 H3 U3 R3 B3 hby l1 m1 hu4 hg1 s3
  obtain ⟨k0, k1, k2, k3, _, kg⟩ := four_cells F1
  obtain ⟨p0, p1, _, pg⟩ := two_cells Fn
  obtain ⟨r, hr⟩ : ∃ r, ctE s.2.1 n.2 = r := ⟨_, rfl⟩
  go_wp2_with fail
  with_reducible refine (refer_any g c2 w3.heap.size s.2.1 _ n hn hlen.out _ O4.out U4.out).mono ?_
  rintro e w5 ⟨rfl, hgr, hown⟩
  rw [hr] at hown ⊢
  have E1 := (hgr.block w.heap.size kg (by have := hgw.out; simp; omega)).trans F1
  have E3 := (hgr.block (w.heap.size + 2) (by have := F2.out; exact (Array.getElem?_eq_some_iff.1 this).1) (by have := hgw.out; simp; omega)).trans F2.out
  have B5 := Lib.hid (B4.out.grown hgr B4.out.size (fun q e => by cases e; have := hgw.out; omega))
  have H5 := Lib.hid (show Sto (Old w5) w5 _ s from (H4.out.map fun _ _ hp hc => off_put hgr hp hc).map fun _ _ hp hc => off_old hp hc)
  have R5 := Lib.hid (show rBy (Old w5) w5 _ b from stab_by _ _ _ _ _ _ (fun _ _ hp hc => off_old hp hc) (stab_by _ _ _ _ _ _ (fun _ _ hp hc => off_put hgr hp hc) R4.out))
  clear k0 k1 k2 k3 kg p0 p1 pg F1 Fn F2 B4 H4 U4 R4 O4 hgr
  rcases hways.out with ⟨hc, hE, hN, hV⟩ | ⟨hc, hE, hN, hV⟩
  · rw [hr] at hc hE
    have hr1 : (r != 0) = true := by simpa using hc
    replace hE := Lib.hid hE
    replace hN := Lib.hid hN
    replace hV := Lib.hid hV
    replace hr := Lib.hid hr
    clear E1 hown hc hm hn hways
    obtain ⟨k0, k1, k2, k3, k4, k5⟩ := four_cells E3
    obtain ⟨W9, hW9, g9, gr9, gs9⟩ := put_four (a' := .slice none 0 0) (b' := .slice none 0 0) (c' := .slice none 0 0) (d' := .slice none 0 0) E3
    obtain ⟨n0, n1, n2, n3, _, _⟩ := four_cells g9
    have hB9 := Lib.hid ((B5).out.grown gr9 (B5).out.size (fun q e => by cases e; omega))
    replace g9 := Lib.hid g9
    replace E3 := Lib.hid E3
    clear gr9 gs9
    go_wp2_with fail
    refine bodyPost_ret (v := .tuple #[.agg #[.slice none 0 0, .slice none 0 0, .slice none 0 0, .slice none 0 0], .int .i64 0, .int .i64 r]) (by simp [results, Tryz.results40, go_sem, n0, n1, n2, n3]) rfl ?_
    rw [hE.out, hN.out, hV.out]
    exact ⟨_, rfl, sto_empty _ _, hB9.out⟩
  · rw [hr] at hc
    subst hc
    rw [hbk.out] at hE hN hV
    have hctl : (ctV s.2.1 n.2).length = 256 := by rw [ctV_len, hlen.out]
    have T5 : Hid (Sto (Old w5) w5 (.agg #[.slice A s.1.1.length ca, .slice B s.1.2.length cb, .slice (some ⟨g, 0, none⟩) 256 c2, .slice L s.2.2.length cl]) (ctS s n)) := Lib.hid (Sto.mk H5.out.parts.1 (stab_by.drop (own_by (hown rfl))) H5.out.parts.2.2)
    obtain ⟨S, hS⟩ : ∃ S, ctS s n = S := ⟨_, rfl⟩
    rw [hS] at T5 hE hN hV
    obtain ⟨V, hVV⟩ : ∃ V, tkV S b = V := ⟨_, rfl⟩
    obtain ⟨x, hx⟩ : ∃ x, tkN S b = x := ⟨_, rfl⟩
    obtain ⟨y, hy⟩ : ∃ y, tkE S b = y := ⟨_, rfl⟩
    rw [hVV] at hV
    rw [hx] at hN
    rw [hy] at hE
    replace hE := Lib.hid hE
    replace hN := Lib.hid hN
    replace hV := Lib.hid hV
    replace hr := Lib.hid hr
    replace hS := Lib.hid hS
    replace hVV := Lib.hid hVV
    replace hx := Lib.hid hx
    replace hy := Lib.hid hy
    obtain ⟨k0, k1, k2, k3, _, kg⟩ := four_cells E1
    replace E3 := Lib.hid E3
    clear hown hm hn hways hctl
    go_wp2_with fail
    with_reducible refine (takeR_any _ _ S b _ T5.out R5.out).mono ?_
    rintro e w6 ⟨t6, rfl, h6, hb6⟩
    rw [hx.out, hy.out]
    rw [hVV.out] at h6
    obtain ⟨A6, a6, B6, b6, N6, n6, L6, l6, rfl, _⟩ := id h6.open
    have F6 := (hb6.block (w.heap.size + 2) (by exact (Array.getElem?_eq_some_iff.1 E3.out).1)).trans E3.out
    have s6 : Hid (w.heap.size + 2 < w5.heap.size) := Lib.hid (Array.getElem?_eq_some_iff.1 E3.out).1
    obtain ⟨o0, o1, o2, o3, _, _⟩ := four_cells F6
    obtain ⟨W9, hW9, g9, gr9, gs9⟩ := put_four (a' := .slice A6 V.1.1.length a6) (b' := .slice B6 V.1.2.length b6) (c' := .slice N6 V.2.1.length n6) (d' := .slice L6 V.2.2.length l6) F6
    obtain ⟨n0, n1, n2, n3, _, _⟩ := four_cells g9
    have hfin := Lib.hid (show Sto (New w.heap.size W9) W9 _ V from (h6.grown gr9 (fun q e => by cases e; exact s6.out)).new B5.out.size (Below.refl _ _))
    have hB9 := Lib.hid ((B5.out.trans (hb6.mono B5.out.size)).grown gr9 (Nat.le_trans B5.out.size hb6.size) (fun q e => by cases e; omega))
    replace F6 := Lib.hid F6
    replace g9 := Lib.hid g9
    clear gr9 gs9 h6 hb6 k0 k1 k2 k3 kg E1
    go_wp2_with fail
    refine bodyPost_ret (v := .tuple #[.agg #[.slice A6 V.1.1.length a6, .slice B6 V.1.2.length b6, .slice N6 V.2.1.length n6, .slice L6 V.2.2.length l6], .int .i64 x, .int .i64 y]) (by simp [results, Tryz.results40, go_sem, n0, n1, n2, n3]) rfl ?_
    rw [hE.out, hN.out, hV.out]
    exact ⟨_, rfl, hfin.out, hB9.out⟩
end Go.Proofs.YtogieepfimpdmaaGreat

/-
  Layer 9: the contracts as laws want them; the laws' alive. Conditions: those that each lemma states.
-/
namespace Go.Proofs.YtogieepfimpdmaaGreat
open Go.RowKit

theorem makeV_open (v u : Value) (s : Rm) (n : Nd) (w : World) (h : Sto (Old w) w v s) (hu : Nod (Old w) w u n) :
    Calls Tryz.prog 40 #[v, u] w fun e W' => ∃ A ca B cb N cn L cl, e = .returned (.tuple #[.agg #[.slice A (mkV s n).1.1.length ca, .slice B (mkV s n).1.2.length cb, .slice N (mkV s n).2.1.length cn, .slice L (mkV s n).2.2.length cl], .int .i64 (mkN s n), .int .i64 (mkE s n)]) ∧
      Sto (New w.heap.size W') W' (.agg #[.slice A (mkV s n).1.1.length ca, .slice B (mkV s n).1.2.length cb, .slice N (mkV s n).2.1.length cn, .slice L (mkV s n).2.2.length cl]) (mkV s n) ∧ Below w.heap.size w W' := by
  refine (makeV_any v u s n w h hu).mono ?_
  rintro e W' ⟨t, rfl, ht, hb⟩
  obtain ⟨A, ca, B, cb, N, cn, L, cl, rfl, _⟩ := id ht.open
  exact ⟨A, ca, B, cb, N, cn, L, cl, rfl, ht, hb⟩
theorem leaveV_open (v : Value) (s : Rm) (n : Int) (w : World) (h : Sto (Old w) w v s) :
    Calls Tryz.prog 28 #[v, .int .i64 n] w fun e W' => ∃ A ca B cb N cn L cl, e = .returned (.tuple #[.agg #[.slice A (lvV s n).1.1.length ca, .slice B (lvV s n).1.2.length cb, .slice N (lvV s n).2.1.length cn, .slice L (lvV s n).2.2.length cl], .int .i64 (lvE s n)]) ∧
      Sto (New w.heap.size W') W' (.agg #[.slice A (lvV s n).1.1.length ca, .slice B (lvV s n).1.2.length cb, .slice N (lvV s n).2.1.length cn, .slice L (lvV s n).2.2.length cl]) (lvV s n) ∧ Below w.heap.size w W' := by
  refine (leaveV_any v s n w h).mono ?_
  rintro e W' ⟨t, rfl, ht, hb⟩
  obtain ⟨A, ca, B, cb, N, cn, L, cl, rfl, _⟩ := id ht.open
  exact ⟨A, ca, B, cb, N, cn, L, cl, rfl, ht, hb⟩
theorem looseV_open (v : Value) (s : Rm) (n : Int) (w : World) (h : Sto (Old w) w v s) :
    Calls Tryz.prog 69 #[v, .int .i64 n] w fun e W' => ∃ A ca B cb N cn L cl, e = .returned (.tuple #[.agg #[.slice A (loV s n).1.1.length ca, .slice B (loV s n).1.2.length cb, .slice N (loV s n).2.1.length cn, .slice L (loV s n).2.2.length cl], .int .i64 (asE s n)]) ∧
      Sto (New w.heap.size W') W' (.agg #[.slice A (loV s n).1.1.length ca, .slice B (loV s n).1.2.length cb, .slice N (loV s n).2.1.length cn, .slice L (loV s n).2.2.length cl]) (loV s n) ∧ Below w.heap.size w W' := by
  refine (looseV_any v s n w h).mono ?_
  rintro e W' ⟨t, rfl, ht, hb⟩
  obtain ⟨A, ca, B, cb, N, cn, L, cl, rfl, _⟩ := id ht.open
  exact ⟨A, ca, B, cb, N, cn, L, cl, rfl, ht, hb⟩

end Go.Proofs.YtogieepfimpdmaaGreat

/-
  Package put: one node laid, or two. Conditions: those that each lemma states.
-/
namespace Go.Proofs.YtogieepfimpdmaaGreat
open Go.RowKit

/-! ### Plain -/
def partsL (L : List It) : List (List It) := if L.length ≤ 5 then [L] else [L.take 3, L.drop 3]
/-- Nodes of a level made one behind the other. -/
noncomputable def mkA (lv : Int) : Rm → List It → List (List It) → Int × Rm × List It
  | s, M, [] => (0, s, M)
  | s, M, l :: r => if mkE s (lv, l) = 0 then mkA lv (mkV s (lv, l)) (M ++ [upI l (mkN s (lv, l))]) r else (mkE s (lv, l), emptyR, [])
theorem mkA_step {lv : Int} {s : Rm} {M l : List It} {P : List (List It)} {k : Nat} (h : P[k]? = some l) : mkA lv s M (P.drop k) = if mkE s (lv, l) = 0 then mkA lv (mkV s (lv, l)) (M ++ [upI l (mkN s (lv, l))]) (P.drop (k + 1)) else (mkE s (lv, l), emptyR, []) := by
  obtain ⟨hl, e⟩ := List.getElem?_eq_some_iff.1 h
  rw [List.drop_eq_getElem_cons hl, e]
  rfl
theorem mkA_built (lv : Int) (s : Rm) (L : List It) : mkA lv s [] (partsL L) = builtO s lv L := by
  unfold partsL builtO
  split
  · simp only [mkA]
    split <;> rfl
  · simp only [mkA]
    split
    · split <;> rfl
    · rfl
/-- All that is fresh is held once less. -/
noncomputable def looL : List It → Rm → Int × Rm
  | [], s => (0, s)
  | x :: r, s => if x.2.1 = 0 then looL r s else if asE s x.2.1 = 0 then looL r (loV s x.2.1) else (asE s x.2.1, emptyR)
theorem looL_step {s : Rm} {F : List It} {k : Nat} {x : It} (h : F[k]? = some x) : looL (F.drop k) s = if x.2.1 = 0 then looL (F.drop (k + 1)) s else if asE s x.2.1 = 0 then looL (F.drop (k + 1)) (loV s x.2.1) else (asE s x.2.1, emptyR) := by
  obtain ⟨hl, e⟩ := List.getElem?_eq_some_iff.1 h
  rw [List.drop_eq_getElem_cons hl, e]
  rfl
noncomputable def layO (s : Rm) (lv : Int) (L F : List It) : Int × Rm × List It :=
  if (builtO s lv L).1 = 0 then (if (looL F (builtO s lv L).2.1).1 = 0 then (0, (looL F (builtO s lv L).2.1).2, (builtO s lv L).2.2) else ((looL F (builtO s lv L).2.1).1, emptyR, [])) else ((builtO s lv L).1, emptyR, [])

/-! ### The parts -/
theorem its_less {ok : Addr → Prop} {w : World} {A : Option Addr} {n c : Nat} {L : List It} (h : rIts ok w [.slice A n c] L) (k : Nat) (hk : k ≤ L.length) : rIts ok w [.slice A k c] (L.take k) := by
  obtain ⟨A', c', e, h1, h2, h3⟩ := h
  cases e
  refine ⟨A, c, by rw [List.length_take, Nat.min_eq_left hk], by rw [List.length_take]; omega, h2, fun i x hi => ?_⟩
  rcases Nat.lt_or_ge i k with hik | hik
  · rw [List.getElem?_take_of_lt hik] at hi
    exact h3 i x hi
  · rw [List.getElem?_eq_none (by rw [List.length_take]; omega)] at hi
    cases hi
theorem nodes_parts (A : Option Addr) (n c : Nat) (L : List It) (w0 w : World) (h : rIts (Old w0) w0 [.slice A n c] L) (hn : L.length = n) (h0 : 0 < n) :
    Calls Tryz.prog 68 #[.slice A n c] w fun e w' => ∃ PV : List Value, e = .returned (.slice (some ⟨w.heap.size, 0, none⟩) PV.length PV.length) ∧ PV.length = (partsL L).length ∧ PV.length ≤ 2 ∧ 0 < PV.length ∧ w'.heap[w.heap.size]? = some (.cells PV.toArray 43 (0, 0)) ∧
      (∀ (k : Nat) (l : List It), (partsL L)[k]? = some l → ∃ (ad : Addr) (d : Nat), PV[k]? = some (Value.slice (some ad) l.length d) ∧ rIts (Old w0) w0 [.slice (some ad) l.length d] l ∧ 0 < l.length) ∧ Below w.heap.size w w' := by
  subst hn
  obtain ⟨A', c', e, h1, h2⟩ := its_open h
  cases e
  have hA : 0 < L.length → ∃ ad, A = some ad := fun hp => by
    obtain ⟨_, _, e, _, _, h4⟩ := id h
    cases e
    obtain ⟨ad, _, e, _⟩ := h4 0 _ (List.getElem?_eq_getElem hp)
    exact ⟨ad, e⟩
  refine (nodes_any A L.length c w h1 h2 hA).mono ?_
  rintro e w' ⟨hb, ⟨h5, rfl, hg⟩ | ⟨h5, ad, rfl, rfl, hg⟩⟩
  · obtain ⟨ad, rfl⟩ := hA h0
    refine ⟨[.slice (some ad) L.length c], rfl, by unfold partsL; rw [if_pos h5]; rfl, by simp, by simp, hg, fun k l hl => ?_, hb⟩
    unfold partsL at hl
    rw [if_pos h5] at hl
    match k, hl with
    | 0, hl =>
      cases hl
      exact ⟨ad, c, rfl, h, h0⟩
    | k + 1, hl => simp at hl
  · refine ⟨[.slice (some ad) 3 c, .slice (some (ad.add (3 * 5))) (L.length - 3) (c - 3)], rfl, by unfold partsL; rw [if_neg (by omega)]; rfl, by simp, by simp, hg, fun k l hl => ?_, hb⟩
    unfold partsL at hl
    rw [if_neg (by omega)] at hl
    have ht : (L.take 3).length = 3 := by rw [List.length_take]; omega
    match k, hl with
    | 0, hl =>
      cases hl
      exact ⟨ad, c, by rw [ht]; rfl, by rw [ht]; exact its_less h 3 (by omega), by omega⟩
    | 1, hl =>
      cases hl
      exact ⟨ad.add (3 * 5), c - 3, by rw [List.length_drop]; rfl, by rw [List.length_drop]; exact its_rest h 3 (by omega), by rw [List.length_drop]; omega⟩
    | k + 2, hl => simp at hl

/-! ### lay -/
theorem makeV_four (v u : Value) (s : Rm) (n : Nd) (w : World) (h : Sto (Old w) w v s) (hu : Nod (Old w) w u n) :
    Calls Tryz.prog 40 #[v, u] w fun e W' => ∃ qa qb qc qd : Option Addr × Nat × Nat, e = .returned (.tuple #[.agg #[.slice qa.1 qa.2.1 qa.2.2, .slice qb.1 qb.2.1 qb.2.2, .slice qc.1 qc.2.1 qc.2.2, .slice qd.1 qd.2.1 qd.2.2], .int .i64 (mkN s n), .int .i64 (mkE s n)]) ∧ Sto (New w.heap.size W') W' (.agg #[.slice qa.1 qa.2.1 qa.2.2, .slice qb.1 qb.2.1 qb.2.2, .slice qc.1 qc.2.1 qc.2.2, .slice qd.1 qd.2.1 qd.2.2]) (mkV s n) ∧ Below w.heap.size w W' :=
  (makeV_open v u s n w h hu).mono fun _ _ ⟨A, ca, B, cb, N, cn, L, cl, h1, h2, h3⟩ => ⟨(A, _, ca), (B, _, cb), (N, _, cn), (L, _, cl), h1, h2, h3⟩
theorem looseV_four (v : Value) (s : Rm) (n : Int) (w : World) (h : Sto (Old w) w v s) :
    Calls Tryz.prog 69 #[v, .int .i64 n] w fun e W' => ∃ qa qb qc qd : Option Addr × Nat × Nat, e = .returned (.tuple #[.agg #[.slice qa.1 qa.2.1 qa.2.2, .slice qb.1 qb.2.1 qb.2.2, .slice qc.1 qc.2.1 qc.2.2, .slice qd.1 qd.2.1 qd.2.2], .int .i64 (asE s n)]) ∧ Sto (New w.heap.size W') W' (.agg #[.slice qa.1 qa.2.1 qa.2.2, .slice qb.1 qb.2.1 qb.2.2, .slice qc.1 qc.2.1 qc.2.2, .slice qd.1 qd.2.1 qd.2.2]) (loV s n) ∧ Below w.heap.size w W' :=
  (looseV_open v s n w h).mono fun _ _ ⟨A, ca, B, cb, N, cn, L, cl, h1, h2, h3⟩ => ⟨(A, _, ca), (B, _, cb), (N, _, cn), (L, _, cl), h1, h2, h3⟩
theorem leaveV_four (v : Value) (s : Rm) (n : Int) (w : World) (h : Sto (Old w) w v s) :
    Calls Tryz.prog 28 #[v, .int .i64 n] w fun e W' => ∃ qa qb qc qd : Option Addr × Nat × Nat, e = .returned (.tuple #[.agg #[.slice qa.1 qa.2.1 qa.2.2, .slice qb.1 qb.2.1 qb.2.2, .slice qc.1 qc.2.1 qc.2.2, .slice qd.1 qd.2.1 qd.2.2], .int .i64 (lvE s n)]) ∧ Sto (New w.heap.size W') W' (.agg #[.slice qa.1 qa.2.1 qa.2.2, .slice qb.1 qb.2.1 qb.2.2, .slice qc.1 qc.2.1 qc.2.2, .slice qd.1 qd.2.1 qd.2.2]) (lvV s n) ∧ Below w.heap.size w W' :=
  (leaveV_open v s n w h).mono fun _ _ ⟨A, ca, B, cb, N, cn, L, cl, h1, h2, h3⟩ => ⟨(A, _, ca), (B, _, cb), (N, _, cn), (L, _, cl), h1, h2, h3⟩
def LayR (s : Rm) (lv : Int) (L F : List It) (w : World) (e : Ending) (w' : World) : Prop := ∃ (qa qb qc qd : Option Addr × Nat × Nat) (M : Option Addr) (mc : Nat), e = .returned (.tuple #[.agg #[.slice qa.1 qa.2.1 qa.2.2, .slice qb.1 qb.2.1 qb.2.2, .slice qc.1 qc.2.1 qc.2.2, .slice qd.1 qd.2.1 qd.2.2], .slice M (layO s lv L F).2.2.length mc, .int .i64 (layO s lv L F).1]) ∧
  Sto (New w.heap.size w') w' (.agg #[.slice qa.1 qa.2.1 qa.2.2, .slice qb.1 qb.2.1 qb.2.2, .slice qc.1 qc.2.1 qc.2.2, .slice qd.1 qd.2.1 qd.2.2]) (layO s lv L F).2.1 ∧ RowOf rIt 5 40 w.heap.size w' M mc (layO s lv L F).2.2 ∧ Below w.heap.size w w'
theorem lay_b {s : Rm} {lv : Int} {L F : List It} {er : Int} (h : builtO s lv L = (er, emptyR, [])) (h0 : er ≠ 0) : layO s lv L F = (er, emptyR, []) := by
  unfold layO
  rw [h, if_neg h0]
theorem lay_l {s u : Rm} {lv : Int} {L F up : List It} {er : Int} (h : builtO s lv L = (0, u, up)) (h1 : looL F u = (er, emptyR)) (h0 : er ≠ 0) : layO s lv L F = (er, emptyR, []) := by
  unfold layO
  rw [h, if_pos rfl, h1, if_neg h0]
theorem lay_ok {s u v : Rm} {lv : Int} {L F up : List It} (h : builtO s lv L = (0, u, up)) (h1 : looL F u = (0, v)) : layO s lv L F = (0, v, up) := by
  unfold layO
  rw [h, if_pos rfl, h1, if_pos rfl]

set_option maxRecDepth 100000 in
set_option maxHeartbeats 8000000 in
theorem lay_any (qa qb qc qd : Option Addr × Nat × Nat) (s : Rm) (lv : Int) (hlv : In64 lv) (A : Option Addr) (n cA : Nat) (L : List It) (B : Option Addr) (m cB : Nat) (F : List It) (w : World) (h : Sto (Old w) w (.agg #[.slice qa.1 qa.2.1 qa.2.2, .slice qb.1 qb.2.1 qb.2.2, .slice qc.1 qc.2.1 qc.2.2, .slice qd.1 qd.2.1 qd.2.2]) s)
    (hL : rIts (Old w) w [.slice A n cA] L) (hF : rIts (Old w) w [.slice B m cB] F) (hn : L.length = n) (h0 : 0 < n) (hm : F.length = m) (hm1 : m ≤ 1000) :
    Calls Tryz.prog 46 #[.agg #[.slice qa.1 qa.2.1 qa.2.2, .slice qb.1 qb.2.1 qb.2.2, .slice qc.1 qc.2.1 qc.2.2, .slice qd.1 qd.2.1 qd.2.2], .int .i64 lv, .slice A n cA, .slice B m cB] w (LayR s lv L F w) := by
  obtain ⟨w1, hw1, b1, hs1, hB1⟩ := box_4 w (.slice qa.1 qa.2.1 qa.2.2) (.slice qb.1 qb.2.1 qb.2.2) (.slice qc.1 qc.2.1 qc.2.2) (.slice qd.1 qd.2.1 qd.2.2) 29
  obtain ⟨w2, hw2, b2, hs2, hB2⟩ := box_4 w1 (.slice none 0 0) (.slice none 0 0) (.slice none 0 0) (.slice none 0 0) 29
  have hB12 := hB1.trans (hB2.mono hB1.size)
  have hb1 := (hB2.block w.heap.size (by omega)).trans b1
  have HP := Lib.hid (nodes_parts A n cA L w w2 hL hn h0)
  have HS := Lib.hid (h.below hB12)
  have HF := Lib.hid hF
  have B2 := Lib.hid hB12
  have G1 := Lib.hid hb1
  have G2 := Lib.hid b2
  have hbu := Lib.hid (mkA_built lv s L)
  have SZ := Lib.hid (show w1.heap.size = w.heap.size + 1 ∧ w2.heap.size = w.heap.size + 2 from ⟨hs1, by omega⟩)
  replace hn := Lib.hid hn
  replace hm := Lib.hid hm
  replace hlv := Lib.hid hlv
  replace hs1 := Lib.hid hs1
  replace hs2 := Lib.hid hs2
  clear h hL hF hB1 hB2 hB12 b1 b2 hb1
  go_enter Tryz.func46, Tryz.ntmps46
  go_upto_region 1 with fail
  clear hw1 hw2
  go_wp2_with fail
  with_reducible refine (HP.out).mono ?_
  rintro e w3 ⟨PV, rfl, hPl, hP2, hP0, hg3, hpv, hb3⟩
  have B3 := Lib.hid (B2.out.trans (hb3.mono B2.out.size))
  have H3 := Lib.hid (HS.out.below hb3)
  have g1 := Lib.hid ((hb3.block w.heap.size (by have := SZ.out; omega)).trans G1.out)
  have g2 := Lib.hid ((hb3.block w1.heap.size (by have := SZ.out; omega)).trans G2.out)
  have s3 := Lib.hid (show w2.heap.size < w3.heap.size from (Array.getElem?_eq_some_iff.1 hg3).1)
  obtain ⟨K, hK⟩ : ∃ K, PV.length = K := ⟨_, rfl⟩
  obtain ⟨P, hP⟩ : ∃ P, partsL L = P := ⟨_, rfl⟩
  rw [hK] at hPl hP2 hP0 ⊢
  rw [hP] at hPl hpv hbu
  have hg3 := Lib.hid hg3
  have hpv := Lib.hid hpv
  replace hPl := Lib.hid hPl
  replace hK := Lib.hid hK
  replace hP := Lib.hid hP
  -- a refusal, from whatever later world
  have hzero : Hid (∀ (er : Int) (W : World), layO s lv L F = (er, emptyR, []) → w3.grownBy W (some w.heap.size) → ∃ W9, (((W.setCell ⟨w1.heap.size, 0, none⟩ (.slice none 0 0)).setCell ⟨w1.heap.size, 1, none⟩ (.slice none 0 0)).setCell ⟨w1.heap.size, 2, none⟩ (.slice none 0 0)).setCell ⟨w1.heap.size, 3, none⟩ (.slice none 0 0) = W9 ∧
      W9.cell? ⟨w1.heap.size, 0, none⟩ = some (.slice none 0 0) ∧ W9.cell? ⟨w1.heap.size, 1, none⟩ = some (.slice none 0 0) ∧ W9.cell? ⟨w1.heap.size, 2, none⟩ = some (.slice none 0 0) ∧ W9.cell? ⟨w1.heap.size, 3, none⟩ = some (.slice none 0 0) ∧
      W.cell? ⟨w1.heap.size, 0, none⟩ = some (.slice none 0 0) ∧ W.cell? ⟨w1.heap.size, 1, none⟩ = some (.slice none 0 0) ∧ W.cell? ⟨w1.heap.size, 2, none⟩ = some (.slice none 0 0) ∧ W.cell? ⟨w1.heap.size, 3, none⟩ = some (.slice none 0 0) ∧ (∀ o, W.frozen? ⟨w1.heap.size, o, none⟩ = false) ∧
      LayR s lv L F w (.returned (.tuple #[.agg #[.slice none 0 0, .slice none 0 0, .slice none 0 0, .slice none 0 0], .slice none 0 0, .int .i64 er])) W9) := Lib.hid fun er W he hW => by
    have bW := (hW.block w1.heap.size (by have := s3.out; have := SZ.out; omega) (by have := SZ.out; intro e; have := Option.some.inj e; omega)).trans g2.out
    obtain ⟨W9, e9, g9, gr9, _⟩ := put_four (a' := .slice none 0 0) (b' := .slice none 0 0) (c' := .slice none 0 0) (d' := .slice none 0 0) bW
    obtain ⟨k0, k1, k2, k3, _⟩ := four_cells g9
    obtain ⟨y0, y1, y2, y3, yf, _⟩ := four_cells bW
    have hBW := (B3.out.grown hW B3.out.size (fun q e => by cases e; exact Nat.le_refl _)).grown gr9 (by have := hW.size; have := B3.out.size; omega) (fun q e => by cases e; have := SZ.out; omega)
    refine ⟨W9, e9, k0, k1, k2, k3, y0, y1, y2, y3, yf, (none, 0, 0), (none, 0, 0), (none, 0, 0), (none, 0, 0), none, 0, by rw [he]; rfl, by rw [he]; exact sto_empty _ _, by rw [he]; exact RowOf.nil _ _ _ _ _, hBW⟩
  clear hb3
  go_wp2_with fail
  go_loopw [9, 19] (fun mv iv wr => ∃ (k : Nat) (M : Option Addr) (mc : Nat) (made : List It) (sk : Rm) (qa qb qc qd : Option Addr × Nat × Nat), k ≤ K ∧ iv = .int .i64 (k : Int) ∧ mv = .slice M made.length mc ∧ made.length = k ∧ mkA lv s [] P = mkA lv sk made (P.drop k) ∧ wr.heap[w.heap.size]? = some (.cells #[.slice qa.1 qa.2.1 qa.2.2, .slice qb.1 qb.2.1 qb.2.2, .slice qc.1 qc.2.1 qc.2.2, .slice qd.1 qd.2.1 qd.2.2] 29 (0, 0)) ∧
      Sto (Old wr) wr (.agg #[.slice qa.1 qa.2.1 qa.2.2, .slice qb.1 qb.2.1 qb.2.2, .slice qc.1 qc.2.1 qc.2.2, .slice qd.1 qd.2.1 qd.2.2]) sk ∧ (0 < k → Sto (New w3.heap.size wr) wr (.agg #[.slice qa.1 qa.2.1 qa.2.2, .slice qb.1 qb.2.1 qb.2.2, .slice qc.1 qc.2.1 qc.2.2, .slice qd.1 qd.2.1 qd.2.2]) sk) ∧ RowOf rIt 5 40 w3.heap.size wr M mc made ∧ w3.grownBy wr (some w.heap.size)) (fun _ iv _ => K - (intOf iv).toNat)
  case atStart => exact ⟨0, none, 0, [], s, qa, qb, qc, qd, by omega, rfl, rfl, rfl, rfl, g1.out, H3.out, fun h => by omega, RowOf.nil _ _ _ _ _, grow_refl _ _⟩
  case round =>
    obtain ⟨k, M, mc, made, sk, pa, pb, pc, pd, hk, rfl, rfl, hml, hmk, hbx, hsto, hnew, hrow, hgr⟩ := hrel
    replace hmk := Lib.hid hmk
    replace hnew := Lib.hid hnew
    replace hgr := Lib.hid hgr
    by_cases hlt : k < K
    case neg =>
      have hkK : k = K := by omega
      subst hkK
      have hst4 := hnew.out hP0
      have hbe : Hid (builtO s lv L = (0, sk, made)) := Lib.hid (by rw [← hbu.out, hmk.out, List.drop_of_length_le (by have := hPl.out; omega)]; rfl)
      have hBr := Lib.hid (B3.out.grown hgr.out B3.out.size (fun q e => by cases e; exact Nat.le_refl _))
      obtain ⟨mm, hmm⟩ : ∃ q, made.length = q := ⟨_, rfl⟩
      rw [hmm] at hml
      have g4 := Lib.hid hbx
      have h4 := Lib.hid hst4
      have row4 := Lib.hid hrow
      have hlt34 := Lib.hid (show w3.heap.size ≤ wr.heap.size from hgr.out.size)
      rw [hmm]
      have hm1' := hm1
      replace hmm := Lib.hid hmm
      replace hml := Lib.hid hml
      clear hsto hnew hst4 hbx hrow hmk hlt
      go_wp2_with fail
      go_loopw [9, 48] (fun mv iv wz => ∃ (j : Nat) (sz : Rm) (ra rb rc rd : Option Addr × Nat × Nat), j ≤ m ∧ mv = .slice M mm mc ∧ iv = .int .i64 (j : Int) ∧ looL F sk = looL (F.drop j) sz ∧ wz.heap[w.heap.size]? = some (.cells #[.slice ra.1 ra.2.1 ra.2.2, .slice rb.1 rb.2.1 rb.2.2, .slice rc.1 rc.2.1 rc.2.2, .slice rd.1 rd.2.1 rd.2.2] 29 (0, 0)) ∧
        Sto (New w3.heap.size wz) wz (.agg #[.slice ra.1 ra.2.1 ra.2.2, .slice rb.1 rb.2.1 rb.2.2, .slice rc.1 rc.2.1 rc.2.2, .slice rd.1 rd.2.1 rd.2.2]) sz ∧ RowOf rIt 5 40 w3.heap.size wz M mc made ∧ w3.grownBy wz (some w.heap.size)) (fun _ iv _ => m - (intOf iv).toNat)
      case atStart => exact ⟨0, sk, pa, pb, pc, pd, by omega, rfl, rfl, rfl, g4.out, h4.out, row4.out, hgr.out⟩
      case round =>
        obtain ⟨j, sz, ra, rb, rc, rd, hj, rfl, rfl, hlo, hbz, hsz, hrz, hgz⟩ := hrel
        replace hlo := Lib.hid hlo
        replace hgz := Lib.hid hgz
        replace hrz := Lib.hid hrz
        have hBz := Lib.hid (B3.out.grown hgz.out B3.out.size (fun q e => by cases e; exact Nat.le_refl _))
        have hlt3z := Lib.hid (show w3.heap.size ≤ wr.heap.size from hgz.out.size)
        obtain ⟨k0, k1, k2, k3, kf, kg⟩ := four_cells hbz
        by_cases hjm : j < m
        case neg =>
          have hjm' : j = m := by omega
          subst hjm'
          have hlay : Hid (layO s lv L F = (0, sz, made)) := Lib.hid (lay_ok hbe.out (by rw [hlo.out, List.drop_of_length_le (by rw [hm.out]; exact Nat.le_refl _)]; rfl))
          have bW := (hgz.out.block w1.heap.size (by have := s3.out; have := SZ.out; omega) (by have := SZ.out; intro e; have := Option.some.inj e; omega)).trans g2.out
          obtain ⟨W9, e9, g9, gr9, _⟩ := put_four (a' := .slice ra.1 ra.2.1 ra.2.2) (b' := .slice rb.1 rb.2.1 rb.2.2) (c' := .slice rc.1 rc.2.1 rc.2.2) (d' := .slice rd.1 rd.2.1 rd.2.2) bW
          obtain ⟨n0, n1, n2, n3, _⟩ := four_cells g9
          obtain ⟨y0, y1, y2, y3, yf, _⟩ := four_cells bW
          have hq1 : ∀ q, (some w1.heap.size : Option Nat) = some q → q < w3.heap.size := fun q e => by cases e; have := s3.out; have := SZ.out; omega
          have hfin : Hid (LayR s lv L F w (.returned (.tuple #[.agg #[.slice ra.1 ra.2.1 ra.2.2, .slice rb.1 rb.2.1 rb.2.2, .slice rc.1 rc.2.1 rc.2.2, .slice rd.1 rd.2.1 rd.2.2], .slice M mm mc, .int .i64 0])) W9) := Lib.hid ⟨ra, rb, rc, rd, M, mc, by rw [hlay.out, hmm.out], by rw [hlay.out]; exact (hsz.grown gr9 hq1).new B3.out.size (Below.refl _ _), by rw [hlay.out]; exact (hrz.out.grown stab_it gr9 hq1).low stab_it B3.out.size, hBz.out.grown gr9 (by have := hlt3z.out; have := B3.out.size; omega) (fun q e => by cases e; have := SZ.out; omega)⟩
          replace g9 := Lib.hid g9
          replace bW := Lib.hid bW
          replace hbz := Lib.hid hbz
          replace hsz := Lib.hid hsz
          clear gr9 hzero
          go_wp2_with fail
          exact bodyPost_ret (v := .tuple #[.agg #[.slice ra.1 ra.2.1 ra.2.2, .slice rb.1 rb.2.1 rb.2.2, .slice rc.1 rc.2.1 rc.2.2, .slice rd.1 rd.2.1 rd.2.2], .slice M mm mc, .int .i64 0]) (by simp [results, Tryz.results46, go_sem, n0, n1, n2, n3]) rfl hfin.out
        obtain ⟨x, hx⟩ : ∃ x, F[j]? = some x := ⟨_, List.getElem?_eq_getElem (by rw [hm.out]; exact hjm)⟩
        have hst := looL_step (s := sz) hx
        obtain ⟨ad5, E5, ce5, rfl, _, ⟨z0, z1, z2, z3, z4⟩, _⟩ := its_at (stab_its.old HF.out hBz.out) hx
        have hLo := Lib.hid (fun v W hW => looseV_four v sz x.2.1 W hW)
        obtain ⟨z, hzz⟩ : ∃ z, x.2.1 = z := ⟨_, rfl⟩
        obtain ⟨w5, hw5, -, -, -, y3, -, hs5, hB5, g5⟩ := box_five wr (.int .u8 (x.1.1.toNat : Int)) (.int .u32 x.1.2.1) (.int .u32 x.1.2.2) (.int .i64 x.2.1) (.slice E5 x.2.2.length ce5) 40
        rw [hzz] at z3 hst hLo hw5 y3 g5
        have i4 : (0 : Int) ≤ (j : Int) := by omega
        have i5 : (j : Int) < (m : Int) := by omega
        have i9 : IntKind.i64.wrap ((j : Int) + 1) = ((j + 1 : Nat) : Int) := by rw [IntKind.wrap_i64]; omega
        have S5 := Lib.hid (hsz.new (Nat.le_refl _) hB5)
        have R5 := Lib.hid (hrz.out.below stab_it hB5)
        have G5 := Lib.hid (grow_below hgz.out hB5)
        have hbz5 := (hB5.block w.heap.size kg).trans hbz
        have lt5 := Lib.hid (show wr.heap.size < w5.heap.size by omega)
        replace hs5 := Lib.hid hs5
        replace hx := Lib.hid hx
        replace hzz := Lib.hid hzz
        replace hsz := Lib.hid hsz
        have hbzh := Lib.hid hbz
        clear hbz hB5
        go_upto_region 13 with fail
        clear hw5 z0 z1 z2 z3 z4 k0 k1 k2 k3 kf
        obtain ⟨k0, k1, k2, k3, kf, kg5⟩ := four_cells hbz5
        by_cases hz0 : z = 0
        · have hn : Hid (looL F sk = looL (F.drop (j + 1)) sz) := Lib.hid (by rw [hlo.out, hst, if_pos hz0])
          subst hz0
          have hbz5h := Lib.hid hbz5
          clear hst hbz5 hLo hzero
          go_wp2_with fail
          go_roundw
          case rel => exact ⟨j + 1, sz, ra, rb, rc, rd, by omega, rfl, by go_num, hn.out, hbz5h.out, S5.out, R5.out, G5.out⟩
          case measure => simp [intOf]; omega
        have hz1 : (z == 0) = false := by simpa using hz0
        rw [if_neg hz0] at hst
        obtain ⟨er, her⟩ : ∃ q, asE sz z = q := ⟨_, rfl⟩
        obtain ⟨V, hV⟩ : ∃ q, loV sz z = q := ⟨_, rfl⟩
        rw [her, hV] at hst hLo
        replace her := Lib.hid her
        replace hV := Lib.hid hV
        replace hz0 := Lib.hid hz0
        have hbz5h := Lib.hid hbz5
        clear hbz5
        go_wp2_with fail
        with_reducible refine (hLo.out _ _ S5.out.drop).mono ?_
        rintro e w6 ⟨va, vb, vc, vd, rfl, h6, hb6⟩
        obtain ⟨w7, hw7, g7, gr7, gs7⟩ := put_four (a' := .slice va.1 va.2.1 va.2.2) (b' := .slice vb.1 vb.2.1 vb.2.2) (c' := .slice vc.1 vc.2.1 vc.2.2) (d' := .slice vd.1 vd.2.1 vd.2.2) ((hb6.block w.heap.size kg5).trans hbz5h.out)
        obtain ⟨m0, m1, m2, m3, mf, mg⟩ := four_cells ((hb6.block w.heap.size kg5).trans hbz5h.out)
        have gr7' : Hid (w3.grownBy w7 (some w.heap.size)) := Lib.hid (grow_trans (grow_below G5.out hb6) gr7)
        have hq : ∀ q, (some w.heap.size : Option Nat) = some q → q < w3.heap.size := fun q e => by cases e; have := s3.out; have := SZ.out; omega
        have h7 : Hid (Sto (New w3.heap.size w7) w7 (.agg #[.slice va.1 va.2.1 va.2.2, .slice vb.1 vb.2.1 vb.2.2, .slice vc.1 vc.2.1 vc.2.2, .slice vd.1 vd.2.1 vd.2.2]) V) := Lib.hid ((h6.grown gr7 (fun q e => Nat.lt_of_lt_of_le (hq q e) (by have := lt5.out; have := hlt3z.out; omega))).new (by have := lt5.out; have := hlt3z.out; omega) (Below.refl _ _))
        have R7 := Lib.hid ((R5.out.below stab_it hb6).grown stab_it gr7 hq)
        have g7h := Lib.hid g7
        replace gs7 := Lib.hid gs7
        clear h6 hb6 gr7 g7 hLo k0 k1 k2 k3 kf y3 g5
        go_upto_region 15 with fail
        by_cases he0 : er = 0
        · have hn : Hid (looL F sk = looL (F.drop (j + 1)) V) := Lib.hid (by rw [hlo.out, hst, if_pos he0])
          subst he0
          clear hst hzero
          go_wp2_with fail
          go_roundw
          case rel => exact ⟨j + 1, V, va, vb, vc, vd, by omega, rfl, by go_num, hn.out, g7h.out, h7.out, R7.out, gr7'.out⟩
          case measure => simp [intOf]; omega
        · have t0 : (er != 0) = true := by simpa using he0
          have hE : layO s lv L F = (er, emptyR, []) := lay_l hbe.out (by rw [hlo.out, hst, if_neg he0]) he0
          obtain ⟨W9, e9, n0, n1, n2, n3, u0, u1, u2, u3, uf, hfin⟩ := hzero.out er w7 hE gr7'.out
          replace hfin := Lib.hid hfin
          replace he0 := Lib.hid he0
          clear hst hzero hE
          go_wp2_with fail
          exact bodyPost_ret (v := .tuple #[.agg #[.slice none 0 0, .slice none 0 0, .slice none 0 0, .slice none 0 0], .slice none 0 0, .int .i64 er]) (by simp [results, Tryz.results46, go_sem, n0, n1, n2, n3]) rfl hfin.out
    obtain ⟨l, hl⟩ : ∃ l, P[k]? = some l := ⟨_, List.getElem?_eq_getElem (by have := hPl.out; omega)⟩
    obtain ⟨ad, dl, hpk, hits, hl0⟩ := hpv.out k l hl
    have hst := mkA_step (lv := lv) (s := sk) (M := made) hl
    have i1 : (0 : Int) ≤ (k : Int) := by omega
    have i2 : (k : Int) < (K : Int) := by omega
    have hBr := Lib.hid (B3.out.grown hgr.out B3.out.size (fun q e => by cases e; exact Nat.le_refl _))
    have cPk : wr.cell? ⟨w2.heap.size, k, none⟩ = some (.slice (some ad) l.length dl) := by
      rw [World.cell?_of_block (hgr.out.block w2.heap.size s3.out (by have := SZ.out; intro e; have := Option.some.inj e; omega)), cell_of_row w3 _ k _ _ _ hg3.out]
      simpa using hpk
    have hitr := stab_its.old hits hBr.out
    obtain ⟨x0, r0, hx0⟩ : ∃ x0 r0, l = x0 :: r0 := by
      cases l with
      | nil => simp at hl0
      | cons y r => exact ⟨y, r, rfl⟩
    have hx : l[0]? = some x0 := by rw [hx0]; rfl
    obtain ⟨ad0, E0, ce0, e0, _, ⟨z0, z1, z2, _, _⟩, hit0, _⟩ := its_at hitr hx
    cases e0
    have hkey : keyO l = x0.1 := by rw [hx0]; rfl
    have hNod : Nod (Old wr) wr (.agg #[.int .i64 lv, .slice (some ad) l.length dl]) (lv, l) := ⟨_, rfl, hlv.out, hitr⟩
    have HM := Lib.hid (makeV_four (.agg #[.slice pa.1 pa.2.1 pa.2.2, .slice pb.1 pb.2.1 pb.2.2, .slice pc.1 pc.2.1 pc.2.2, .slice pd.1 pd.2.1 pd.2.2]) _ sk (lv, l) wr hsto hNod)
    obtain ⟨k0, k1, k2, k3, kf, kg⟩ := four_cells hbx
    obtain ⟨ln, hln⟩ : ∃ q, l.length = q := ⟨_, rfl⟩
    obtain ⟨mkn, hmkn⟩ : ∃ q, mkN sk (lv, l) = q := ⟨_, rfl⟩
    obtain ⟨mke, hmke⟩ : ∃ q, mkE sk (lv, l) = q := ⟨_, rfl⟩
    obtain ⟨V, hV⟩ : ∃ q, mkV sk (lv, l) = q := ⟨_, rfl⟩
    rw [hln] at cPk hl0 HM
    rw [hmkn, hmke, hV] at HM hst
    have hitr' := Lib.hid hitr
    have hbx' := Lib.hid hbx
    have i3 : (0 : Int) < (ln : Int) := by omega
    have z0' : wr.cell? ad = some (.int .u8 (x0.1.1.toNat : Int)) := by simpa [Addr.add] using z0
    have z1' : wr.cell? ⟨ad.block, ad.off + 1, none⟩ = some (.int .u32 x0.1.2.1) := by simpa [Addr.add] using z1
    have z2' : wr.cell? ⟨ad.block, ad.off + 2, none⟩ = some (.int .u32 x0.1.2.2) := by simpa [Addr.add] using z2
    have zlt : ad.block < wr.heap.size := World.block_lt_of_cell? _ _ z0'
    have zold : Hid (ad.block ≠ w.heap.size) := Lib.hid (by
      obtain ⟨_, _, e, _, _, h4⟩ := hits
      cases e
      obtain ⟨_, vs, e, hv5, hh, _⟩ := h4 0 _ hx
      cases e
      obtain ⟨v, hv⟩ : ∃ v, vs[0]? = some v := ⟨_, List.getElem?_eq_getElem (by omega)⟩
      have := (hh 0 v hv).1
      unfold Old at this
      rw [add_block] at this
      omega)
    have hin0 := Lib.hid (show InK x0.1 from by
      obtain ⟨_, _, hi, _⟩ := hit0
      exact hi.key)
    replace hsto := Lib.hid hsto
    replace hl := Lib.hid hl
    replace hpk := Lib.hid hpk
    replace hln := Lib.hid hln
    replace hmkn := Lib.hid hmkn
    replace hmke := Lib.hid hmke
    replace hV := Lib.hid hV
    replace hrow := Lib.hid hrow
    replace hml := Lib.hid hml
    replace hx0 := Lib.hid hx0
    replace hkey := Lib.hid hkey
    clear hits hitr hNod hit0 z0 z1 z2 hx hbx
    go_wp2_with fail
    with_reducible refine (HM.out).mono ?_
    rintro e w4 ⟨va, vb, vc, vd, rfl, h4, hb4⟩
    obtain ⟨w5, hw5, g5, gr5, gs5⟩ := put_four (a' := .slice va.1 va.2.1 va.2.2) (b' := .slice vb.1 vb.2.1 vb.2.2) (c' := .slice vc.1 vc.2.1 vc.2.2) (d' := .slice vd.1 vd.2.1 vd.2.2) ((hb4.block w.heap.size kg).trans hbx'.out)
    obtain ⟨m0, m1, m2, m3, mf, mg⟩ := four_cells ((hb4.block w.heap.size kg).trans hbx'.out)
    obtain ⟨n0, n1, n2, n3, nf, ng⟩ := four_cells g5
    have hlt34 := Lib.hid (show w3.heap.size ≤ wr.heap.size from hgr.out.size)
    have gr45 : Hid (w3.grownBy w5 (some w.heap.size)) := Lib.hid (grow_trans (grow_below hgr.out hb4) gr5)
    have h5r : Hid (Sto (New wr.heap.size w5) w5 (.agg #[.slice va.1 va.2.1 va.2.2, .slice vb.1 vb.2.1 vb.2.2, .slice vc.1 vc.2.1 vc.2.2, .slice vd.1 vd.2.1 vd.2.2]) V) := Lib.hid (h4.grown gr5 (fun q e => by cases e; exact kg))
    have hMlt : Hid (∀ q, M.map (·.block) = some q → q < wr.heap.size) := Lib.hid fun q e => by
      obtain ⟨cs, ho, _⟩ := hrow.out
      exact (ho.lt q (by rw [← e]; cases M <;> rfl)).2
    have h5 : Hid (Sto (New w3.heap.size w5) w5 (.agg #[.slice va.1 va.2.1 va.2.2, .slice vb.1 vb.2.1 vb.2.2, .slice vc.1 vc.2.1 vc.2.2, .slice vd.1 vd.2.1 vd.2.2]) V) := Lib.hid (by
      have h4' := h4.grown gr5 (fun q e => by cases e; have := hlt34.out; have := s3.out; have := SZ.out; omega)
      exact h4'.new hlt34.out (Below.refl _ _))
    have row5 := Lib.hid ((hrow.out.below stab_it hb4).grown stab_it gr5 (fun q e => by cases e; have := s3.out; have := SZ.out; omega))
    have y0 : w5.cell? ad = some (.int .u8 (x0.1.1.toNat : Int)) := (World.cell?_of_block (gr5.block ad.block (Nat.lt_of_lt_of_le zlt hb4.size) (fun e => zold.out (Option.some.inj e)))).trans ((hb4.cell zlt).trans z0')
    have y1 : w5.cell? ⟨ad.block, ad.off + 1, none⟩ = some (.int .u32 x0.1.2.1) := (World.cell?_of_block (a := ⟨ad.block, ad.off + 1, none⟩) (gr5.block ad.block (Nat.lt_of_lt_of_le zlt hb4.size) (fun e => zold.out (Option.some.inj e)))).trans ((hb4.cell (p := ⟨ad.block, ad.off + 1, none⟩) zlt).trans z1')
    have y2 : w5.cell? ⟨ad.block, ad.off + 2, none⟩ = some (.int .u32 x0.1.2.2) := (World.cell?_of_block (a := ⟨ad.block, ad.off + 2, none⟩) (gr5.block ad.block (Nat.lt_of_lt_of_le zlt hb4.size) (fun e => zold.out (Option.some.inj e)))).trans ((hb4.cell (p := ⟨ad.block, ad.off + 2, none⟩) zlt).trans z2')
    replace gr5 := Lib.hid gr5
    replace g5 := Lib.hid g5
    replace gs5 := Lib.hid gs5
    replace mf := mf
    clear z0' z1' z2' hb4 h4 HM k0 k1 k2 k3 kf hitr'
    go_upto_region 6 with fail
    by_cases hme : mke = 0
    case neg =>
      have t0 : (mke != 0) = true := by simpa using hme
      have hE : layO s lv L F = (mke, emptyR, []) := by
        rw [if_neg hme] at hst
        exact lay_b (by rw [← hbu.out, hmk.out, hst]) hme
      obtain ⟨W9, e9, k0, k1, k2, k3, u0, u1, u2, u3, uf, hfin⟩ := hzero.out mke w5 hE gr45.out
      replace hfin := Lib.hid hfin
      replace hme := Lib.hid hme
      clear hst hzero hE
      go_wp2_with fail
      exact bodyPost_ret (v := .tuple #[.agg #[.slice none 0 0, .slice none 0 0, .slice none 0 0, .slice none 0 0], .slice none 0 0, .int .i64 mke]) (by simp [results, Tryz.results46, go_sem, k0, k1, k2, k3]) rfl hfin.out
    subst hme
    rw [if_pos rfl] at hst
    obtain ⟨kk, ek, e8, e256, _⟩ := mk_counts hmke.out
    rw [hmkn.out] at ek
    have hin : InI (x0.1, mkn, []) := ⟨hin0.out, show In64 mkn from ⟨by omega, by omega⟩⟩
    obtain ⟨w6, hw6, -, -, -, -, -, hs6, hb6, b6⟩ := box_five w5 (.int .u8 (x0.1.1.toNat : Int)) (.int .u32 x0.1.2.1) (.int .u32 x0.1.2.2) (.int .i64 mkn) (.slice none 0 0) 40
    have row6 := row5.out.below stab_it hb6
    obtain ⟨A7, c7, w7, hr7, row7, gr7, hb7⟩ := its_push row6 w5.heap.size (x0.1, mkn, []) (.slice none 0 0) 1 made.length rfl b6 (by have := hml.out; omega) (by have := hlt34.out; have := gr45.out.size; omega) hin (rBy_part0 _ _ none)
    have g7 : Hid (w7.heap[w.heap.size]? = some (.cells #[.slice va.1 va.2.1 va.2.2, .slice vb.1 vb.2.1 vb.2.2, .slice vc.1 vc.2.1 vc.2.2, .slice vd.1 vd.2.1 vd.2.2] 29 (0, 0))) := Lib.hid ((hb7.block w.heap.size (by have := s3.out; have := SZ.out; omega)).trans ((hb6.block w.heap.size ng).trans g5.out))
    have gr47 : Hid (w3.grownBy w7 (some w.heap.size)) := Lib.hid (by
      have h46 := grow_below gr45.out hb6
      refine ⟨gr7.os.trans h46.os, gr7.tape.trans h46.tape, gr7.output.trans h46.output, Nat.le_trans h46.size gr7.size, fun q hq hne => (hb7.block q hq).trans (h46.block q hq hne)⟩)
    have h7 : Hid (Sto (New w3.heap.size w7) w7 (.agg #[.slice va.1 va.2.1 va.2.2, .slice vb.1 vb.2.1 vb.2.2, .slice vc.1 vc.2.1 vc.2.2, .slice vd.1 vd.2.1 vd.2.2]) V) := Lib.hid (by
      have h6 := h5r.out.new (Nat.le_refl _) hb6
      exact (h6.grown gr7 (fun q e => hMlt.out q e)).new hlt34.out (Below.refl _ _))
    have hmk7 : Hid (mkA lv s [] P = mkA lv V (made ++ [(x0.1, mkn, [])]) (P.drop (k + 1))) := Lib.hid (by
      rw [hmk.out, hst]
      congr 3
      unfold upI
      rw [hkey.out])
    have H7 := Lib.hid hr7
    have hl7 : Hid ((made ++ [((x0.1, mkn, []) : It)]).length = k + 1) := Lib.hid (by rw [List.length_append, hml.out]; rfl)
    have hl8 : Hid ((made ++ [((x0.1, mkn, []) : It)]).length = made.length + 1) := Lib.hid (by rw [List.length_append]; rfl)
    obtain ⟨mm, hmm⟩ : ∃ q, made.length = q := ⟨_, rfl⟩
    rw [hmm] at H7 hl8
    obtain ⟨MM, hMM⟩ : ∃ q, made ++ [((x0.1, mkn, []) : It)] = q := ⟨_, rfl⟩
    rw [hMM] at row7 hmk7 hl7 hl8
    replace hMM := Lib.hid hMM
    replace row7 := Lib.hid row7
    replace hs6 := Lib.hid hs6
    replace b6 := Lib.hid b6
    replace ek := Lib.hid ek
    clear hin hr7 gr7 hb7 hb6 row6 hst hzero
    rw [hmm]
    replace hmm := Lib.hid hmm
    have i9 : IntKind.i64.wrap ((k : Int) + 1) = ((k + 1 : Nat) : Int) := by rw [IntKind.wrap_i64]; have := hPl.out; omega
    go_wp2_with (at_builtin; refine wpList_append_run rfl _ _ _ rfl rfl rfl H7.out ?_; clear H7)
    go_roundw
    case rel => exact ⟨k + 1, A7, c7, MM, V, va, vb, vc, vd, by omega, by go_num, by rw [hl8.out], hl7.out, hmk7.out, g7.out, h7.out.drop, fun _ => h7.out, row7.out, gr47.out⟩
    case measure => simp [intOf]; omega
end Go.Proofs.YtogieepfimpdmaaGreat

/-
  A range over a function whose rounds are told of what they are handed. Conditions: those that each lemma states.
-/
namespace Go.Proofs.YtogieepfimpdmaaGreat
open Go.RowKit

/-! ### What a round keeps -/
/-- All blocks stay but for those of M, and but for one row; and that row is not taken among the others. -/
structure Kept (M : Nat → Prop) (o o' : Option Nat) (W W' : World) : Prop where
  size : W.heap.size ≤ W'.heap.size
  same : ∀ k, k < W.heap.size → ¬ M k → o ≠ some k → W'.heap[k]? = W.heap[k]? ∧ o' ≠ some k
theorem Kept.refl (M : Nat → Prop) (o : Option Nat) (W : World) : Kept M o o W W := ⟨Nat.le_refl _, fun _ _ _ h => ⟨rfl, h⟩⟩
theorem Kept.trans {M : Nat → Prop} {o o' q : Option Nat} {A B C : World} (h : Kept M o o' A B) (h' : Kept M o' q B C) : Kept M o q A C :=
  ⟨Nat.le_trans h.size h'.size, fun k hk hm ho => by
    obtain ⟨e, n⟩ := h.same k hk hm ho
    obtain ⟨e', n'⟩ := h'.same k (Nat.lt_of_lt_of_le hk h.size) hm n
    exact ⟨e'.trans e, n'⟩⟩
/-- One block of a world is turned that is one of M, or that row; or none. -/
theorem Kept.grown {M : Nat → Prop} {o q : Option Nat} {A B C : World} {row : Option Nat} (h : Kept M o q A B) (hg : B.grownBy C row) (hr : ∀ r, row = some r → A.heap.size ≤ r ∨ M r) : Kept M o q A C :=
  ⟨Nat.le_trans h.size hg.size, fun k hk hm ho => by
    obtain ⟨e, n⟩ := h.same k hk hm ho
    refine ⟨(hg.block k (Nat.lt_of_lt_of_le hk h.size) (fun e' => ?_)).trans e, n⟩
    rcases hr k e'.symm with h1 | h1
    · omega
    · exact hm h1⟩
theorem Kept.wide {M M' : Nat → Prop} {o q : Option Nat} {A B : World} (h : Kept M o q A B) (hM : ∀ k, k < A.heap.size → M k → M' k) : Kept M' o q A B :=
  ⟨h.size, fun k hk hm ho => h.same k hk (fun h1 => hm (hM k hk h1)) ho⟩
/-- That row is turned, or laid anew. -/
theorem Kept.row {M : Nat → Prop} {o q : Option Nat} {A B : World} {row : Option Nat} (hg : A.grownBy B row) (hr : ∀ r, row = some r → o = some r ∨ M r) (hq : ∀ r, q = some r → o = some r ∨ M r ∨ A.heap.size ≤ r) : Kept M o q A B :=
  ⟨hg.size, fun k hk hm ho => ⟨hg.block k hk (fun e => by
    rcases hr k e.symm with h | h
    · exact ho h
    · exact hm h), fun e => by
    rcases hq k e with h | h | h
    · exact ho h
    · exact hm h
    · omega⟩⟩
theorem Kept.cell {M : Nat → Prop} {o q : Option Nat} {A B : World} (h : Kept M o q A B) {p : Addr} (hp : p.block < A.heap.size) (hm : ¬ M p.block) (ho : o ≠ some p.block) : B.cell? p = A.cell? p := World.cell?_of_block (h.same _ hp hm ho).1
theorem below_grown {W W' : World} (h : Below W.heap.size W W') : W.grownBy W' none := ⟨h.os, h.tape, h.output, h.size, fun k hk _ => h.block k hk⟩
theorem Kept.below {M : Nat → Prop} {o : Option Nat} {W W' : World} (h : Below W.heap.size W W') : Kept M o o W W' := ⟨h.size, fun k hk _ ho => ⟨h.block k hk, ho⟩⟩

/-! ### What a function that is ranged over tells -/
/-- What a round ends in. -/
def RoundE {α : Type} (M : Nat → Prop) (J Jx : List α × Option Nat → World → Prop) (xs : List α) (o : Option Nat) (W : World) : Ending → World → Prop := fun e W' =>
  ∃ o', Kept M o o' W W' ∧ ((e = .returned (.bool true) ∧ J (xs, o') W') ∨ (e = .returned (.bool false) ∧ Jx (xs, o') W'))
/-- A function that is ranged over: whatever the rounds keep of their own, each is told (T) of what it is handed. -/
def Told {α : Type} (P : Program) (g : Nat) (lb : Array Value) (encs : α → Array Value) (T : Nat → List α → α → Option Nat → World → Prop) (End : List α → Prop) (Z : Nat → Prop) (w : World) : Prop :=
  ∀ (l : Nat) (M : Nat → Prop) (J Jx : List α × Option Nat → World → Prop) (o : Option Nat) (W : World), Below w.heap.size w W → OwnFrom W.heap.size J → OwnFrom W.heap.size Jx →
    (∀ k, M k → k < W.heap.size) → (∀ s W1, J s W1 → W.heap.size ≤ W1.heap.size ∧ ∀ k, s.2 = some k → k < W1.heap.size) → (∀ k, Z k → ¬ M k ∧ o ≠ some k) →
    (∀ pre q x W1, J (pre, q) W1 → T W.heap.size pre x q W1 → YieldAt Fence.wide 0 P l (encs x) W1 (RoundE M J Jx (pre ++ [x]) q W1)) →
    J ([], o) W → Calls P g (#[.func (.yield l) #[] #[]] ++ lb) W fun e W' => (∃ v, e = .returned v) ∧ ((∃ xs q, End xs ∧ J (xs, q) W') ∨ (∃ pre q, Jx (pre, q) W'))

theorem round_wide {P : Program} {l f m : Nat} {tmps : Array Value} {assign body : Code} {w : World} {R : Ending → World → Prop} (h : RoundIn Fence.wide 0 P l f tmps assign body w R) : RoundIn Fence.wide m P l f tmps assign body w R :=
  ⟨h.1, fun c cs _ => h.2 c cs (room_wide _)⟩

/-- How the body of a round may be left. -/
def toldPost {α : Type} (M : Nat → Prop) (I : List α × Option Nat → World → Prop) (Ix : Code → List α × Option Nat → World → Prop) (xs : List α) (o : Option Nat) (W : World) : Exit → Act → World → Prop
  | .normal, _, W' => ∃ q, Kept M o q W W' ∧ I (xs, q) W'
  | .ret, _, W' => ∃ q, Kept M o q W W' ∧ Ix .ret (xs, q) W'
  | .exit id, _, W' => ∃ q, Kept M o q W W' ∧ Ix (.exit id) (xs, q) W'
  | .goto t, _, W' => ∃ q, Kept M o q W W' ∧ Ix (.goto t) (xs, q) W'
  | .panic _, _, _ => False
  | .outgrown, _, _ => False

/-- The end of a round: its loop's record is turned, and all else stays. -/
theorem round_end {α : Type} {P : Program} {M : Nat → Prop} {I J Jx : List α × Option Nat → World → Prop} {B D L : Nat} {rec : LoopState → Option Code → Loop} (hrec : ∀ s c, { rec s c with state := .ready, pending := none } = rec .ready none ∧ ∀ s' c', { rec s c with state := s', pending := c' } = rec s' c')
    {W W' : World} {xs : List α} {o q : Option Nat} (jump : Option Code) (hL : W.heap[L]? = some (.loop (rec .busy none))) (hD : W.heap[D]? = some (.deferred (some []))) (hDL : D ≠ L) (hBL : B ≤ L) (hML : ¬ M L) (hMD : ¬ M D) (hoL : o ≠ some L) (hoD : o ≠ some D)
    (hk : Kept M o q W W') (hI : OwnFrom B I) (hi : I (xs, q) W')
    (hfin : ∀ W2, I (xs, q) W2 → W2.heap[L]? = some (.loop (rec (if jump.isNone then .ready else .done) jump)) → W2.heap[D]? = some (.deferred (some [])) → q ≠ some L → q ≠ some D → if jump.isNone then J (xs, q) W2 else Jx (xs, q) W2) :
    ∃ v W2, (Instr.endRound L jump).run P W' = .ok v W2 ∧ Kept (fun k => M k ∨ k = L) o q W W2 ∧ ((v = .bool true ∧ J (xs, q) W2) ∨ (v = .bool false ∧ Jx (xs, q) W2)) := by
  obtain ⟨e1, n1⟩ := hk.same L (Array.getElem?_eq_some_iff.1 hL).1 hML hoL
  obtain ⟨e2, n2⟩ := hk.same D (Array.getElem?_eq_some_iff.1 hD).1 hMD hoD
  have hL3 := e1.trans hL
  have hD3 := e2.trans hD
  have hrun := run_endRound (P := P) jump hL3
  rw [(hrec .busy none).2] at hrun
  have hf := hfin _ (hI.putObj (.loop (rec (if jump.isNone then .ready else .done) jump)) hi hBL hL3 rfl) (World.putObj_heap_same (Array.getElem?_eq_some_iff.1 hL3).1) ((World.putObj_heap_other hDL).trans hD3) n1 n2
  refine ⟨_, _, hrun, ?_, ?_⟩
  · exact (hk.wide fun _ _ h => .inl h).grown (grownBy_putObj' _ _ _) fun r e => by cases e; exact .inr (.inr rfl)
  · cases jump with
    | none => exact .inl ⟨rfl, by simpa using hf⟩
    | some c => exact .inr ⟨rfl, by simpa using hf⟩

set_option maxHeartbeats 1000000 in
/-- The statement: an invariant of one's own (I), where a round leaves (Ix), and one walk of the body. -/
theorem range_told {α : Type} {P : Program} {g : Operand} {ps : Array Tmp} {assign body : Code} {Q : Exit → Act → World → Prop} {a : Act} {w : World} {m : Nat} {gf : Nat} {lb : Array Value}
    (hg : a.eval g = .func (.func gf) #[] lb) (eg : ∀ args w, (callFunc gf args).run P w = .ok (.enter gf args) w)
    {encs : α → Array Value} {T : Nat → List α → α → Option Nat → World → Prop} {End : List α → Prop} {Z : Nat → Prop} (hseq : Told P gf lb encs T End Z w) (hps : ∀ x, (encs x).size = ps.size)
    (M : Nat → Prop) (hM : ∀ k, M k → k < w.heap.size) (o : Option Nat) (hZ : ∀ k, Z k → k < w.heap.size ∧ ¬ M k ∧ o ≠ some k)
    (I : List α × Option Nat → World → Prop) (Ix : Code → List α × Option Nat → World → Prop) (hI : OwnFrom w.heap.size I) (hIx : ∀ c, OwnFrom w.heap.size (Ix c)) (hIo : ∀ s W, I s W → ∀ k, s.2 = some k → k < W.heap.size) (h0 : I ([], o) w)
    (Ax : α → Act → World → Prop) (hAx : ∀ x a', OwnFrom w.heap.size (fun (_ : Unit) W => Ax x a' W)) (hT : ∀ pre x q, OwnFrom w.heap.size (fun (_ : Unit) W => T (w.heap.size + 2) pre x q W))
    (hassign : ∀ (l : Nat) (pre : List α) (q : Option Nat) (x : α) (W : World) (K : Act → World → Prop), I (pre, q) W → T (w.heap.size + 2) pre x q W → (∀ a' W', W.grownBy W' none → Ax x a' W' → K a' W') →
      assign.wpIn (Fence.wide.inRound l) 0 P (Exit.then K (fun _ _ _ => False)) { tmps := (ps.zip (encs x)).foldl (fun t (p, v) => t.setIfInBounds p v) a.tmps, defers := [] } W)
    (hbody : ∀ (l : Nat) (pre : List α) (q : Option Nat) (x : α) (a' : Act) (W : World), w.heap.size + 2 ≤ W.heap.size → I (pre, q) W → Ax x a' W → T (w.heap.size + 2) pre x q W → body.wpIn (Fence.wide.inRound l) 0 P (toldPost M I Ix (pre ++ [x]) q W) a' W)
    (hdone : ∀ (xs : List α) (q : Option Nat) (W : World), w.heap.size < W.heap.size → End xs → I (xs, q) W → W.heap[w.heap.size]? = some (.deferred (some [])) → q ≠ some w.heap.size → Q .normal { a with defers := { target := .collected w.heap.size, args := #[] } :: a.defers } W)
    (hstop : ∀ (c : Code) (pre : List α) (q : Option Nat) (W : World), w.heap.size < W.heap.size → Ix c (pre, q) W → W.heap[w.heap.size]? = some (.deferred (some [])) → q ≠ some w.heap.size → c.wpIn Fence.wide m P Q { a with defers := { target := .collected w.heap.size, args := #[] } :: a.defers } W) :
    (Code.rangeFunc g ps assign body).wpIn Fence.wide m P Q a w := by
  refine wpIn_rangeFunc fun fn hfn => ?_
  obtain ⟨rec, hrec⟩ : ∃ rec : LoopState → Option Code → Loop, rec = fun st pe => { state := st, pending := pe, fn, tmps := a.tmps, params := ps, assign, body, defers := w.heap.size } := ⟨_, rfl⟩
  have hrec' : ∀ s c, { rec s c with state := .ready, pending := none } = rec .ready none ∧ ∀ s' c', { rec s c with state := s', pending := c' } = rec s' c' := fun s c => by rw [hrec]; exact ⟨rfl, fun _ _ => rfl⟩
  obtain ⟨D, hDe⟩ : ∃ D, w.heap.size = D := ⟨_, rfl⟩
  obtain ⟨V, hV⟩ : ∃ V, (w.alloc (.deferred (some []))).alloc (.loop (rec .ready none)) = V := ⟨_, rfl⟩
  have hVs : V.heap.size = D + 2 := by rw [← hV, ← hDe]; simp
  have hVL : V.heap[D + 1]? = some (.loop (rec .ready none)) := by
    rw [← hV, ← hDe]
    have := World.alloc_heap_new (w.alloc (.deferred (some []))) (.loop (rec .ready none))
    rwa [World.size_alloc] at this
  have hVD : V.heap[D]? = some (.deferred (some [])) := by
    rw [← hV, ← hDe]
    exact (Below.heap_alloc _ _ _ (by simp)).trans (World.alloc_heap_new w _)
  have hVb : Below w.heap.size w V := by rw [← hV]; exact ((Below.refl _ w).alloc (Nat.le_refl _) _).alloc (by simp) _
  have hVI : I ([], o) V := by rw [← hV]; exact hI.alloc _ (hI.alloc _ h0)
  have hoD : o ≠ some D ∧ o ≠ some (D + 1) := ⟨fun e => by have := hIo _ _ h0 D e; omega, fun e => by have := hIo _ _ h0 (D + 1) e; omega⟩
  have hMD : ¬ M D ∧ ¬ M (D + 1) := ⟨fun e => by have := hM _ e; omega, fun e => by have := hM _ e; omega⟩
  have hnw : ∀ {A : World} {row : Option Nat}, (∀ r, row = some r → V.heap.size ≤ r ∧ ∃ o : Obj, A.heap[r]? = some o ∧ o.isCells = false) → ∀ r, row = some r → w.heap.size ≤ r ∧ ∃ o : Obj, A.heap[r]? = some o ∧ o.isCells = false :=
    fun hr r e => ⟨by have := (hr r e).1; omega, (hr r e).2⟩
  have hkeep : ∀ {A B : World} {row : Option Nat} {k : Nat} {x : Obj}, A.grownBy B row → (∀ r, row = some r → V.heap.size ≤ r ∧ ∃ o : Obj, A.heap[r]? = some o ∧ o.isCells = false) → k < D + 2 → A.heap[k]? = some x → B.heap[k]? = some x := fun {A B row k x} hg' hr hk hx =>
    (hg'.block k (Array.getElem?_eq_some_iff.1 hx).1 (fun e => by have := (hr k e.symm).1; omega)).trans hx
  refine ⟨D + 1, [{ target := .collected D, args := #[] }], V, { target := .fn (.func gf) lb, args := #[.func (.yield (D + 1)) #[] #[]] }, V, gf, #[.func (.yield (D + 1)) #[] #[]] ++ lb, V, ?_, ?_, fun _ _ => trivial, ?_, fun h => (by cases h), ?_⟩
  · rw [← hV, hrec, ← hDe]
    exact run_enterLoop_outer _ _ _ _ _
  · simp only [resolve, hg]
    simp [go_sem]
  · simp [invoke, go_sem, eg]
  refine callsIn_wide.2 ((hseq (D + 1) (fun k => M k ∨ k = D + 1)
    (fun s W => (I s W ∧ V.heap.size ≤ W.heap.size) ∧ (W.heap[D + 1]? = some (.loop (rec .ready none)) ∧ W.heap[D]? = some (.deferred (some []))) ∧ s.2 ≠ some (D + 1) ∧ s.2 ≠ some D)
    (fun s W => ∃ c, (Ix c s W ∧ V.heap.size ≤ W.heap.size) ∧ (W.heap[D + 1]? = some (.loop (rec .done (some c))) ∧ W.heap[D]? = some (.deferred (some []))) ∧ s.2 ≠ some (D + 1) ∧ s.2 ≠ some D) o V hVb ?_ ?_ ?_ ?_ ?_ ?_ ⟨⟨hVI, Nat.le_refl _⟩, ⟨hVL, hVD⟩, hoD.2, hoD.1⟩).mono ?_)
  · intro s A B row hs hg' hr
    exact ⟨⟨hI s A B row hs.1.1 hg' (hnw hr), Nat.le_trans hs.1.2 hg'.size⟩, ⟨hkeep hg' hr (by omega) hs.2.1.1, hkeep hg' hr (by omega) hs.2.1.2⟩, hs.2.2⟩
  · rintro s A B row ⟨c, hs⟩ hg' hr
    exact ⟨c, ⟨hIx c s A B row hs.1.1 hg' (hnw hr), Nat.le_trans hs.1.2 hg'.size⟩, ⟨hkeep hg' hr (by omega) hs.2.1.1, hkeep hg' hr (by omega) hs.2.1.2⟩, hs.2.2⟩
  · rintro k (h | h)
    · have := hM k h
      omega
    · omega
  · intro s W1 hs
    exact ⟨hs.1.2, hIo s W1 hs.1.1⟩
  · intro k hk
    obtain ⟨h1, h2, h3⟩ := hZ k hk
    exact ⟨fun h => h.elim h2 fun e => by omega, h3⟩
  · -- one round
    rintro pre q x W ⟨⟨hi, hsz⟩, ⟨hl, hd⟩, nL, nD⟩ htold
    rw [hVs] at htold hsz
    rw [← hDe] at htold
    have hy := run_yield (P := P) (args := encs x) hl (by rw [hrec]; exact hps x)
    rw [hrec] at hy
    refine ⟨fn, _, assign, body, hy, roundIn_of_wpIn hfn (hassign _ pre q x W _ hi htold fun a' Wa hga hax => ?_)⟩
    clear hy
    have hla : Wa.heap[D + 1]? = some (.loop (rec .ready none)) := (hga.block _ (Array.getElem?_eq_some_iff.1 hl).1 (by simp)).trans hl
    have hda : Wa.heap[D]? = some (.deferred (some [])) := (hga.block _ (Array.getElem?_eq_some_iff.1 hd).1 (by simp)).trans hd
    have hia := hI _ _ _ none hi hga (by simp)
    have hta := hT pre x q () _ _ none htold hga (by simp)
    have hbeg := run_beginRound (P := P) hla (by rw [hrec])
    rw [show ({ rec .ready none with state := .busy } : Loop) = rec .busy none by rw [hrec]] at hbeg
    refine ⟨_, hbeg, ?_⟩
    have hlb := (World.putObj_heap_same (w := Wa) (o := .loop (rec .busy none)) (Array.getElem?_eq_some_iff.1 hla).1)
    have hdb := (World.putObj_heap_other (w := Wa) (r := D + 1) (k := D) (o := .loop (rec .busy none)) (by omega)).trans hda
    have hib := hI.putObj (.loop (rec .busy none)) hia (by omega : w.heap.size ≤ D + 1) hla rfl
    have haxb := (hAx x a').putObj (s := ()) (.loop (rec .busy none)) hax (by omega : w.heap.size ≤ D + 1) hla rfl
    have htb := (hT pre x q).putObj (s := ()) (.loop (rec .busy none)) hta (by omega : w.heap.size ≤ D + 1) hla rfl
    have hkb : Kept (fun k => M k ∨ k = D + 1) q q W (Wa.putObj (D + 1) (.loop (rec .busy none))) := ((Kept.refl _ _ _).grown hga (by simp)).grown (grownBy_putObj' _ _ _) fun r e => by cases e; exact .inr (.inr rfl)
    have hszb : w.heap.size + 2 ≤ (Wa.putObj (D + 1) (.loop (rec .busy none))).heap.size := by rw [World.putObj_size]; have := hga.size; omega
    refine wpIn_mono (hbody _ pre q x a' _ hszb hib haxb htb) ?_
    have fin : ∀ (jump : Option Code) (Y : List α × Option Nat → World → Prop) (q' : Option Nat) (W3 : World), OwnFrom w.heap.size Y → Y (pre ++ [x], q') W3 → Kept M q q' (Wa.putObj (D + 1) (.loop (rec .busy none))) W3 → (match jump with | none => Y = I | some c => Y = Ix c) →
        ∃ v W4, (Instr.endRound (D + 1) jump).run P W3 = .ok v W4 ∧ RoundE (fun k => M k ∨ k = D + 1) (fun s W => (I s W ∧ V.heap.size ≤ W.heap.size) ∧ (W.heap[D + 1]? = some (.loop (rec .ready none)) ∧ W.heap[D]? = some (.deferred (some []))) ∧ s.2 ≠ some (D + 1) ∧ s.2 ≠ some D)
          (fun s W => ∃ c, (Ix c s W ∧ V.heap.size ≤ W.heap.size) ∧ (W.heap[D + 1]? = some (.loop (rec .done (some c))) ∧ W.heap[D]? = some (.deferred (some []))) ∧ s.2 ≠ some (D + 1) ∧ s.2 ≠ some D) (pre ++ [x]) q W (.returned v) W4 := by
      intro jump Y q' W3 hY hy3 hk3 hJ
      obtain ⟨v, W4, hr, hk4, hv⟩ := round_end (P := P) (J := fun s W => (I s W ∧ V.heap.size ≤ W.heap.size) ∧ (W.heap[D + 1]? = some (.loop (rec .ready none)) ∧ W.heap[D]? = some (.deferred (some []))) ∧ s.2 ≠ some (D + 1) ∧ s.2 ≠ some D)
        (Jx := fun s W => ∃ c, (Ix c s W ∧ V.heap.size ≤ W.heap.size) ∧ (W.heap[D + 1]? = some (.loop (rec .done (some c))) ∧ W.heap[D]? = some (.deferred (some []))) ∧ s.2 ≠ some (D + 1) ∧ s.2 ≠ some D) hrec' jump hlb hdb (by omega) (by omega : w.heap.size ≤ D + 1) hMD.2 hMD.1 nL nD hk3 (hY.and (I' := fun _ W => V.heap.size ≤ W.heap.size) fun _ _ _ _ hs hg _ => Nat.le_trans hs hg.size)
        ⟨hy3, by have := hk3.size; omega⟩ (fun W2 hy2 hl2 hd2 n1 n2 => by
          cases jump with
          | none =>
            cases hJ
            exact ⟨hy2, ⟨hl2, hd2⟩, n1, n2⟩
          | some c =>
            cases hJ
            exact ⟨c, hy2, ⟨hl2, hd2⟩, n1, n2⟩)
      exact ⟨v, W4, hr, q', hkb.trans hk4, hv.imp (fun h => ⟨by rw [h.1], h.2⟩) fun h => ⟨by rw [h.1], h.2⟩⟩
    rintro e a3 W3 hp
    cases e with
    | normal =>
      obtain ⟨q', hk3, hi3⟩ := hp
      exact fin none I q' W3 hI hi3 hk3 rfl
    | ret =>
      obtain ⟨q', hk3, hi3⟩ := hp
      exact fin (some .ret) _ q' W3 (hIx _) hi3 hk3 rfl
    | exit id =>
      obtain ⟨q', hk3, hi3⟩ := hp
      exact fin (some (.exit id)) _ q' W3 (hIx _) hi3 hk3 rfl
    | goto t =>
      obtain ⟨q', hk3, hi3⟩ := hp
      exact fin (some (.goto t)) _ q' W3 (hIx _) hi3 hk3 rfl
    | panic ch => exact hp.elim
    | outgrown => exact hp.elim
  · -- behind it
    rintro e W2 ⟨⟨v, rfl⟩, ⟨xs, q, hE, ⟨hi, hsz⟩, ⟨hl, hd⟩, nL, nD⟩ | ⟨pre, q, c, ⟨hi, hsz⟩, ⟨hl, hd⟩, nL, nD⟩⟩
    · have := run_endLoop (P := P) hl (by rw [hrec]; simp)
      rw [hrec] at this
      refine ⟨none, _, this, ?_⟩
      have h1 := hdone xs q (W2.putObj (D + 1) (.loop { rec .ready none with state := .exhausted })) (by rw [World.putObj_size]; omega) hE (hI.putObj _ hi (by omega) hl rfl) (by rw [hDe]; exact (World.putObj_heap_other (by omega)).trans hd) (by rw [hDe]; exact nD)
      rw [hDe, hrec] at h1
      exact h1
    · have := run_endLoop (P := P) hl (by rw [hrec]; simp)
      rw [hrec] at this
      refine ⟨some c, _, this, ?_⟩
      have h1 := hstop c pre q (W2.putObj (D + 1) (.loop { rec .done (some c) with state := .exhausted })) (by rw [World.putObj_size]; omega) ((hIx c).putObj _ hi (by omega) hl rfl) (by rw [hDe]; exact (World.putObj_heap_other (by omega)).trans hd) (by rw [hDe]; exact nD)
      rw [hDe, hrec] at h1
      exact h1
end Go.Proofs.YtogieepfimpdmaaGreat

/-
  Package put: steps from behind; do they part? Conditions: those that each lemma states.
-/
namespace Go.Proofs.YtogieepfimpdmaaGreat
open Go.RowKit Go.Shelf
attribute [local go_sem] Oper.semAt_some

/-- A step: its node, the place, whether instead; where the node's items are, and between which blocks all of them lie. -/
structure Sv where
  nd : Nd
  pl : Nat
  inst : Bool
  A : Option Addr
  c : Nat
  lo : Nat
  hi : Nat
def svV (q : Sv) : List Value := [.int .i64 q.nd.1, .slice q.A q.nd.2.length q.c, .int .i64 (q.pl : Int), .bool q.inst]
def svs (l : List Sv) : List Value := l.flatMap svV
abbrev encS (f : Nat → Sv) (x : Nat) : Array Value := #[.int .i64 (x : Int), .agg #[.int .i64 (f x).nd.1, .slice (f x).A (f x).nd.2.length (f x).c, .int .i64 ((f x).pl : Int), .bool (f x).inst]]
structure At4 (w : World) (p : Addr) (q : Sv) : Prop where
  c0 : w.cell? p = some (.int .i64 q.nd.1)
  c1 : w.cell? ⟨p.block, p.off + 1, none⟩ = some (.slice q.A q.nd.2.length q.c)
  c2 : w.cell? ⟨p.block, p.off + 2, none⟩ = some (.int .i64 (q.pl : Int))
  c3 : w.cell? ⟨p.block, p.off + 3, none⟩ = some (.bool q.inst)
theorem At4.same {w w' : World} {p : Addr} {q : Sv} (h : At4 w p q) (e : w'.heap[p.block]? = w.heap[p.block]?) : At4 w' p q :=
  ⟨(World.cell?_of_block e).trans h.c0, (World.cell?_of_block (a := ⟨p.block, p.off + 1, none⟩) e).trans h.c1, (World.cell?_of_block (a := ⟨p.block, p.off + 2, none⟩) e).trans h.c2, (World.cell?_of_block (a := ⟨p.block, p.off + 3, none⟩) e).trans h.c3⟩

set_option maxRecDepth 100000 in
set_option maxHeartbeats 4000000 in
/-- The closure of slices.Backward at steps tells them from behind. -/
theorem backS_told (Bs cap m : Nat) (A : Option Addr) (ad : Addr) (f : Nat → Sv) (w : World) (hBs : w.cell? ⟨Bs, 0, none⟩ = some (.slice A m cap)) (hA : 0 < m → A = some ad ∧ ad.block < w.heap.size) (hm : m ≤ 1000) (hc : ∀ j, j < m → At4 w (ad.add (j * 4)) (f j)) :
    Told Tryz.prog 67 #[.pointer (some ⟨Bs, 0, none⟩)] (encS f) (fun _ pre x _ _ => pre = downs m pre.length ∧ pre.length < m ∧ x = m - 1 - pre.length) (fun xs => xs = downs m m) (fun k => k = Bs ∨ (0 < m ∧ k = ad.block)) w := by
  intro l M J Jx o W hW hJ hJx hM hJs hZ hY h0
  have hBl : Bs < w.heap.size := World.block_lt_of_cell? _ _ hBs
  have hzB := Lib.hid (hZ Bs (.inl rfl))
  have hzA := Lib.hid (fun h : 0 < m => hZ ad.block (.inr ⟨h, rfl⟩))
  have hcW := Lib.hid (fun j (hj : j < m) => (hc j hj).same (hW.block _ (by rw [add_block]; exact (hA (by omega)).2)))
  have hBW := Lib.hid ((hW.cell (p := ⟨Bs, 0, none⟩) hBl).trans hBs)
  have hlt := Lib.hid (show Bs < W.heap.size ∧ (0 < m → ad.block < W.heap.size) from ⟨Nat.lt_of_lt_of_le hBl hW.size, fun h => Nat.lt_of_lt_of_le (hA h).2 hW.size⟩)
  have hAA := Lib.hid (fun h => (hA h).1)
  have b0 := hBW.out
  replace hY := Lib.hid hY
  replace hM := Lib.hid hM
  replace hJs := Lib.hid hJs
  replace hZ := Lib.hid hZ
  clear hc hBs hA hW
  refine callsIn_wide.1 (callsIn_of_wp (n := 5) Tryz.func67 rfl trivial ?_ rfl)
  simp only [Tryz.ntmps67, List.size_toArray, List.length_cons, List.length_nil, Nat.reduceAdd, Nat.reduceSub, Array.replicate_succ, Array.replicate_zero, List.push_toArray, List.append_toArray, List.nil_append, List.cons_append]
  gi_wp2
  clear b0
  gi_loopw [3] (fun i wr => ∃ (k : Nat) (q : Option Nat), k ≤ m ∧ i = .int .i64 ((m : Int) - 1 - k) ∧ J (downs m k, q) wr ∧ Kept M o q W wr)
    (fun i _ => (intOf i + 1).toNat)
  case atStart => exact ⟨0, o, Nat.zero_le _, by simp, h0, Kept.refl _ _ _⟩
  case round =>
    obtain ⟨k, q, hk, rfl, hJr, hKr⟩ := hrel
    have hbr : wr.cell? ⟨Bs, 0, none⟩ = some (.slice A m cap) := (hKr.cell (p := ⟨Bs, 0, none⟩) hlt.out.1 hzB.out.1 hzB.out.2).trans hBW.out
    by_cases hkm : k < m
    · obtain rfl := hAA.out (by omega)
      obtain ⟨g1, g2, g3, g4⟩ := (hcW.out (m - 1 - k) (by omega)).same (w' := wr) (by rw [add_block]; exact (hKr.same ad.block (hlt.out.2 (by omega)) (hzA.out (by omega)).1 (hzA.out (by omega)).2).1)
      obtain ⟨fn, tmps, assign, body, hy, hR⟩ := hY.out _ q (m - 1 - k) wr hJr ⟨by rw [downs_length], by rw [downs_length]; exact hkm, by rw [downs_length]⟩
      unfold encS at hy
      have e1 : ((m : Int) - 1 - k).toNat = m - 1 - k := by omega
      have e2 : ((m - 1 - k : Nat) : Int) = (m : Int) - 1 - k := by omega
      rw [e2] at hy
      clear e2
      have hds := Lib.hid (downs_succ m k)
      replace hR := Lib.hid hR
      replace hKr := Lib.hid hKr
      replace hJr := Lib.hid hJr
      generalize (f (m - 1 - k)).nd.1 = q1 at *
      generalize (f (m - 1 - k)).A = q2 at *
      generalize (f (m - 1 - k)).nd.2.length = q3 at *
      generalize (f (m - 1 - k)).c = q4 at *
      generalize ((f (m - 1 - k)).pl : Int) = q5 at *
      generalize (f (m - 1 - k)).inst = q6 at *
      gi_wp2
      refine (round_wide hR.out).mono ?_
      rintro e w5 ⟨q5', hk5, ⟨rfl, J5⟩ | ⟨rfl, J5⟩⟩
      · have hK5 := Lib.hid (hKr.out.trans hk5)
        clear hk5
        gi_wp2
        go_roundw
        case rel => exact ⟨k + 1, q5', by omega, by go_num, by rw [hds.out]; exact J5, hK5.out⟩
        case measure => simp [intOf]; omega
      · gi_wp2
        refine bodyPost_ret (results_none rfl _ _ _) rfl ?_
        exact ⟨⟨_, rfl⟩, .inr ⟨_, _, J5⟩⟩
    · obtain rfl : k = m := by omega
      gi_wp2
      go_end0
      exact ⟨⟨_, rfl⟩, .inl ⟨_, _, rfl, hJr⟩⟩

set_option maxHeartbeats 1000000 in
theorem backwardS_any (a : Option Addr) (len cap : Nat) (w : World) :
    Calls Tryz.prog 45 #[.slice a len cap] w fun e w' => e = .returned (.func (.func 67) #[] #[.pointer (some ⟨w.heap.size, 0, none⟩)]) ∧ w' = w.alloc (.cells #[.slice a len cap] 65) := by
  go_enter Tryz.func45, Tryz.ntmps45
  go_wp2_with fail
  go_ret
  exact ⟨rfl, rfl⟩
end Go.Proofs.YtogieepfimpdmaaGreat

/-
  One more in a row of the call's own, and where the row lies then. Conditions: those that each lemma states.
-/
namespace Go.Proofs.YtogieepfimpdmaaGreat
open Go.RowKit

section
variable {α : Type} {R : Rel α} {size : Nat} {t : TypeId} {lo : Nat} {w w' : World} {A : Option Addr} {c : Nat} {xs : List α}
/-- A step that turns no cells leaves the row. -/
theorem RowOf.own (hR : Stab R) (h : RowOf R size t lo w A c xs) {row : Option Nat} (hg : w.grownBy w' row) (hr : ∀ r, row = some r → ∃ o : Obj, w.heap[r]? = some o ∧ o.isCells = false) : RowOf R size t lo w' A c xs := by
  obtain ⟨cs, h1, h2⟩ := h
  refine ⟨cs, h1.kept hg ?_, fun i x hi => ?_⟩
  · rcases h1.2 with ⟨e, _⟩ | ⟨g, cap', cur, e, hb, hgb, _⟩
    · exact .inl (by rw [e]; rfl)
    · refine .inr fun e' => ?_
      rw [e] at e'
      obtain ⟨o, ho, hc⟩ := hr g e'.symm
      rw [hgb] at ho
      cases ho
      cases hc
  · obtain ⟨vs, e1, e2, e3⟩ := h2 i x hi
    exact ⟨vs, e1, e2, hR _ _ _ _ _ _ (fun p v hp hc => ⟨⟨⟨hp.1.1, Nat.lt_of_lt_of_le hp.1.2.1 hg.size, (frozen_kept hc hg hr).trans hp.1.2.2⟩, hp.2⟩, cell_kept hc hg hr⟩) e3⟩
end
end Go.Proofs.YtogieepfimpdmaaGreat

/-
  Package find: held. Conditions: those that each lemma states.
-/
namespace Go.Proofs.YtogieepfimpdmaaGreat
open Go.RowKit

set_option maxRecDepth 100000 in
set_option maxHeartbeats 4000000 in
theorem held_any (v u : Value) (s : Rm) (hm : mayR s = true) (n : Nd) (hn : mayN n = true) (w : World) (h : Sto (Old w) w v s) (hu : Nod (Old w) w u n) :
    Calls Tryz.prog 59 #[v, u] w fun e w' => e = .returned (.bool (leafO s n.2)) ∧ Below w.heap.size w w' := by
  have hrf := Lib.hid (refs_may hn)
  have hls := Lib.hid (mayT_len (mayR_of hm).2.1)
  obtain ⟨A, ca, B, cb, N, cn, L, cl, rfl, _⟩ := id h.open
  obtain ⟨I, ci, rfl, -, -, -, hI⟩ := id hu.open
  obtain ⟨lw, hlw⟩ : ∃ q, n.1 = q := ⟨_, rfl⟩
  obtain ⟨l, hl⟩ : ∃ q, n.2 = q := ⟨_, rfl⟩
  obtain ⟨m, hlm⟩ : ∃ q, l.length = q := ⟨_, rfl⟩
  rw [hl] at hrf
  rw [hl, hlm] at hI
  rw [hl, hlw, hlm]
  have hm5 : m ≤ 5 := by
    have := (mayN_of hn).1.2.2.1
    rw [hl, hlm] at this
    exact this
  obtain ⟨ad, ld, rfl, rfl, -, -, -, -, had, -, hc⟩ := tables_at hm h.parts.2.1 h.parts.2.2
  have HG0 : Bag w [OldIs (.slice I m ci) l, OldR (.agg #[.slice A s.1.1.length ca, .slice B s.1.2.length cb, .slice (some ad) s.2.1.length cn, .slice (some ld) s.2.2.length cl]) s] := ((Bag.nil w).add (F := OldR _ s) h (lasts_oldR _ _)).add (F := OldIs _ l) hI (lasts_oldIs _ _)
  obtain ⟨w0, hw0, hg0, hB0, _, hs0⟩ := bag_four HG0 (Below.refl _ _) (.slice A s.1.1.length ca) (.slice B s.1.2.length cb) (.slice (some ad) s.2.1.length cn) (.slice (some ld) s.2.2.length cl) 29
  obtain ⟨w1, hw1, hg1, hB1, _, hs1⟩ := bag_node hg0 (Below.refl _ _) (.int .i64 lw) (.slice I m ci)
  have HG := Lib.hid hg1
  have BB := Lib.hid (hB0.trans (hB1.mono hB0.size))
  have cS : Hid (∀ j, j < 256 → ∀ W, Below w1.heap.size w1 W → W.cell? (ad.add j) = some (.int .u8 ((s.2.1[j]?.getD 0).toNat : Int))) := Lib.hid fun j hj W hW =>
    ((BB.out.trans (hW.mono BB.out.size)).cell (by rw [add_block]; exact had)).trans (hc j hj).1
  obtain ⟨y0, y1, _⟩ := hg1.at 0 rfl
  replace hs1 := Lib.hid hs1
  replace hs0 := Lib.hid hs0
  replace hlw := Lib.hid hlw
  replace hl := Lib.hid hl
  replace hlm := Lib.hid hlm
  clear HG0 hg1 hg0 h hu hB1 hB0 hc hI
  go_enter Tryz.func59, Tryz.ntmps59
  go_upto_region 1 with fail
  clear hw1 hw0
  go_wp2_with fail
  clear y0 y1
  go_loopw [10] (fun vi wr => ∃ k : Nat, k ≤ m ∧ vi = .int .i64 k ∧ leafO s (l.take k) = true ∧ Below w1.heap.size w1 wr) (fun vi _ => m - (intOf vi).toNat)
  case atStart => exact ⟨0, by omega, rfl, rfl, Below.refl _ _⟩
  case round =>
    obtain ⟨k, hk, rfl, hE, hbr⟩ := hrel
    have HR := Lib.hid (HG.out.below hbr)
    have BR := Lib.hid (BB.out.trans (hbr.mono BB.out.size))
    by_cases hlt : k < m
    case neg =>
      have hf : Hid (leafO s l = true) := Lib.hid (by rw [← hE, List.take_of_length_le (by rw [hlm.out]; omega)])
      clear hE hbr
      go_wp2_with fail
      go_ret
      exact ⟨ret_bool hf.out.symm, BR.out⟩
    obtain ⟨x, hx⟩ : ∃ x, l[k]? = some x := ⟨_, List.getElem?_eq_getElem (by rw [hlm.out]; exact hlt)⟩
    have hxr := hrf.out x (List.mem_of_getElem? hx)
    have hIt : rIts (Old wr) wr [.slice I m ci] l := HR.out.at 2 rfl
    obtain ⟨a5, E5, ce5, rfl, _, _, _, FX⟩ := its_old hIt hx
    obtain ⟨⟨z0, z1, z2, z3, z4⟩, _⟩ := FX wr (Below.refl _ _)
    obtain ⟨w2, hw2, r0, r1, r2, r3, r4, hs2, hB2, _⟩ := box_five wr (.int .u8 (x.1.1.toNat : Int)) (.int .u32 x.1.2.1) (.int .u32 x.1.2.2) (.int .i64 x.2.1) (.slice E5 x.2.2.length ce5) 40
    have B2 := Lib.hid (hbr.trans (hB2.mono hbr.size))
    have H2 := Lib.hid (HR.out.below hB2)
    have BF := Lib.hid (BB.out.trans (B2.out.mono BB.out.size))
    replace hs2 := Lib.hid hs2
    clear FX hIt hB2
    go_upto_region 4 with fail
    clear hw2 z0 z1 z2 z3 z4
    obtain ⟨k0, k1, k2, k3, _⟩ := H2.out.at 1 rfl
    rw [hls.out] at k2
    have i4 : (0 : Int) ≤ (k : Int) := by omega
    have i5 : (k : Int) < (m : Int) := by omega
    obtain ⟨z, hzz⟩ : ∃ z, x.2.1 = z := ⟨_, rfl⟩
    rw [hzz] at r3 hxr
    by_cases hz0 : z = 0
    · subst hz0
      have hst : Hid (leafO s (l.take (k + 1)) = true) := Lib.hid (by rw [leaf_none hx hzz, hE])
      replace hx := Lib.hid hx
      replace hzz := Lib.hid hzz
      clear hE hxr
      replace hbr := Lib.hid hbr
      go_wp2_with fail
      go_roundw
      case rel => exact ⟨k + 1, by omega, by go_num, hst.out, B2.out⟩
      case measure => simp [intOf]; omega
    · obtain ⟨r, hr, r8, r256⟩ : ∃ r : Nat, z = r ∧ 8 ≤ r ∧ r < 256 := ⟨z.toNat, by omega, by omega, by omega⟩
      subst hr
      have hcell := cS.out r r256 w2 B2.out
      obtain ⟨y, hy⟩ : ∃ y, s.2.1[r]?.getD 0 = y := ⟨_, rfl⟩
      have hst := leaf_ref hx hzz (by omega) hy
      rw [hE, Bool.true_and] at hst
      rw [hy] at hcell
      have j0 : (0 : Int) ≤ (r : Int) := by omega
      have j1 : r < 256 := r256
      have j2 : ¬ r = 0 := by omega
      replace hbr := Lib.hid hbr
      replace hzz := Lib.hid hzz
      replace hy := Lib.hid hy
      clear hE hxr hz0
      by_cases hy0 : y = 0
      · have t0 := byte_same (y := 0) (q := 0) rfl hy0
        have hf : Hid (leafO s l = false) := Lib.hid (leaf_bad (i := k + 1) (by rw [hst]; simp [hy0]))
        replace hx := Lib.hid hx
        clear hst hy0
        go_wp2_with fail
        go_ret
        exact ⟨ret_bool hf.out.symm, BF.out⟩
      · have t0 := byte_unlike (y := 0) (q := 0) rfl hy0
        replace hst : Hid (leafO s (l.take (k + 1)) = true) := Lib.hid (by rw [hst]; simpa using hy0)
        replace hx := Lib.hid hx
        clear hy0
        go_wp2_with fail
        go_roundw
        case rel => exact ⟨k + 1, by omega, by go_num, hst.out, B2.out⟩
        case measure => simp [intOf]; omega
end Go.Proofs.YtogieepfimpdmaaGreat
