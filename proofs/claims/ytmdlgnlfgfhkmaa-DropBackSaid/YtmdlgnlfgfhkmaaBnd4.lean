/-
  Lemmas on the program and on the document's answers, gathered: NdRefSam, NdRefRead, RmRefN, CntSide, CntRead, CntRef, DrLess, NdGreat, Spoil05, NdBag, DrLeft, CntChunk, CntWrite, CntRefW, StoZero, RmRefT, DrLeave, DrMake, DrRefer, DrRefs, DrRefs2, DrLower, DrGo, DrGo2, RmAlive, RmLaw, DrMk, DrLaw, NdRefSame. Conditions: those that each lemma states.
-/
import Derived.Test.YtmdlgnlfgfhkmaaBnd3
import Derived.WalkLawsBesides
import Derived.Sort.QuietIn
import Derived.Sort.CutIn
/-
  The document's answers of layer 6: same (bytes with noughts behind); what a block tells, plain. Conditions: those that each lemma states.
-/
namespace Go.Proofs.Ytmdlgnlfgfhkmaa
open Go.RowKit

def samAt (b t : List UInt8) (i : Nat) : Bool := if i < t.length then b[i]?.getD 0 == t[i]?.getD 0 else b[i]?.getD 0 == 0
def samB (b t : List UInt8) : Bool := (List.range b.length).all (samAt b t) && decide (t.length ≤ b.length)
theorem samB_no {b t : List UInt8} {k : Nat} (hk : k < b.length) (h : samAt b t k = false) : samB b t = false := by
  cases e : samB b t with
  | false => rfl
  | true =>
    simp only [samB, Bool.and_eq_true, List.all_eq_true] at e
    have := e.1 k (by simpa using hk)
    rw [h] at this
    cases this
theorem samB_end {b t : List UInt8} (h : ∀ k, k < b.length → samAt b t k = true) : samB b t = decide (t.length ≤ b.length) := by
  have : (List.range b.length).all (samAt b t) = true := by
    rw [List.all_eq_true]
    exact fun x hx => h x (by simpa using hx)
  rw [samB, this, Bool.true_and]
theorem samB_of {b t : List UInt8} (h : samB b t = true) : ∃ r, noughtsB r = true ∧ b = t ++ r := by
  simp only [samB, Bool.and_eq_true, List.all_eq_true, decide_eq_true_eq] at h
  obtain ⟨h1, h2⟩ := h
  have h3 : ∀ i, i < b.length → samAt b t i = true := fun i hi => h1 i (by simpa using hi)
  refine ⟨b.drop t.length, ?_, ?_⟩
  · unfold noughtsB
    rw [List.all_eq_true]
    intro x hx
    obtain ⟨j, hj⟩ := List.mem_iff_getElem?.1 hx
    rw [List.getElem?_drop] at hj
    have := h3 (t.length + j) (List.getElem?_eq_some_iff.1 hj).1
    unfold samAt at this
    rw [if_neg (by omega), hj] at this
    simpa using this
  · apply List.ext_getElem?
    intro i
    rcases Nat.lt_or_ge i t.length with hi | hi
    · rw [List.getElem?_append_left hi]
      have := h3 i (by omega)
      unfold samAt at this
      rw [if_pos hi, List.getElem?_eq_getElem hi, List.getElem?_eq_getElem (show i < b.length by omega)] at this
      rw [List.getElem?_eq_getElem hi, List.getElem?_eq_getElem (show i < b.length by omega)]
      simpa using this
    · rw [List.getElem?_append_right hi, List.getElem?_drop]
      congr 1
      omega
theorem samB_mk {t r : List UInt8} (h : noughtsB r = true) : samB (t ++ r) t = true := by
  have h2 : ∀ i, samAt (t ++ r) t i = true := fun i => by
    unfold samAt
    split
    · rename_i hi
      rw [List.getElem?_append_left hi]
      simp
    · rename_i hi
      rw [List.getElem?_append_right (by omega), noughts_zeros h]
      unfold zeros
      rw [List.getElem?_replicate]
      split <;> simp
  rw [samB_end fun i _ => h2 i]
  simp

/-! ### What the document's reading takes for a node -/
def capN (bd : List UInt8) : Nat := min (manyN bd) 6
def ndR (bd : List UInt8) : Nd := (lvlN bd, cutL (bd.drop 3) (capN bd))
def rdR (bd : List UInt8) : Bool := (cutTo (bd.drop 3) (capN bd)).isSome && (mayN (ndR bd) && samB bd (toldN (ndR bd)))
theorem rdR_eq {bd : List UInt8} (h124 : bd.length = 124) : rdR bd = rdN bd ∧ (rdR bd = true → ndR bd = ndN bd) := by
  by_cases hm : manyN bd ≤ 6
  · have hc : capN bd = manyN bd := by unfold capN; omega
    have hnd : ndR bd = ndN bd := by unfold ndR ndN; rw [hc]
    refine ⟨?_, fun _ => hnd⟩
    unfold rdR rdN
    rw [hnd, hc]
    cases hct : cutTo (bd.drop 3) (manyN bd) with
    | none => simp
    | some p =>
      obtain ⟨l, r⟩ := p
      have hL : cutL (bd.drop 3) (manyN bd) = l := by simp [cutL, hct]
      have hR : cutR (bd.drop 3) (manyN bd) = r := by simp [cutR, hct]
      obtain ⟨c1, c2, _⟩ := cutTo_bytes hct
      rw [hR]
      have hT : toldN (ndN bd) = [78, bd[1]?.getD 0, bd[2]?.getD 0] ++ itsB l := by
        rw [ndN, hL, told_parts, c2]
        have e1 : UInt8.ofNat (lvlN bd).toNat = bd[1]?.getD 0 := by simp [lvlN]
        have e2 : UInt8.ofNat (manyN bd) = bd[2]?.getD 0 := by simp [manyN]
        show [78, UInt8.ofNat (lvlN bd).toNat, UInt8.ofNat (manyN bd)] ++ itsB l = _
        rw [e1, e2]
      have hsplit : bd = [bd[0]?.getD 0, bd[1]?.getD 0, bd[2]?.getD 0] ++ bd.drop 3 := by
        match bd, h124 with
        | x :: y :: z :: q, _ => simp
      have key : samB bd (toldN (ndN bd)) = (decide (bd[0]?.getD 0 = 78) && noughtsB r) := by
        rw [Bool.eq_iff_iff, Bool.and_eq_true, decide_eq_true_iff]
        constructor
        · intro h
          obtain ⟨r', hr', e⟩ := samB_of h
          rw [hT] at e
          have h0 : bd[0]?.getD 0 = 78 := by rw [e]; rfl
          refine ⟨h0, ?_⟩
          have h1 : bd.drop 3 = itsB l ++ r' := by rw [e]; rfl
          rw [c1] at h1
          have := List.append_cancel_left h1
          rw [this]
          exact hr'
        · rintro ⟨h0, hr⟩
          have e : bd = toldN (ndN bd) ++ r := by
            rw [hT, List.append_assoc, ← c1, ← h0]
            exact hsplit
          have := samB_mk (t := toldN (ndN bd)) hr
          rwa [← e] at this
      rw [key]
      cases decide (bd[0]?.getD 0 = 78) <;> cases noughtsB r <;> cases mayN (ndN bd) <;> rfl
  · have hc : capN bd = 6 := by unfold capN; omega
    have h1 : rdR bd = false := by
      unfold rdR
      rw [hc]
      cases hct : cutTo (bd.drop 3) 6 with
      | none => rfl
      | some p =>
        obtain ⟨l, r⟩ := p
        have hL : cutL (bd.drop 3) 6 = l := by simp [cutL, hct]
        obtain ⟨_, c2, _⟩ := cutTo_bytes hct
        have : mayN (ndR bd) = false := mayN_shape (fun hh => by
          have := hh.2.2.1
          rw [ndR, hc, hL] at this
          simp only at this
          omega)
        rw [this]
        rfl
    have h2 : rdN bd = false := by
      unfold rdN
      cases hct : cutTo (bd.drop 3) (manyN bd) with
      | none => simp
      | some p =>
        obtain ⟨l, r⟩ := p
        have hL : cutL (bd.drop 3) (manyN bd) = l := by simp [cutL, hct]
        obtain ⟨_, c2, _⟩ := cutTo_bytes hct
        have : mayN (ndN bd) = false := mayN_shape (fun hh => by
          have := hh.2.2.1
          rw [ndN, hL] at this
          simp only at this
          omega)
        rw [this]
        simp
    exact ⟨by rw [h1, h2], fun h => by rw [h1] at h; cases h⟩
end Go.Proofs.Ytmdlgnlfgfhkmaa

/-
  The document's answers of layer 6: Read. Conditions: those that each lemma states.
-/
namespace Go.Proofs.Ytmdlgnlfgfhkmaa
open Go.RowKit

theorem reN_ref {b : List UInt8} (h : oe b = 0) : reN b = (if rdR (ob b) then 0 else 8) ∧ reV b = (if rdR (ob b) then ndR (ob b) else zeroN) := by
  obtain ⟨_, _, _, h124⟩ := oe_zeroN h
  obtain ⟨e1, e2⟩ := rdR_eq h124
  cases e : rdR (ob b) with
  | true => exact ⟨(reN_good h (by rw [← e1, e])).1, by rw [(reN_good h (by rw [← e1, e])).2, ← e2 e]; rfl⟩
  | false => exact ⟨(reN_bad h (by rw [← e1, e])).1, (reN_bad h (by rw [← e1, e])).2⟩

end Go.Proofs.Ytmdlgnlfgfhkmaa

/-
  The document's answers of layer 8: Read, Node. Conditions: those that each lemma states.
-/
namespace Go.Proofs.Ytmdlgnlfgfhkmaa
open Go.RowKit

theorem reV_zero {b : List UInt8} (h : reN b ≠ 0) : reV b = zeroN := by
  unfold reN at h
  unfold reV
  by_cases h0 : oe b = 0
  · rw [if_pos h0] at h ⊢
    by_cases h1 : rdN (ob b) = true
    · rw [if_pos h1] at h; exact absurd rfl h
    · rw [if_neg h1]
  · rw [if_neg h0]
theorem reN_ways {b : List UInt8} (hb : b.length = 128) : reN b = 0 ∨ reN b = 8 := by
  unfold reN
  by_cases h0 : oe b = 0
  · rw [if_pos h0]
    by_cases h1 : rdN (ob b) = true
    · rw [if_pos h1]; exact .inl rfl
    · rw [if_neg h1]; exact .inr rfl
  · rw [if_neg h0]
    unfold oe at h0 ⊢
    rw [if_pos hb] at h0 ⊢
    split
    · rename_i h; rw [if_pos h] at h0; exact absurd rfl h0
    · exact .inr rfl
theorem seen_128 {d : Dk} {k : Nat} (hm : mayB d = true) (hk : k < 256) : (seenD d k).length = 128 := by
  obtain ⟨h1, _, h3, h4⟩ := may_of hm
  unfold seenD
  have e : d.1[k]? = some (d.1[k]'(by omega)) := List.getElem?_eq_getElem _
  refine seenW_length (h3 k _ (by rw [e]; rfl)) fun x hx => ?_
  obtain ⟨i, hi⟩ := List.getElem?_of_mem hx
  exact (h4 i x hi).2.2
end Go.Proofs.Ytmdlgnlfgfhkmaa

/-
  Package count: sides, and what is written on them, plain; checkSide, firstOf. Conditions: those that each lemma states.
-/
namespace Go.Proofs.Ytmdlgnlfgfhkmaa
open Go.RowKit

def sideB (s : Int) : Bool := decide (s = 0) || decide (s = 1)
def csE (d : Dk) (s : Int) : Int := if mayB d then (if sideB s then 0 else 2) else 8
/-- What Write tells, and leaves. -/
def cwE (d : Dk) (s : Int) (t : List UInt8) : Int := if mayB d then (if sideB s then (if mayT t then (if wErr d (4 + 2 * s) (t.take 128) = 0 then wErr (wrR d (4 + 2 * s) (t.take 128)) (5 + 2 * s) (t.drop 128) else wErr d (4 + 2 * s) (t.take 128)) else 8) else 2) else 8
def cwR (d : Dk) (s : Int) (t : List UInt8) : Dk := if cwE d s t = 0 then wrR (wrR d (4 + 2 * s) (t.take 128)) (5 + 2 * s) (t.drop 128) else emptyD
/-- What Read tells. -/
def sdV (d : Dk) (s : Int) : List UInt8 := seenD d (4 + 2 * s).toNat ++ seenD d (5 + 2 * s).toNat
def crE (d : Dk) (s : Int) : Int := if mayB d then (if sideB s then (if mayT (sdV d s) then 0 else 8) else 2) else 8
def crV (d : Dk) (s : Int) : List UInt8 := if crE d s = 0 then sdV d s else []
theorem side_ways {s : Int} (h : sideB s = true) : s = 0 ∨ s = 1 := by simpa [sideB] using h
theorem side_no {s : Int} (h : sideB s = false) : s ≠ 0 ∧ s ≠ 1 := by simpa [sideB] using h

end Go.Proofs.Ytmdlgnlfgfhkmaa

/-
  Package count: Read. Conditions: those that each lemma states.
-/
namespace Go.Proofs.Ytmdlgnlfgfhkmaa
open Go.RowKit

/-- The bytes of the first k blocks of a side. -/
def sdK (d : Dk) (s : Int) (k : Nat) : List UInt8 := match k with
  | 0 => []
  | 1 => seenD d (4 + 2 * s).toNat
  | _ => sdV d s
theorem sdK_len {d : Dk} {s : Int} (hm : mayB d = true) (hs : s = 0 ∨ s = 1) {k : Nat} (hk : k ≤ 2) : (sdK d s k).length = 128 * k := by
  have h1 : (seenD d (4 + 2 * s).toNat).length = 128 := seenD_length hm (by rcases hs with rfl | rfl <;> decide)
  have h2 : (seenD d (5 + 2 * s).toNat).length = 128 := seenD_length hm (by rcases hs with rfl | rfl <;> decide)
  rcases k with _ | _ | _ | k
  · rfl
  · simpa [sdK] using h1
  · simp [sdK, sdV, h1, h2]
  · omega
theorem sdK_succ {d : Dk} {s : Int} (_ : s = 0 ∨ s = 1) {k : Nat} (hk : k < 2) : sdK d s (k + 1) = sdK d s k ++ seenD d (4 + 2 * s + k).toNat := by
  rcases k with _ | _ | k
  · simp [sdK]
  · have : (4 + 2 * s + ((0 + 1 : Nat) : Int)) = 5 + 2 * s := by omega
    rw [this]
    rfl
  · omega
/-- 'append(v, ys...)': v a row of bytes of the call's own. -/
theorem app_rows (v : Value) (n : Nat) (xs : List UInt8) (u : Value) (ys : List UInt8) (base : Nat) (w : World) (hv : w.ownsRow base 5 1 v n (u8s xs)) (hy : rBy (Old w) w [u] ys) (hs : n + ys.length ≤ 1000000000) (hb : base ≤ w.heap.size) :
    ∃ v' w', (Builtin.append_ #[27, 27] 27 #[v, u]).run Try.prog w = .ok v' w' ∧ w'.ownsRow base 5 1 v' (n + ys.length) (u8s (xs ++ ys)) ∧ Below base w w' := by
  obtain ⟨i0, hi, hz0, hz1, hz2⟩ := info_parts u8_info0
  obtain ⟨A, cap, rfl, _, _, hby⟩ := rBy_byt (B := w.heap.size) (fun p hp => hp) hy
  exact app_byt (P := Try.prog) (w := w) base 27 27 5 i0 Try.underlying27 hi hz0 hz1 hz2 v n xs hv w.heap.size A ys.length cap ys hby rfl hs hb

end Go.Proofs.Ytmdlgnlfgfhkmaa

/-
  The document's answers of layer 7: Up, Down, Sum. Conditions: those that each lemma states.
-/
namespace Go.Proofs.Ytmdlgnlfgfhkmaa
open Go.RowKit

end Go.Proofs.Ytmdlgnlfgfhkmaa

/-
  The document's answers of layer 9: less, asked, left. Conditions: those that each lemma states.
-/
namespace Go.Proofs.Ytmdlgnlfgfhkmaa
open Go.RowKit

end Go.Proofs.Ytmdlgnlfgfhkmaa

/-
  The document's answers of layer 6: Great. Conditions: those that each lemma states.
-/
namespace Go.Proofs.Ytmdlgnlfgfhkmaa
open Go.RowKit

def cap5 (n : Nat) : Int := if (100000 : Int) < n then 100000 else n
theorem cap5_nonneg (n : Nat) : 0 ≤ cap5 n ∧ cap5 n ≤ 100000 := by unfold cap5; split <;> omega
def sumI : List It → Int
  | [] => 0
  | x :: r => cap5 x.2.2.length + sumI r
theorem sumI_snoc (xs : List It) (x : It) : sumI (xs ++ [x]) = sumI xs + cap5 x.2.2.length := by
  induction xs with
  | nil => simp [sumI]
  | cons y r ih => simp only [List.cons_append, sumI, ih]; omega
theorem sumI_le (xs : List It) : 0 ≤ sumI xs ∧ sumI xs ≤ 100000 * xs.length := by
  induction xs with
  | nil => simp [sumI]
  | cons y r ih => have := cap5_nonneg y.2.2.length; simp only [sumI, List.length_cons]; omega
theorem sumI_mem {xs : List It} {x : It} (h : x ∈ xs) : cap5 x.2.2.length ≤ sumI xs := by
  induction xs with
  | nil => cases h
  | cons y r ih =>
    have := cap5_nonneg y.2.2.length
    have := (sumI_le r).1
    simp only [sumI]
    rcases List.mem_cons.1 h with rfl | h
    · omega
    · have := ih h; omega
def greatI (l : List It) : Bool := decide (1000 < l.length) || decide (50000 < sumI (l.take 2000))
/-- Items that are not great are few and small. -/
structure Few (l : List It) : Prop where
  many : l.length ≤ 1000
  val : ∀ (k : Nat) (x : It), l[k]? = some x → x.2.2.length ≤ 100000
theorem few_of {l : List It} (h : greatI l = false) : Few l := by
  simp only [greatI, Bool.or_eq_false_iff, decide_eq_false_iff_not] at h
  obtain ⟨h1, h2⟩ := h
  rw [List.take_of_length_le (by omega)] at h2
  refine ⟨by omega, fun k x hk => ?_⟩
  have := sumI_mem (List.mem_of_getElem? hk)
  unfold cap5 at this
  split at this <;> omega

set_option maxRecDepth 100000 in
set_option maxHeartbeats 2000000 in
theorem greatI_any (v : Value) (l : List It) (w : World) (h : rIts (Old w) w [v] l) : Calls Try.prog 15 #[v] w fun e w' => e = .returned (.bool (greatI l)) ∧ Below w.heap.size w w' := by
  obtain ⟨A, c, rfl, l1, m1⟩ := its_open h
  have HA := Lib.hid h
  clear h
  have hg : greatI l = (decide (1000 < l.length) || decide (50000 < sumI (l.take 2000))) := rfl
  generalize greatI l = res at hg ⊢
  obtain ⟨n, hn⟩ : ∃ n, l.length = n := ⟨_, rfl⟩
  rw [hn] at l1 HA hg ⊢
  replace hn := Lib.hid hn
  replace hg := Lib.hid hg
  go_enter Try.func15, Try.ntmps15
  go_wp2_with fail
  go_loop [3, 4] (fun s i => ∃ k : Nat, k ≤ n ∧ k ≤ 2000 ∧ i = .int .i64 k ∧ s = .int .i64 (sumI (l.take k))) (fun _ i => n - (intOf i).toNat)
  case atStart => exact ⟨0, by omega, by omega, rfl, rfl⟩
  case round =>
    obtain ⟨k, hk, hk2, rfl, rfl⟩ := hrel
    have b1 := sumI_le (l.take k)
    have b2 : (l.take k).length ≤ k := List.length_take_le _ _
    by_cases hlt : k < n ∧ k < 2000
    · obtain ⟨hlt1, hlt2⟩ := hlt
      obtain ⟨x, hx⟩ : ∃ x, l[k]? = some x := ⟨_, List.getElem?_eq_getElem (by rw [hn.out]; exact hlt1)⟩
      obtain ⟨ad, E, ce, rfl, _, _, _, FX⟩ := its_old HA.out hx
      obtain ⟨⟨z0, z1, z2, z3, z4⟩, _⟩ := FX w (Below.refl _ _)
      have hsn := Lib.hid (show sumI (l.take (k + 1)) = sumI (l.take k) + cap5 x.2.2.length by rw [List.take_add_one, hx]; exact sumI_snoc _ _)
      have b3 := cap5_nonneg x.2.2.length
      replace hx := Lib.hid hx
      clear FX
      have hl2 : (k : Int) < 2000 := by omega
      have hl1 : (k : Int) < n := by omega
      generalize sumI (l.take k) = s at *
      generalize (l.take k).length = q at *
      go_wp2_with fail
      go_round
      case rel => exact ⟨k + 1, by omega, by omega, by go_num, by rw [hsn.out]; rfl⟩
      case measure => simp [intOf]; omega
    · have hs1 : Hid (l.take k = l.take 2000) := Lib.hid (by
        have := hn.out
        rcases (by omega : n ≤ k ∨ k = 2000) with h | h
        · rw [List.take_of_length_le (by omega), List.take_of_length_le (by omega)]
        · rw [h])
      rw [hs1.out] at b1 b2 ⊢
      obtain ⟨s, hs⟩ : ∃ s, sumI (l.take 2000) = s := ⟨_, rfl⟩
      replace hg := hg.out
      rw [hs] at hg b1 ⊢
      replace hg := Lib.hid hg
      have b1' : s ≤ 200000000 := by omega
      clear b2 hs
      by_cases h9 : k < n
      · have h10 : ¬ (k : Int) < 2000 := by omega
        by_cases h11 : 1000 < n
        · have h12 : (1000 : Int) < n := by omega
          have hfin := Lib.hid (show res = true by rw [hg.out]; simp [h11])
          go_wp2_with fail
          go_ret
          exact ⟨ret_bool hfin.out.symm, Below.refl _ _⟩
        · omega
      · by_cases h11 : 1000 < n
        · have h12 : (1000 : Int) < n := by omega
          have hfin := Lib.hid (show res = true by rw [hg.out]; simp [h11])
          go_wp2_with fail
          go_ret
          exact ⟨ret_bool hfin.out.symm, Below.refl _ _⟩
        · have h12 : ¬ (1000 : Int) < n := by omega
          have hfin := Lib.hid (show decide (50000 < s) = res by rw [hg.out]; simp [h11])
          go_wp2_with fail
          go_ret
          exact ⟨ret_bool hfin.out, Below.refl _ _⟩
end Go.Proofs.Ytmdlgnlfgfhkmaa

/-
  Bytes of the call's own that are turned where they lie; what lies elsewhere stays. Facts on items whose cells lie in a range that does not move. Conditions: those that each lemma states.
-/
namespace Go.Proofs.Ytmdlgnlfgfhkmaa
open Go.RowKit

structure Turnt (lo hi : Nat) (w wr : World) : Prop where
  sp : Spoilt lo w wr
  keep : ∀ k, hi ≤ k → wr.heap[k]? = w.heap[k]?
theorem Turnt.refl (lo hi : Nat) (w : World) : Turnt lo hi w w := ⟨Spoilt.refl _ _, fun _ _ => rfl⟩
theorem Turnt.step {lo hi : Nat} {w wr : World} (h : Turnt lo hi w wr) {p : Addr} (hp : lo ≤ p.block) (hp' : p.block < hi) {x : UInt8} (hx : wr.cell? p = some (.int .u8 (x.toNat : Int))) (y : UInt8) : Turnt lo hi w (wr.setCell p (.int .u8 (y.toNat : Int))) :=
  ⟨h.sp.step hp hx y, fun k hk => (Below.heap_setCell wr p _ k (by omega)).trans (h.keep k hk)⟩
theorem Turnt.drew {lo hi : Nat} {w wr : World} (h : Turnt lo hi w wr) : Turnt lo hi w wr.drew := ⟨h.sp.drew, h.keep⟩
theorem Turnt.block {lo hi : Nat} {w wr : World} (h : Turnt lo hi w wr) {k : Nat} (hk : k < lo ∨ hi ≤ k) : wr.heap[k]? = w.heap[k]? := by
  rcases hk with hk | hk
  · exact h.sp.low.block k hk
  · exact h.keep k hk
theorem Turnt.cell {lo hi : Nat} {w wr : World} (h : Turnt lo hi w wr) {p : Addr} (hk : p.block < lo ∨ hi ≤ p.block) : wr.cell? p = w.cell? p := World.cell?_of_block (h.block hk)
theorem Turnt.by_out {lo hi : Nat} {w wr : World} {ok : Addr → Prop} {v : Value} {xs : List UInt8} (h : Turnt lo hi w wr) (hok : ∀ p, ok p → p.block < lo ∨ hi ≤ p.block) (hx : rBy ok w [v] xs) : rBy ok wr [v] xs :=
  stab_by _ _ _ _ _ _ (fun p _ hp hc => ⟨hp, (h.cell (hok p hp)).trans hc⟩) hx
theorem Turnt.itm_out {lo hi : Nat} {w wr : World} {ok : Addr → Prop} {v : Value} {s : It} (h : Turnt lo hi w wr) (hok : ∀ p, ok p → p.block < lo ∨ hi ≤ p.block) (hx : Itm ok w v s) : Itm ok wr v s :=
  hx.map fun p _ hp hc => ⟨hp, (h.cell (hok p hp)).trans hc⟩
theorem Turnt.box5 {lo hi g : Nat} {w wr : World} {a b c d e : Value} (h : Turnt lo hi w wr) (hg : g < lo ∨ hi ≤ g) (hb : Box5 g a b c d e w) : Box5 g a b c d e wr :=
  ⟨(h.cell (p := ⟨g, 0, none⟩) hg).trans hb.1, (h.cell (p := ⟨g, 1, none⟩) hg).trans hb.2.1, (h.cell (p := ⟨g, 2, none⟩) hg).trans hb.2.2.1, (h.cell (p := ⟨g, 3, none⟩) hg).trans hb.2.2.2.1, (h.cell (p := ⟨g, 4, none⟩) hg).trans hb.2.2.2.2.1, Nat.lt_of_lt_of_le hb.2.2.2.2.2 h.sp.low.size⟩

/-- Facts whose cells lie in a range that does not move. -/
def OnI (ok : Addr → Prop) (v : Value) (s : It) : World → Prop := fun w => Itm ok w v s
theorem lasts_onI (ok : Addr → Prop) (v : Value) (s : It) : Lasts (OnI ok v s) := fun w _ h hb => Itm.map (fun p _ hp hc => ⟨hp, (hb.cell (World.block_lt_of_cell? w p hc)).trans hc⟩) h
def OnB (ok : Addr → Prop) (v : Value) (xs : List UInt8) : World → Prop := fun w => rBy ok w [v] xs
theorem lasts_onB (ok : Addr → Prop) (v : Value) (xs : List UInt8) : Lasts (OnB ok v xs) := fun w _ h hb => stab_by _ _ _ _ _ _ (fun p _ hp hc => ⟨hp, (hb.cell (World.block_lt_of_cell? w p hc)).trans hc⟩) h
theorem OnI.old {ok : Addr → Prop} {v : Value} {s : It} {w : World} (h : OnI ok v s w) : Itm (Old w) w v s := Itm.map (fun p _ _ hc => ⟨World.block_lt_of_cell? w p hc, hc⟩) h
theorem OnB.old {ok : Addr → Prop} {v : Value} {xs : List UInt8} {w : World} (h : OnB ok v xs w) : rBy (Old w) w [v] xs := stab_by _ _ _ _ _ _ (fun p _ _ hc => ⟨World.block_lt_of_cell? w p hc, hc⟩) h
/-- Where the bytes of an item of the call's own lie. -/
def In (lo hi : Nat) : Addr → Prop := fun p => lo ≤ p.block ∧ p.block < hi
theorem on_new {lo : Nat} {w : World} {v : Value} {s : It} (h : Itm (New lo w) w v s) : OnI (In lo w.heap.size) v s w := h.map fun _ _ hp hc => ⟨⟨hp.1, hp.2.1⟩, hc⟩
theorem on_old {w : World} {v : Value} {s : It} (h : Itm (Old w) w v s) : OnI (In 0 w.heap.size) v s w := h.map fun _ _ hp hc => ⟨⟨Nat.zero_le _, hp⟩, hc⟩
theorem onB_old {w : World} {v : Value} {xs : List UInt8} (h : rBy (Old w) w [v] xs) : OnB (In 0 w.heap.size) v xs w := stab_by _ _ _ _ _ _ (fun _ _ hp hc => ⟨⟨Nat.zero_le _, hp⟩, hc⟩) h
/-- An item of the call's own whose bytes lie in a range that does not move. -/
def Fz (lo hi : Nat) (w : World) : Addr → Prop := fun p => lo ≤ p.block ∧ p.block < hi ∧ w.frozen? p = false
def NewIn (lo hi : Nat) (v : Value) (s : It) : World → Prop := fun w => Itm (Fz lo hi w) w v s ∧ hi ≤ w.heap.size
theorem lasts_newIn (lo hi : Nat) (v : Value) (s : It) : Lasts (NewIn lo hi v s) := fun _ _ h hb => ⟨h.1.map fun _ _ hp hc => ⟨⟨hp.1, hp.2.1, (hb.frozen (Nat.lt_of_lt_of_le hp.2.1 h.2)).trans hp.2.2⟩, (hb.cell (Nat.lt_of_lt_of_le hp.2.1 h.2)).trans hc⟩, Nat.le_trans h.2 hb.size⟩
theorem newIn_of {lo : Nat} {w : World} {v : Value} {s : It} (h : Itm (New lo w) w v s) : NewIn lo w.heap.size v s w := ⟨h, Nat.le_refl _⟩
theorem Turnt.newIn_out {lo hi lo' hi' : Nat} {w wr : World} {v : Value} {s : It} (h : Turnt lo hi w wr) (hk : hi' ≤ lo ∨ hi ≤ lo') (hx : NewIn lo' hi' v s w) : NewIn lo' hi' v s wr :=
  ⟨hx.1.map fun p _ hp hc => by
    have hb := h.block (k := p.block) (by have h1 := hp.1; have h2 := hp.2.1; omega)
    exact ⟨⟨hp.1, hp.2.1, (World.frozen?_of_block hb).trans hp.2.2⟩, (World.cell?_of_block hb).trans hc⟩, Nat.le_trans hx.2 h.sp.low.size⟩
/-- A byte of an item of the call's own, somewhat later in a loop that turns them. -/
theorem turn_at {lo hi : Nat} {w wr : World} {s : It} {A : Option Addr} {n c k : Nat} (h1 : NewIn lo hi (itV s (.slice A n c)) s w) (h : Turnt lo hi w wr) (hk : k < s.2.2.length) :
    ∃ (ad : Addr) (y : UInt8), A = some ad ∧ wr.cell? (ad.add k) = some (.int .u8 (y.toNat : Int)) ∧ wr.frozen? (ad.add k) = false ∧ Turnt lo hi w (wr.setCell (ad.add k) (.int .u8 ((y + 1).toNat : Int))) := by
  obtain ⟨⟨d, e, _, r1⟩, hs⟩ := h1
  have ed : d = .slice A n c := by injection e with e; simpa using e.symm
  subst ed
  obtain ⟨_, _, e3, _, _, o1⟩ := rBy_open r1
  cases e3
  obtain ⟨ad, rfl, hn, hc⟩ := o1 k hk
  have hlt : (ad.add k).block < w.heap.size := Nat.lt_of_lt_of_le hn.2.1 hs
  obtain ⟨y, hy⟩ := h.sp.byte (ad.add k) _ hlt hc
  exact ⟨ad, y, rfl, hy, (h.sp.fro _ hlt).trans hn.2.2, h.step hn.1 hn.2.1 hy (y + 1)⟩
end Go.Proofs.Ytmdlgnlfgfhkmaa

/-
  A bag's facts on nodes; what places tell, plain. Conditions: those that each lemma states.
-/
namespace Go.Proofs.Ytmdlgnlfgfhkmaa
open Go.RowKit

theorem bag_node {w w1 : World} {Fs : List (World → Prop)} (h : Bag w Fs) (hb : Below w.heap.size w w1) (a b : Value) : ∃ w', w1.alloc (.cells #[a, b] 41) = w' ∧ Bag w' (Box2 w1.heap.size a b :: Fs) ∧ Below w.heap.size w w' ∧ Below w1.heap.size w1 w' ∧ w1.heap.size < w'.heap.size := by
  obtain ⟨w2, e2, b2, k4, k5⟩ := box_pair' w1 a b 41
  obtain ⟨k1, k2, _, k3⟩ := two_cells b2
  exact ⟨w2, e2, ((h.below hb).below k5).add ⟨k1, k2, k3⟩ (lasts_box _ _ _), hb.trans (k5.mono hb.size), k5, by omega⟩
def OldN (v : Value) (n : Nd) : World → Prop := fun w => Nod (Old w) w v n
theorem lasts_oldN (v : Value) (n : Nd) : Lasts (OldN v n) := fun _ _ h hb => h.below hb
def OldIs (v : Value) (l : List It) : World → Prop := fun w => rIts (Old w) w [v] l
theorem lasts_oldIs (v : Value) (l : List It) : Lasts (OldIs v l) := fun _ _ h hb => stab_its.old h hb

/-! ### Places -/
theorem cntK_all {l : List It} {k : Ky} : ∀ {i : Nat}, i ≤ l.length → (∀ j x, j < i → l[j]? = some x → lessK x.1 k = true) → cntK (l.take i) k = i
  | 0, _, _ => rfl
  | i + 1, hi, h => by
    have hx : l[i]? = some l[i] := List.getElem?_eq_getElem hi
    rw [cntK_yes hx (h i _ (by omega) hx), cntK_all (by omega) (fun j x hj => h j x (by omega))]
theorem cntK_up (l : List It) (k : Ky) (i : Nat) : cntK (l.take i) k ≤ cntK l k := by
  unfold cntK
  exact ((List.take_sublist i l).filter _).length_le
theorem cntK_stop {l : List It} {k : Ky} {i : Nat} (h : ∀ j x, i ≤ j → l[j]? = some x → lessK x.1 k = false) : cntK l k = cntK (l.take i) k := by
  have e : cntK l k = cntK (l.take i) k + cntK (l.drop i) k := by
    unfold cntK
    rw [← List.length_append, ← List.filter_append, List.take_append_drop]
  have z : cntK (l.drop i) k = 0 := by
    unfold cntK
    rw [List.length_eq_zero_iff, List.filter_eq_nil_iff]
    intro x hx
    obtain ⟨j, hj⟩ := List.mem_iff_getElem?.1 hx
    rw [List.getElem?_drop] at hj
    rw [h (i + j) x (by omega) hj]
    simp
  omega
theorem place_parts {n : Nd} (h : mayN n = true) {k : Ky} {i : Nat} {x : It} (hx : n.2[i]? = some x) : lessK x.1 k = decide (i < placeN n k) := by
  have hi := (List.getElem?_eq_some_iff.1 hx).1
  cases e : lessK x.1 k with
  | true =>
    have h1 : cntK (n.2.take (i + 1)) k = i + 1 := cntK_all (by omega) (fun j y hj hy => by
      rcases Nat.lt_or_ge j i with h2 | h2
      · exact less_trans (mayN_rises h h2 hy hx) e
      · obtain rfl : j = i := by omega
        rw [hx] at hy
        cases hy
        exact e)
    have h2 := cntK_up n.2 k (i + 1)
    have h3 : placeN n k = cntK n.2 k := rfl
    have : i < placeN n k := by omega
    simp [this]
  | false =>
    have h1 : cntK n.2 k = cntK (n.2.take i) k := cntK_stop (fun j y hj hy => by
      rcases Nat.lt_or_ge i j with h2 | h2
      · cases e2 : lessK y.1 k with
        | false => rfl
        | true =>
          have := less_trans (mayN_rises h h2 hx hy) e2
          rw [e] at this
          cases this
      · obtain rfl : i = j := by omega
        rw [hx] at hy
        cases hy
        exact e)
    have h2 := cntK_take n.2 k i
    have h3 : placeN n k = cntK n.2 k := rfl
    have : ¬ i < placeN n k := by omega
    simp [this]
theorem placeN_le (n : Nd) (k : Ky) : placeN n k ≤ n.2.length := cntK_le _ _
theorem place_own {n : Nd} (h : mayN n = true) {i : Nat} {x : It} (hx : n.2[i]? = some x) : placeN n x.1 = i ∧ thereN n x.1 = true := by
  have hi := (List.getElem?_eq_some_iff.1 hx).1
  have h1 : ¬ i < placeN n x.1 := fun h2 => by
    have := place_parts h (k := x.1) hx
    rw [less_self] at this
    simp [h2] at this
  have h2 : placeN n x.1 = i := by
    rcases Nat.eq_zero_or_pos i with h0 | h0
    · omega
    · obtain ⟨j, rfl⟩ : ∃ j, i = j + 1 := ⟨i - 1, by omega⟩
      have hy : n.2[j]? = some n.2[j] := List.getElem?_eq_getElem (by omega)
      have h3 := place_parts h (k := x.1) hy
      rw [mayN_rise h hy hx] at h3
      have : j < placeN n x.1 := by simpa using h3.symm
      omega
  exact ⟨h2, by rw [thereN_at (by rw [h2]; exact hx)]; simp⟩
def anyK (l : List It) (k : Ky) : Bool := l.any fun x => decide (x.1 = k)
theorem anyK_nil (k : Ky) : anyK [] k = false := rfl
theorem anyK_snoc {l : List It} {k : Ky} {i : Nat} {x : It} (hx : l[i]? = some x) : anyK (l.take (i + 1)) k = (anyK (l.take i) k || decide (x.1 = k)) := by
  unfold anyK
  rw [List.take_add_one, hx, Option.toList_some, List.any_append]
  simp
theorem thereN_any {n : Nd} (h : mayN n = true) (k : Ky) : thereN n k = anyK n.2 k := by
  cases e : anyK n.2 k with
  | true =>
    unfold anyK at e
    rw [List.any_eq_true] at e
    obtain ⟨x, hx, hk⟩ := e
    obtain ⟨i, hi⟩ := List.mem_iff_getElem?.1 hx
    have hk' : x.1 = k := by simpa using hk
    rw [← hk']
    exact (place_own h hi).2
  | false =>
    cases e2 : thereN n k with
    | false => rfl
    | true =>
      unfold thereN at e2
      cases e3 : n.2[placeN n k]? with
      | none => rw [e3] at e2; cases e2
      | some x =>
        rw [e3] at e2
        unfold anyK at e
        rw [List.any_eq_false] at e
        exact absurd e2 (by simpa using e x (List.mem_of_getElem? e3))
theorem place_mono {n : Nd} {a b : Ky} (h : lessK a b = true) : placeN n a ≤ placeN n b := by
  show cntK n.2 a ≤ cntK n.2 b
  unfold cntK
  induction n.2 with
  | nil => simp
  | cons x r ih =>
    simp only [List.filter_cons]
    cases e : lessK x.1 a with
    | true => rw [less_trans e h]; simpa using ih
    | false =>
      cases e2 : lessK x.1 b with
      | true => simp; omega
      | false => simpa using ih
end Go.Proofs.Ytmdlgnlfgfhkmaa

/-
  The document's answers of layer 9: what is left, level by level. Conditions: those that each lemma states.
-/
namespace Go.Proofs.Ytmdlgnlfgfhkmaa
open Go.RowKit

theorem each_none {f : List UInt8 → Nat → Option (List UInt8)} {t : List UInt8} {l : List It} {k : Nat} (h : eachO f t (l.take k) = none) : eachO f t l = none := by
  rw [← List.take_append_drop k l, each_app, h]
  rfl
theorem each_step {f : List UInt8 → Nat → Option (List UInt8)} {t u : List UInt8} {l : List It} {k : Nat} {x : It} (h : eachO f t (l.take k) = some u) (hx : l[k]? = some x) : eachO f t (l.take (k + 1)) = if x.2.1 = 0 then some u else f u x.2.1.toNat := by
  have hk := (List.getElem?_eq_some_iff.1 hx).1
  have hg : l[k] = x := (List.getElem?_eq_some_iff.1 hx).2
  rw [← List.take_append_getElem hk, each_app, h, hg]
  show eachO f u [x] = _
  simp only [eachO]
  split
  · rfl
  · cases f u x.2.1.toNat <;> rfl

end Go.Proofs.Ytmdlgnlfgfhkmaa

/-
  slices.Chunk at a slice of 256 bytes, in parts of 128. Conditions: those that each lemma states.
-/
namespace Go.Proofs.Ytmdlgnlfgfhkmaa
open Go.RowKit Go.Shelf
attribute [local go_sem] Oper.semAt_some

/-- What a round keeps: all that lay below block n₀, and the two boxes from Bs on. -/
def Keeps2 (n₀ Bs : Nat) (A B : World) : Prop := Below n₀ A B ∧ B.cell? ⟨Bs, 0, none⟩ = A.cell? ⟨Bs, 0, none⟩ ∧ B.cell? ⟨Bs + 1, 0, none⟩ = A.cell? ⟨Bs + 1, 0, none⟩
theorem Keeps2.trans {n₀ Bs : Nat} {A B C : World} (h : Keeps2 n₀ Bs A B) (h' : Keeps2 n₀ Bs B C) : Keeps2 n₀ Bs A C := ⟨h.1.trans h'.1, h'.2.1.trans h.2.1, h'.2.2.trans h.2.2⟩
theorem Keeps2.refl (n₀ Bs : Nat) (A : World) : Keeps2 n₀ Bs A A := ⟨Below.refl _ _, rfl, rfl⟩
theorem Keeps2.below {n₀ Bs : Nat} {A B : World} (h : Below n₀ A B) (hB : Bs + 1 < n₀) : Keeps2 n₀ Bs A B := ⟨h, h.cell (p := ⟨Bs, 0, none⟩) (by show Bs < n₀; omega), h.cell (p := ⟨Bs + 1, 0, none⟩) hB⟩
theorem keeps2_b {W w : World} {Bs n₀ : Nat} (hBs : Bs + 1 < w.heap.size) (hn₀ : n₀ ≤ w.heap.size) (l : Nat) (o o' : Obj) (hl : w.heap.size ≤ l) (h1 : W.heap[l]? = some o) (h2 : o.isCells = false) (h3 : o.isWalk = false) : Keeps2 n₀ Bs W (W.putObj l o') :=
  ⟨belowK_b hn₀ W l o o' hl h1 h2 h3, World.cell?_of_block (World.putObj_heap_other (k := Bs) (by omega)), World.cell?_of_block (World.putObj_heap_other (k := Bs + 1) (by omega))⟩
theorem grown_drawn (w : World) (n : Nat) (row : Option Nat) : w.grownBy (w.drewN n) row := ⟨rfl, rfl, rfl, Nat.le_refl _, fun _ _ _ => rfl⟩

end Go.Proofs.Ytmdlgnlfgfhkmaa

/-
  Package count: Write, which ranges over slices.Chunk. Conditions: those that each lemma states.
-/
namespace Go.Proofs.Ytmdlgnlfgfhkmaa
open Go.RowKit Go.Shelf
attribute [local go_sem] Oper.semAt_some

theorem rBy_piece {ok : Addr → Prop} {w : World} {ad : Addr} {n c : Nat} {b : List UInt8} (h : rBy ok w [.slice (some ad) n c] b) (k m cap : Nat) (hk : k + m ≤ b.length) (hm : m ≤ cap) (hc : cap ≤ 9223372036854775807) : rBy ok w [.slice (some (ad.add k)) m cap] ((b.drop k).take m) := by
  obtain ⟨A, c', e, _, _, h4⟩ := h
  cases e
  have hl : ((b.drop k).take m).length = m := by simp; omega
  refine ⟨some (ad.add k), cap, by rw [hl], by rw [hl]; exact hm, hc, fun i x hi => ?_⟩
  have him : i < m := by rw [← hl]; exact (List.getElem?_eq_some_iff.1 hi).1
  have hi' : b[k + i]? = some x := by
    rw [List.getElem?_take_of_lt him, List.getElem?_drop] at hi
    exact hi
  obtain ⟨ad', vs, e1, e2, e3, e4⟩ := h4 (k + i) x hi'
  cases e1
  refine ⟨ad.add k, vs, rfl, e2, fun j v hj => ?_, e4⟩
  have := e3 j v hj
  rw [add_add', show k + (i * 1 + j) = (k + i) * 1 + j by omega]
  exact this

/-! ### The two writes, plain -/
def halfT (t : List UInt8) (b : Bool) : List UInt8 := if b then t.drop 128 else t.take 128
/-- The disk, the next place, and the first error, behind some halves. -/
def stepW (t : List UInt8) (s : Dk × Int × Int) (b : Bool) : Dk × Int × Int := (wrR s.1 s.2.1 (halfT t b), s.2.1 + 1, if s.2.2 = 0 then wErr s.1 s.2.1 (halfT t b) else s.2.2)
def runW (d : Dk) (p : Int) (t : List UInt8) (l : List Bool) : Dk × Int × Int := l.foldl (stepW t) (d, p, 0)
theorem runW_snoc (d : Dk) (p : Int) (t : List UInt8) (l : List Bool) (b : Bool) : runW d p t (l ++ [b]) = stepW t (runW d p t l) b := by simp [runW, List.foldl_append]
theorem foldW_place (t : List UInt8) : ∀ (l : List Bool) (s : Dk × Int × Int), (l.foldl (stepW t) s).2.1 = s.2.1 + (l.length : Int)
  | [], s => by simp
  | b :: l, s => by
    rw [List.foldl_cons, foldW_place t l]
    simp only [stepW, List.length_cons]
    omega
theorem runW_place (d : Dk) (p : Int) (t : List UInt8) (l : List Bool) : (runW d p t l).2.1 = p + (l.length : Int) := foldW_place t l _
theorem runW_stuck {d : Dk} {p : Int} {t : List UInt8} {l : List Bool} {b : Bool} (h : (runW d p t l).2.2 ≠ 0) : (runW d p t (l ++ [b])).2.2 = (runW d p t l).2.2 := by rw [runW_snoc]; simp [stepW, h]
theorem put_one {W : World} {g : Nat} {a u : Value} {t : TypeId} (h : W.heap[g]? = some (.cells #[a] t (0, 0))) : ∃ W1, W.setCell ⟨g, 0, none⟩ u = W1 ∧ W1.heap[g]? = some (.cells #[u] t (0, 0)) ∧ W.grownBy W1 (some g) ∧ W1.heap.size = W.heap.size :=
  ⟨_, rfl, by simp [World.setCell, Array.getElem?_modify, h], grow_put (p := ⟨g, 0, none⟩) (grow_refl W (some g)) rfl u, by simp⟩
theorem one_cell {W : World} {g : Nat} {a : Value} {t : TypeId} (h : W.heap[g]? = some (.cells #[a] t (0, 0))) : W.cell? ⟨g, 0, none⟩ = some a ∧ W.frozen? ⟨g, 0, none⟩ = false ∧ g < W.heap.size :=
  ⟨by simp [World.cell?, h], by simp [World.frozen?, h], (Array.getElem?_eq_some_iff.1 h).1⟩
theorem keepsFrom_below {B : Nat} {W W' : World} (h : Below W.heap.size W W') : KeepsFrom B W W' := ⟨h.size, fun k _ _ hk _ => (h.block k (Array.getElem?_eq_some_iff.1 hk).1).trans hk⟩
theorem keepsFrom_put {B : Nat} {W W' : World} {g : Nat} {cs : Array Value} {t : TypeId} (hg : W.grownBy W' (some g)) (h : W.heap[g]? = some (.cells cs t (0, 0))) : KeepsFrom B W W' :=
  ⟨hg.size, fun k o _ hk ho => (hg.block k (Array.getElem?_eq_some_iff.1 hk).1 (fun e => by
    simp only [Option.some.injEq] at e
    subst e
    rw [h] at hk
    cases hk
    cases ho)).trans hk⟩
theorem block_kept {W W' : World} {row : Option Nat} {g : Nat} {cs : Array Value} {t : TypeId} (h : W.heap[g]? = some (.cells cs t (0, 0))) (hg : W.grownBy W' row) (hrow : ∀ r, row = some r → ∃ o : Obj, W.heap[r]? = some o ∧ o.isCells = false) : W'.heap[g]? = some (.cells cs t (0, 0)) :=
  (grownBy_keeps_cells hg hrow h rfl).trans h
theorem dsk_kept_old {W W' : World} {row : Option Nat} {v : Value} {d : Dk} (h : Dsk (Old W) W v d) (hg : W.grownBy W' row) (hrow : ∀ r, row = some r → ∃ o : Obj, W.heap[r]? = some o ∧ o.isCells = false) : Dsk (Old W') W' v d :=
  h.map fun _ _ hp hc => ⟨Nat.lt_of_lt_of_le hp hg.size, cell_kept hc hg hrow⟩
theorem dsk_kept_new {W W' : World} {row : Option Nat} {v : Value} {d : Dk} {lo : Nat} (h : Dsk (New lo W) W v d) (hg : W.grownBy W' row) (hrow : ∀ r, row = some r → ∃ o : Obj, W.heap[r]? = some o ∧ o.isCells = false) : Dsk (New lo W') W' v d :=
  h.map fun _ _ hp hc => ⟨⟨hp.1, Nat.lt_of_lt_of_le hp.2.1 hg.size, (frozen_kept hc hg hrow).trans hp.2.2⟩, cell_kept hc hg hrow⟩

/-- Three boxes that are made one behind the other. -/
theorem box_dde (w : World) (a b : Value) : ∃ w3, ((w.alloc (.cells #[a, b] 26)).alloc (.cells #[.slice none 0 0, .slice none 0 0] 26)).alloc (.cells #[.int .i64 0] 30) = w3 ∧ w3.heap[w.heap.size]? = some (.cells #[a, b] 26 (0, 0)) ∧
    w3.heap[w.heap.size + 1]? = some (.cells #[.slice none 0 0, .slice none 0 0] 26 (0, 0)) ∧ w3.heap[w.heap.size + 2]? = some (.cells #[.int .i64 0] 30 (0, 0)) ∧ w3.heap.size = w.heap.size + 3 ∧ Below w.heap.size w w3 := by
  refine ⟨_, rfl, alloc_block (alloc_block (heap_alloc_new _ _)), alloc_block ?_, ?_, by simp, ((((Below.refl _ w).alloc (Nat.le_refl _) _).alloc (by simp) _).alloc (by simp; omega) _)⟩
  · have := heap_alloc_new (w.alloc (.cells #[a, b] 26)) (.cells #[.slice none 0 0, .slice none 0 0] 26)
    rwa [World.size_alloc] at this
  · have := heap_alloc_new ((w.alloc (.cells #[a, b] 26)).alloc (.cells #[.slice none 0 0, .slice none 0 0] 26)) (.cells #[.int .i64 0] 30)
    rwa [World.size_alloc, World.size_alloc] at this

/-- What stands between two rounds. -/
def BtW (w : World) (d : Dk) (p : Int) (t : List UInt8) (g : Nat) (pre : List Bool) (W : World) : Prop :=
  (∃ A c B e, (runW d p t pre).2.2 = 0 ∧ Bx W w.heap.size A c B e (runW d p t pre).1 ∧ (pre ≠ [] → Dsk (New (g + 3) W) W (.agg #[.slice A (runW d p t pre).1.1.length c, .slice B (runW d p t pre).1.2.length e]) (runW d p t pre).1) ∧
    W.heap[g]? = some (.cells #[.int .i64 (p + (pre.length : Int))] 3 (0, 0)) ∧ W.heap[w.heap.size + 1]? = some (.cells #[.slice none 0 0, .slice none 0 0] 26 (0, 0)) ∧ W.heap[w.heap.size + 2]? = some (.cells #[.int .i64 0] 30 (0, 0)) ∧ g + 3 ≤ W.heap.size) ∧ Below w.heap.size w W
/-- What stands where a write was refused. -/
def EndW (w : World) (d : Dk) (p : Int) (t : List UInt8) (cd : Code) (pre : List Bool) (W : World) : Prop :=
  (cd = .ret ∧ (runW d p t pre).2.2 ≠ 0 ∧ W.heap[w.heap.size + 1]? = some (.cells #[.slice none 0 0, .slice none 0 0] 26 (0, 0)) ∧ W.heap[w.heap.size + 2]? = some (.cells #[.int .i64 (runW d p t pre).2.2] 30 (0, 0))) ∧ Below w.heap.size w W
theorem ownFrom_bt (w : World) (d : Dk) (p : Int) (t : List UInt8) (g B : Nat) (hB : w.heap.size ≤ B) : OwnFrom B (BtW w d p t g) :=
  OwnFrom.and (Own.from (fun s A B row hs hg hr => by
    obtain ⟨a, c, b, e, h0, h1, h2, h3, h4, h5, h6⟩ := hs
    exact ⟨a, c, b, e, h0, ⟨block_kept h1.1 hg hr, dsk_kept_old h1.2 hg hr⟩, fun hn => dsk_kept_new (h2 hn) hg hr, block_kept h3 hg hr, block_kept h4 hg hr, block_kept h5 hg hr, Nat.le_trans h6 hg.size⟩) _) (ownFrom_below (Nat.le_refl _) hB)
theorem ownFrom_end (w : World) (d : Dk) (p : Int) (t : List UInt8) (cd : Code) (B : Nat) (hB : w.heap.size ≤ B) : OwnFrom B (EndW w d p t cd) :=
  OwnFrom.and (Own.from (fun _ _ _ _ hs hg hr => ⟨hs.1, hs.2.1, block_kept hs.2.2.1 hg hr, block_kept hs.2.2.2 hg hr⟩) _) (ownFrom_below (Nat.le_refl _) hB)

theorem cw_run {d : Dk} {s : Int} {t : List UInt8} (hm : mayB d = true) (hs : sideB s = true) (ht : mayT t = true) : (runW d (4 + 2 * s) t [false, true]).2.2 = cwE d s t ∧ (runW d (4 + 2 * s) t [false, true]).1 = wrR (wrR d (4 + 2 * s) (t.take 128)) (5 + 2 * s) (t.drop 128) := by
  have e1 : 4 + 2 * s + 1 = 5 + 2 * s := by omega
  simp only [runW, List.foldl_cons, List.foldl_nil, stepW, halfT, cwE, hm, hs, ht, if_true, e1]
  simp

end Go.Proofs.Ytmdlgnlfgfhkmaa

/-
  The document's answers of layer 7: Write. Conditions: those that each lemma states.
-/
namespace Go.Proofs.Ytmdlgnlfgfhkmaa
open Go.RowKit

/-- Cells that hold no empty slice. -/
def NZ (ok : Addr → Prop) (w : World) : Addr → Prop := fun p => ok p ∧ w.cell? p ≠ some (.slice none 0 0)
theorem by_nz {ok : Addr → Prop} {w : World} {cs : List Value} {x : List UInt8} (h : rBy ok w cs x) : rBy (NZ ok w) w cs x := by
  obtain ⟨A, cap, h1, h2, h3, h4⟩ := h
  refine ⟨A, cap, h1, h2, h3, fun i y hi => ?_⟩
  obtain ⟨ad, vs, e1, e2, e3, e4⟩ := h4 i y hi
  refine ⟨ad, vs, e1, e2, fun j u hj => ⟨⟨(e3 j u hj).1, ?_⟩, (e3 j u hj).2⟩, e4⟩
  unfold rU8 at e4
  subst e4
  have := List.mem_of_getElem? hj
  simp only [List.mem_singleton] at this
  rw [(e3 j u hj).2, this]
  simp
theorem slice_nz {ok : Addr → Prop} {w : World} {u : Value} {x : List UInt8} (h : rBy ok w [u] x) (hx : x ≠ []) : u ≠ .slice none 0 0 := by
  obtain ⟨A, c, rfl, _⟩ := rBy_open h
  intro e
  simp only [Value.slice.injEq] at e
  exact hx (List.eq_nil_of_length_eq_zero e.2.1)
theorem rows_nz {ok : Addr → Prop} {w : World} {cs : List Value} {xss : List (List UInt8)} (h : rSl 1 rBy ok w cs xss) (hn : ∀ x ∈ xss, x ≠ []) : rSl 1 rBy (NZ ok w) w cs xss := by
  obtain ⟨A, cap, h1, h2, h3, h4⟩ := h
  refine ⟨A, cap, h1, h2, h3, fun i y hi => ?_⟩
  obtain ⟨ad, vs, e1, e2, e3, e4⟩ := h4 i y hi
  refine ⟨ad, vs, e1, e2, fun j u hj => ⟨⟨(e3 j u hj).1, ?_⟩, (e3 j u hj).2⟩, by_nz e4⟩
  match vs, e2 with
  | [v], _ =>
    have := List.mem_of_getElem? hj
    simp only [List.mem_singleton] at this
    rw [(e3 j u hj).2, this]
    exact fun e => slice_nz e4 (hn y (List.mem_of_getElem? hi)) (by simpa using e)
theorem wts_nz {ok : Addr → Prop} {w : World} {cs : List Value} {ws : List Wt} (h : rSl 2 rWt ok w cs ws) (hn : ∀ x ∈ ws, x.2 ≠ []) : rSl 2 rWt (NZ ok w) w cs ws := by
  obtain ⟨A, cap, h1, h2, h3, h4⟩ := h
  refine ⟨A, cap, h1, h2, h3, fun i y hi => ?_⟩
  obtain ⟨ad, vs, e1, e2, e3, e4⟩ := h4 i y hi
  obtain ⟨v, rfl, b1, b2, hv⟩ := rWt_open e4
  refine ⟨ad, _, e1, e2, fun j u hj => ⟨⟨(e3 j u hj).1, ?_⟩, (e3 j u hj).2⟩, rWt_mk b1 b2 (by_nz hv)⟩
  have := List.mem_of_getElem? hj
  simp only [List.mem_cons, List.not_mem_nil, or_false] at this
  rw [(e3 j u hj).2]
  rcases this with rfl | rfl
  · simp
  · exact fun e => slice_nz hv (hn y (List.mem_of_getElem? hi)) (by simpa using e)
theorem dsk_nz {ok : Addr → Prop} {w : World} {v : Value} {d : Dk} (h : Dsk ok w v d) (h1 : ∀ x ∈ d.1, x ≠ []) (h2 : ∀ x ∈ d.2, x.2 ≠ []) : Dsk (NZ ok w) w v d := by
  obtain ⟨a, b, e, r1, r2⟩ := h
  exact ⟨a, b, e, rows_nz r1 h1, wts_nz r2 h2⟩
theorem full_may {d : Dk} (h : mayB d = true) : (∀ x ∈ d.1, x ≠ []) ∧ (∀ x ∈ d.2, x.2 ≠ []) := by
  obtain ⟨_, _, h1, h2⟩ := may_of h
  refine ⟨fun x hx e => ?_, fun x hx e => ?_⟩
  · obtain ⟨i, hi⟩ := List.getElem?_of_mem hx
    have := h1 i x hi
    rw [e] at this
    cases this
  · obtain ⟨i, hi⟩ := List.getElem?_of_mem hx
    have := (h2 i x hi).2.2
    rw [e] at this
    cases this
theorem full_wr (d : Dk) (n : Int) (xs : List UInt8) : (∀ x ∈ (wrR d n xs).1, x ≠ []) ∧ (∀ x ∈ (wrR d n xs).2, x.2 ≠ []) := by
  by_cases he : wErr d n xs = 0
  · exact full_may (may_wrR he).1
  · rw [show wrR d n xs = emptyD by simp [wrR, he]]
    exact ⟨fun x hx => absurd hx (by simp [emptyD]), fun x hx => absurd hx (by simp [emptyD])⟩
/-- A store into a box that holds two empty slices turns nothing of a disk that holds none. -/
theorem dsk_put_zero {W W9 : World} {g : Nat} {t : TypeId} {v : Value} {d : Dk} (h : Dsk (Old W) W v d) (hd : (∀ x ∈ d.1, x ≠ []) ∧ (∀ x ∈ d.2, x.2 ≠ [])) (hz : W.heap[g]? = some (.cells #[.slice none 0 0, .slice none 0 0] t (0, 0))) (hg : W.grownBy W9 (some g)) : Dsk (Old W9) W9 v d :=
  (dsk_nz h hd.1 hd.2).map fun p u hp hc => by
    have hn : p.block ≠ g := fun e => by
      refine hp.2 ?_
      rw [hc]
      unfold World.cell? at hc
      rw [e, hz] at hc
      dsimp only at hc
      split at hc
      · cases hc
      · rcases hk : p.off with _ | _ | k
        · rw [hk] at hc; exact hc.symm
        · rw [hk] at hc; exact hc.symm
        · rw [hk] at hc; simp at hc
    exact ⟨Nat.lt_of_lt_of_le hp.1 hg.size, (World.cell?_of_block (hg.block _ hp.1 (by simpa using hn))).trans hc⟩
theorem dsk_apart {w0 w w' : World} {v : Value} {d : Dk} (h : Dsk (Apart w0 w w') w' v d) (hs : w0.heap.size ≤ w'.heap.size) : Dsk (Old w') w' v d :=
  h.map fun _ _ hp hc => ⟨hp.elim (fun hp => Nat.lt_of_lt_of_le hp hs) (fun hp => hp.2), hc⟩
/-- A store into a block between stays apart. -/
theorem dsk_apart_put {w0 w w' W : World} {v : Value} {d : Dk} (h : Dsk (Apart w0 w w') w' v d) (hs : w0.heap.size < w.heap.size) (hs2 : w0.heap.size ≤ w'.heap.size) (hg : w'.grownBy W (some w0.heap.size)) : Dsk (Old W) W v d :=
  h.map fun p _ hp hc => by
    have hlt : p.block < w'.heap.size := hp.elim (fun hp => Nat.lt_of_lt_of_le hp hs2) (fun hp => hp.2)
    have hn : p.block ≠ w0.heap.size := fun e => by rcases hp with hp | hp <;> omega
    exact ⟨Nat.lt_of_lt_of_le hlt hg.size, (World.cell?_of_block (hg.block _ hlt (by simpa using hn))).trans hc⟩
theorem dsk_empty_any (ok : Addr → Prop) (w : World) : Dsk ok w (.agg #[.slice none 0 0, .slice none 0 0]) emptyD :=
  ⟨_, _, rfl, ⟨none, 0, rfl, by simp [emptyD], by omega, fun i x h => by simp [emptyD] at h⟩, ⟨none, 0, rfl, by simp [emptyD], by omega, fun i x h => by simp [emptyD] at h⟩⟩
end Go.Proofs.Ytmdlgnlfgfhkmaa

/-
  A store into a box of noughts turns nothing of a store that may be. Conditions: those that each lemma states.
-/
namespace Go.Proofs.Ytmdlgnlfgfhkmaa
open Go.RowKit

theorem nz_apart {W : World} {g : Nat} {cs : Array Value} {t : TypeId} {p : Addr} {u : Value} (hz : W.heap[g]? = some (.cells cs t (0, 0))) (hcs : ∀ c ∈ cs, c = .slice none 0 0) (hc : W.cell? p = some u) (hn : W.cell? p ≠ some (.slice none 0 0)) : p.block ≠ g := fun e => by
  refine hn ?_
  rw [hc]
  unfold World.cell? at hc
  rw [e, hz] at hc
  dsimp only at hc
  split at hc
  · cases hc
  · obtain ⟨hlt, hu⟩ := Array.getElem?_eq_some_iff.1 hc
    rw [← hu]
    exact congrArg some (hcs _ (Array.getElem_mem hlt))
theorem sto_nz {ok : Addr → Prop} {w : World} {v : Value} {s : Rm} (h : Sto ok w v s) (hd : (∀ x ∈ s.1.1, x ≠ []) ∧ (∀ x ∈ s.1.2, x.2 ≠ [])) : Sto (NZ ok w) w v s := by
  obtain ⟨a, b, n, l, e, h1, h2, h3⟩ := h
  exact ⟨a, b, n, l, e, dsk_nz h1 hd.1 hd.2, by_nz h2, by_nz h3⟩
def FullR (s : Rm) : Prop := (∀ x ∈ s.1.1, x ≠ []) ∧ (∀ x ∈ s.1.2, x.2 ≠ [])
theorem full_rm {s : Rm} (h : mayR s = true) : FullR s := full_may (mayR_of h).1
theorem full_empty : FullR emptyR := ⟨fun x hx => absurd hx (by simp [emptyR, emptyD]), fun x hx => absurd hx (by simp [emptyR, emptyD])⟩
theorem full_tk (s : Rm) (b : List UInt8) : FullR (tkV s b) := by
  by_cases h : tkE s b = 0
  · exact full_rm (tk_may h)
  · rw [(tk_no h).2]; exact full_empty
theorem full_sh (s : Rm) (n : Int) : FullR (shV s n) := by
  by_cases h : shE s n = 0
  · exact full_rm (sh_may h)
  · rw [sh_no h]; exact full_empty
theorem sto_put_zero {W W9 : World} {g : Nat} {cs : Array Value} {t : TypeId} {v : Value} {s : Rm} (h : Sto (Old W) W v s) (hd : FullR s) (hz : W.heap[g]? = some (.cells cs t (0, 0))) (hcs : ∀ c ∈ cs, c = .slice none 0 0) (hg : W.grownBy W9 (some g)) : Sto (Old W9) W9 v s :=
  (sto_nz h hd).map fun p u hp hc => by
    have hn := nz_apart hz hcs hc hp.2
    exact ⟨Nat.lt_of_lt_of_le hp.1 hg.size, (World.cell?_of_block (hg.block _ hp.1 (by simpa using hn))).trans hc⟩
end Go.Proofs.Ytmdlgnlfgfhkmaa

/-
  The document's answers of layer 8: Taken. Conditions: those that each lemma states.
-/
namespace Go.Proofs.Ytmdlgnlfgfhkmaa
open Go.RowKit

/-- Cells that lie there, but not in block g. -/
def Off (g : Nat) (w : World) : Addr → Prop := fun p => p.block < w.heap.size ∧ p.block ≠ g
theorem off_put {g : Nat} {W W1 : World} {p : Addr} {v : Value} (gr : W.grownBy W1 (some g)) (hp : Off g W p) (hc : W.cell? p = some v) : Off g W1 p ∧ W1.cell? p = some v :=
  ⟨⟨Nat.lt_of_lt_of_le hp.1 gr.size, hp.2⟩, (World.cell?_of_block (gr.block _ hp.1 (by simpa using hp.2))).trans hc⟩
theorem off_below {g : Nat} {W W1 : World} {p : Addr} {v : Value} (hb : Below W.heap.size W W1) (hp : Off g W p) (hc : W.cell? p = some v) : Off g W1 p ∧ W1.cell? p = some v :=
  ⟨⟨Nat.lt_of_lt_of_le hp.1 hb.size, hp.2⟩, (hb.cell hp.1).trans hc⟩
theorem off_low {g : Nat} {w W : World} {p : Addr} {v : Value} (hb : Below w.heap.size w W) (hg : w.heap.size ≤ g) (hp : Old w p) (hc : w.cell? p = some v) : Off g W p ∧ W.cell? p = some v :=
  ⟨⟨Nat.lt_of_lt_of_le hp hb.size, fun e => by have h : p.block < w.heap.size := hp; omega⟩, (hb.cell hp).trans hc⟩
theorem off_new {g lo : Nat} {W : World} {p : Addr} {v : Value} (hg : g < lo) (hp : New lo W p) (hc : W.cell? p = some v) : Off g W p ∧ W.cell? p = some v :=
  ⟨⟨hp.2.1, fun e => by have := hp.1; omega⟩, hc⟩
theorem off_old {g : Nat} {W : World} {p : Addr} {v : Value} (hp : Off g W p) (hc : W.cell? p = some v) : Old W p ∧ W.cell? p = some v := ⟨hp.1, hc⟩
theorem off_apart {g : Nat} {w W W' : World} {p : Addr} {v : Value} (hw : w.heap.size ≤ g) (hg : g < W.heap.size) (hs : W.heap.size ≤ W'.heap.size) (hp : Apart w W W' p) (hc : W'.cell? p = some v) : Off g W' p ∧ W'.cell? p = some v :=
  ⟨hp.elim (fun h => ⟨by omega, by omega⟩) (fun h => ⟨h.2, by omega⟩), hc⟩

def tnN (s : Rm) : Int := if freeL s = [] ∨ 4096 ≤ s.1.2.length then -1 else (tkK s : Int)
def tnV (s : Rm) (b : List UInt8) : Rm := if freeL s = [] ∨ 4096 ≤ s.1.2.length then s else (wrD s.1 (tkK s) b, s.2.1.set (tkK s) 1, s.2.2)

end Go.Proofs.Ytmdlgnlfgfhkmaa

/-
  The document's answers of layer 9: asked, Left, Leave, Loose. Conditions: those that each lemma states.
-/
namespace Go.Proofs.Ytmdlgnlfgfhkmaa
open Go.RowKit

/-- A store behind a node that is left; nothing, if it can't be. -/
noncomputable def lfR (s : Rm) (k : Nat) : Rm := match lfO s.1 s.2.1 k with
  | some t => (s.1, t, s.2.2)
  | none => emptyR
theorem lfR_some {s : Rm} {k : Nat} {t : List UInt8} (h : lfO s.1 s.2.1 k = some t) : lfR s k = (s.1, t, s.2.2) := by rw [lfR, h]
theorem lfR_none {s : Rm} {k : Nat} (h : lfO s.1 s.2.1 k = none) : lfR s k = emptyR := by rw [lfR, h]
theorem full_lf {s : Rm} {k : Nat} (hm : mayR s = true) : FullR (lfR s k) := by
  cases h : lfO s.1 s.2.1 k with
  | none => rw [lfR_none h]; exact full_empty
  | some t => rw [lfR_some h]; exact (full_rm hm : FullR s)
theorem full_lo (s : Rm) (n : Int) : FullR (loV s n) := by
  by_cases h : asE s n = 0
  · obtain ⟨_, _, hm, _⟩ := lo_ok h
    rw [loV, if_pos h]
    exact (full_rm hm : FullR s)
  · rw [loV, if_neg h]; exact full_empty
end Go.Proofs.Ytmdlgnlfgfhkmaa

/-
  The document's answers of layer 9: Counted, Made, Make. Conditions: those that each lemma states.
-/
namespace Go.Proofs.Ytmdlgnlfgfhkmaa
open Go.RowKit

def ctR (s : Rm) (n : Nd) : Rm := if ctE s.2.1 n.2 = 0 then ctS s n else emptyR
theorem ct_split {l : List It} {i : Nat} {x : It} {t : List UInt8} (h : ctE t (l.take i) = 0) (hx : l[i]? = some x) : ctE t l = ctE (ctV t (l.take i)) (x :: l.drop (i + 1)) := by
  have hk := (List.getElem?_eq_some_iff.1 hx).1
  have hg : l[i] = x := (List.getElem?_eq_some_iff.1 hx).2
  have e : l = l.take i ++ x :: l.drop (i + 1) := by rw [← hg, List.getElem_cons_drop, List.take_append_drop]
  have : ctE t l = ctE t (l.take i ++ x :: l.drop (i + 1)) := by rw [← e]
  rw [this, ctE_app, if_pos h]
theorem ct_next {l : List It} {i : Nat} {x : It} {t : List UInt8} (h : ctE t (l.take i) = 0) (hx : l[i]? = some x) : ctE t (l.take (i + 1)) = ctE (ctV t (l.take i)) [x] ∧ ctV t (l.take (i + 1)) = ctV (ctV t (l.take i)) [x] := by
  have hk := (List.getElem?_eq_some_iff.1 hx).1
  have hg : l[i] = x := (List.getElem?_eq_some_iff.1 hx).2
  rw [← List.take_append_getElem hk, ctE_app, ctV_app, if_pos h, hg]
  exact ⟨rfl, rfl⟩
theorem box_three3 {w : World} (a b c d e f : Value) : ∃ w1, ((w.alloc (.cells #[a, b, c, d] 29)).alloc (.cells #[e, f] 41)).alloc (.cells #[.slice none 0 0, .slice none 0 0, .slice none 0 0, .slice none 0 0] 29) = w1 ∧
    w1.heap[w.heap.size]? = some (.cells #[a, b, c, d] 29 (0, 0)) ∧ w1.heap[w.heap.size + 1]? = some (.cells #[e, f] 41 (0, 0)) ∧ w1.heap[w.heap.size + 2]? = some (.cells #[.slice none 0 0, .slice none 0 0, .slice none 0 0, .slice none 0 0] 29 (0, 0)) ∧ w1.heap.size = w.heap.size + 3 ∧ Below w.heap.size w w1 := by
  refine ⟨_, rfl, alloc_block (alloc_block (heap_alloc_new _ _)), alloc_block ?_, ?_, by simp, (((Below.refl _ w).alloc (Nat.le_refl _) _).alloc (by simp) _).alloc (by simp; omega) _⟩
  · have := heap_alloc_new (w.alloc (.cells #[a, b, c, d] 29)) (.cells #[e, f] 41)
    rwa [World.size_alloc] at this
  · have := heap_alloc_new ((w.alloc (.cells #[a, b, c, d] 29)).alloc (.cells #[e, f] 41)) (.cells #[.slice none 0 0, .slice none 0 0, .slice none 0 0, .slice none 0 0] 29)
    rwa [World.size_alloc, World.size_alloc] at this

/-- What Taken tells is what Take tells. -/
theorem tn_ways {s : Rm} {b : List UInt8} (hm : mayR s = true) (hlb : b.length = 128) : FullR (tnV s b) ∧ ((tkE s b = 9 ∧ tnN s = -1) ∨ (tkE s b = 0 ∧ ∃ k : Nat, tnN s = k ∧ tkN s b = k ∧ tkV s b = tnV s b)) := by
  rcases tk_ways s b with ⟨h, _⟩ | ⟨_, h, _⟩ | ⟨_, _, h, e⟩ | ⟨_, _, _, h, e⟩ | ⟨_, _, h, h', e⟩
  · rw [hm] at h; cases h
  · exact absurd hlb h
  · exact ⟨by rw [tnV, if_pos (.inl h)]; exact full_rm hm, .inl ⟨e, by rw [tnN, if_pos (.inl h)]⟩⟩
  · exact ⟨by rw [tnV, if_pos (.inr h)]; exact full_rm hm, .inl ⟨e, by rw [tnN, if_pos (.inr h)]⟩⟩
  · have hno : ¬ (freeL s = [] ∨ 4096 ≤ s.1.2.length) := by
      rintro (h1 | h1)
      · exact h h1
      · omega
    obtain ⟨-, -, -, -, -, -, -, -, hN, hV⟩ := tk_ok e
    have hv : tkV s b = tnV s b := by rw [hV, tnV, if_neg hno]
    exact ⟨by rw [← hv]; exact full_tk s b, .inr ⟨e, tkK s, by rw [tnN, if_neg hno], hN, hv⟩⟩
theorem mk_ways {s : Rm} {n : Nd} (hm : mayR s = true) (hn : mayN n = true) : (ctE s.2.1 n.2 ≠ 0 ∧ mkE s n = ctE s.2.1 n.2 ∧ mkN s n = 0 ∧ mkV s n = emptyR) ∨ (ctE s.2.1 n.2 = 0 ∧ mkE s n = tkE (ctS s n) (blkN n) ∧ mkN s n = tkN (ctS s n) (blkN n) ∧ mkV s n = tkV (ctS s n) (blkN n)) := by
  by_cases hc : ctE s.2.1 n.2 = 0
  · have e : mkE s n = tkE (ctS s n) (blkN n) := by simp [mkE, hm, hn, hc]
    refine .inr ⟨hc, e, ?_, ?_⟩
    · by_cases h : mkE s n = 0
      · rw [mkN, if_pos h]
      · rw [mkN, if_neg h, (tk_no (by rw [← e]; exact h)).1]
    · by_cases h : mkE s n = 0
      · rw [mkV, if_pos h]
      · rw [mkV, if_neg h, (tk_no (by rw [← e]; exact h)).2]
  · have e : mkE s n = ctE s.2.1 n.2 := by simp [mkE, hm, hn, hc]
    have h : mkE s n ≠ 0 := by rw [e]; exact hc
    exact .inl ⟨hc, e, (mk_no h).1, (mk_no h).2⟩

theorem full_mk (s : Rm) (n : Nd) : FullR (mkV s n) := by
  by_cases h : mkE s n = 0
  · obtain ⟨_, _, _, ht, _, hV⟩ := mk_ok h
    rw [hV]
    exact full_tk _ _
  · rw [(mk_no h).2]; exact full_empty
end Go.Proofs.Ytmdlgnlfgfhkmaa

/-
  Package drop: refer, which counts all Refs of a node in a table of the caller's own. Conditions: those that each lemma states.
-/
namespace Go.Proofs.Ytmdlgnlfgfhkmaa
open Go.RowKit

theorem grow_of {a b : World} {row : Option Nat} (h : Below a.heap.size a b) : a.grownBy b row := grow_later (grow_refl a row) h
/-- What lies elsewhere, behind a row's turning. -/
theorem Nod.off {g : Nat} {W W1 : World} {v : Value} {n : Nd} (h : Nod (Off g W) W v n) (gr : W.grownBy W1 (some g)) : Nod (Off g W1) W1 v n := h.map fun _ _ hp hc => off_put gr hp hc

set_option maxRecDepth 100000 in
set_option maxHeartbeats 8000000 in
theorem refer_any (g c lo : Nat) (t0 : List UInt8) (u : Value) (n : Nd) (hn : mayN n = true) (hl0 : t0.length = 256) (w : World) (hown : w.ownsRow lo 5 1 (.slice (some ⟨g, 0, none⟩) 256 c) 256 (u8s t0)) (hu : Nod (Off g w) w u n) :
    Calls Try.prog 24 #[.slice (some ⟨g, 0, none⟩) 256 c, u] w fun e w' => e = .returned (.int .i64 (ctE t0 n.2)) ∧ w.grownBy w' (some g) ∧ (ctE t0 n.2 = 0 → w'.ownsRow lo 5 1 (.slice (some ⟨g, 0, none⟩) 256 c) 256 (u8s (ctV t0 n.2))) := by
  obtain ⟨I, ci, rfl, _, _, _, hI⟩ := hu.open
  obtain ⟨lw, hlw⟩ : ∃ q, n.1 = q := ⟨_, rfl⟩
  obtain ⟨l, hl⟩ : ∃ q, n.2 = q := ⟨_, rfl⟩
  obtain ⟨m, hlm⟩ : ∃ q, l.length = q := ⟨_, rfl⟩
  have hrf := Lib.hid (refs_may hn)
  obtain ⟨⟨_, _, s3, _⟩, _⟩ := mayN_of hn
  rw [hl, hlm] at s3 hI
  rw [hl] at hrf ⊢
  rw [hlw, hlm]
  have hg0 : g < w.heap.size := ((hown.lt g rfl).2)
  obtain ⟨w1, hw1, b1, hs1, hB1⟩ := box_pair' w (.int .i64 lw) (.slice I m ci) 41
  have HI := Lib.hid (stab_its _ _ _ _ _ _ (fun _ _ hp hc => off_below (g := g) hB1 hp hc) hI)
  have HO := Lib.hid (own_below hown hB1)
  have GB := Lib.hid (grow_of (row := some g) hB1)
  obtain ⟨p0, p1, _, pg⟩ := two_cells b1
  have hgs : Hid (g ≠ w.heap.size) := Lib.hid (by omega)
  have b1h := Lib.hid b1
  replace hl0 := Lib.hid hl0
  replace hl := Lib.hid hl
  replace hlw := Lib.hid hlw
  replace hlm := Lib.hid hlm
  replace hs1 := Lib.hid hs1
  clear hown hu hI b1 hB1
  go_enter Try.func24, Try.ntmps24
  go_upto_region 1 with fail
  clear hw1
  go_wp2_with fail
  clear p0 p1
  go_loopw [10] (fun vi wr => ∃ i : Nat, i ≤ m ∧ vi = .int .i64 i ∧ ctE t0 (l.take i) = 0 ∧ wr.ownsRow lo 5 1 (.slice (some ⟨g, 0, none⟩) 256 c) 256 (u8s (ctV t0 (l.take i))) ∧ w1.grownBy wr (some g)) (fun vi _ => m - (intOf vi).toNat)
  case atStart => exact ⟨0, by omega, rfl, rfl, HO.out, grow_refl _ _⟩
  case round =>
    obtain ⟨i, hi, rfl, hE, hown, hgr⟩ := hrel
    have GF := Lib.hid (grow_trans GB.out hgr)
    by_cases hlt : i < m
    case neg =>
      have hlast : Hid (l.take i = l) := Lib.hid (List.take_of_length_le (by rw [hlm.out]; omega))
      have hEl : Hid (ctE t0 l = 0) := Lib.hid (by rw [← hE, hlast.out])
      rw [hlast.out] at hown
      have HO2 := Lib.hid hown
      clear hown hgr hE
      go_wp2_with fail
      go_ret
      exact ⟨ret_int hEl.out.symm, GF.out, fun _ => HO2.out⟩
    obtain ⟨x, hx⟩ : ∃ x, l[i]? = some x := ⟨_, List.getElem?_eq_getElem (by rw [hlm.out]; exact hlt)⟩
    have hsp := Lib.hid (ct_split hE hx)
    have hnx := Lib.hid (ct_next hE hx)
    have hxr := hrf.out x (List.mem_of_getElem? hx)
    have hIr := stab_its _ _ _ _ _ _ (fun _ _ hp hc => off_put (g := g) hgr hp hc) HI.out
    obtain ⟨ad5, E5, ce5, rfl, _, ⟨z0, z1, z2, z3, z4⟩, _⟩ := its_at hIr hx
    clear hIr
    obtain ⟨w5, hw5, y0, y1, y2, y3, y4, hs5, hB5, _⟩ := box_five wr (.int .u8 (x.1.1.toNat : Int)) (.int .u32 x.1.2.1) (.int .u32 x.1.2.2) (.int .i64 x.2.1) (.slice E5 x.2.2.length ce5) 38
    have hown5 := own_below hown hB5
    have hgr5 := Lib.hid (grow_later hgr (hB5.mono hgr.size))
    have GF5 := Lib.hid (grow_trans GB.out hgr5.out)
    replace hs5 := Lib.hid hs5
    have i4 : (0 : Int) ≤ (i : Int) := by omega
    have i5 : (i : Int) < (m : Int) := by omega
    obtain ⟨z, hzz⟩ : ∃ z, x.2.1 = z := ⟨_, rfl⟩
    have hc1 : ∀ T, ctE T (x :: l.drop (i + 1)) = if z = 0 then ctE T (l.drop (i + 1)) else if T[z.toNat]?.getD 0 = 0 then 6 else if T[z.toNat]?.getD 0 = 255 then 70 else ctE (T.set z.toNat (T[z.toNat]?.getD 0 + 1)) (l.drop (i + 1)) := fun T => by rw [← hzz]; rfl
    have hc2 : ∀ T, ctE T [x] = if z = 0 then 0 else if T[z.toNat]?.getD 0 = 0 then 6 else if T[z.toNat]?.getD 0 = 255 then 70 else 0 := fun T => by rw [← hzz]; rfl
    have hc3 : ∀ T, ctV T [x] = if z = 0 then T else T.set z.toNat (T[z.toNat]?.getD 0 + 1) := fun T => by rw [← hzz]; rfl
    rw [hzz] at z3 hxr hw5 y3
    replace hx := Lib.hid hx
    replace hzz := Lib.hid hzz
    obtain ⟨T, hT⟩ : ∃ T, ctV t0 (l.take i) = T := ⟨_, rfl⟩
    have hTl : Hid (T.length = 256) := Lib.hid (by rw [← hT, ctV_len, hl0.out])
    rw [hT] at hown5 hsp hnx
    replace hT := Lib.hid hT
    replace hE := Lib.hid hE
    clear hown hgr hB5
    go_upto_region 4 with fail
    clear hw5 z0 z1 z2 z3 z4
    by_cases hz0 : z = 0
    · have hn1 : Hid (ctE t0 (l.take (i + 1)) = 0 ∧ ctV t0 (l.take (i + 1)) = T) := Lib.hid ⟨by rw [hnx.out.1, hc2, if_pos hz0], by rw [hnx.out.2, hc3, if_pos hz0]⟩
      subst hz0
      have HO := Lib.hid hown5
      clear hc1 hc2 hc3 hxr hown5 hE hsp hnx
      go_wp2_with fail
      go_roundw
      case rel => exact ⟨i + 1, by omega, by go_num, hn1.out.1, by rw [hn1.out.2]; exact HO.out, hgr5.out⟩
      case measure => simp [intOf]; omega
    obtain ⟨r, hr, r8, r256⟩ : ∃ r : Nat, z = r ∧ 8 ≤ r ∧ r < 256 := ⟨z.toNat, by omega, by omega, by omega⟩
    rw [hc1, if_neg hz0, show z.toNat = r by omega] at hsp
    rw [hc2, hc3, if_neg hz0, if_neg hz0, show z.toNat = r by omega] at hnx
    have j3 : (z == 0) = false := by simpa using hz0
    subst hr
    have hcell := own_cell hown5 (j := r) r256
    obtain ⟨y, hy⟩ : ∃ y, T[r]?.getD 0 = y := ⟨_, rfl⟩
    rw [hy] at hsp hnx hcell
    replace hy := Lib.hid hy
    by_cases hy0 : y = 0
    · have t1 := byte_same (y := 0) (q := 0) rfl hy0
      have hEl : Hid (ctE t0 l = 6) := Lib.hid (by rw [hsp.out, if_pos hy0])
      clear hc1 hc2 hc3 hxr hown5 hE hsp hnx hz0
      go_wp2_with fail
      go_ret
      exact ⟨ret_int hEl.out.symm, GF5.out, fun h => by rw [hEl.out] at h; cases h⟩
    have t1 := byte_unlike (y := 0) (q := 0) rfl hy0
    by_cases hy5 : y = 255
    · have t2 := byte_same (y := 255) (q := 255) rfl hy5
      have hEl : Hid (ctE t0 l = 70) := Lib.hid (by rw [hsp.out, if_neg hy0, if_pos hy5])
      clear hc1 hc2 hc3 hxr hown5 hE hsp hnx hz0
      go_wp2_with fail
      go_ret
      exact ⟨ret_int hEl.out.symm, GF5.out, fun h => by rw [hEl.out] at h; cases h⟩
    have t2 := byte_unlike (y := 255) (q := 255) rfl hy5
    have hfr : w5.frozen? ⟨g, r, none⟩ = false := hown5.frozenAt r
    obtain ⟨hu1, hu2, hu3⟩ := up_byte hy5
    have hset := own_set hown5 r (y + 1)
    have hn1 : Hid (ctE t0 (l.take (i + 1)) = 0 ∧ ctV t0 (l.take (i + 1)) = T.set r (y + 1)) := Lib.hid ⟨by rw [hnx.out.1, if_neg hy0, if_neg hy5], hnx.out.2⟩
    rw [← hu1] at hset
    replace hset := Lib.hid hset
    replace hu1 := Lib.hid hu1
    have hgn := Lib.hid (grow_put hgr5.out (p := ⟨g, r, none⟩) rfl (.int .u8 ((y.toNat : Int) + 1)))
    clear hc1 hc2 hc3 hxr hown5 hE hsp hnx hz0
    go_wp2_with fail
    go_roundw
    case rel => exact ⟨i + 1, by omega, by go_num, hn1.out.1, by rw [hn1.out.2]; exact hset.out, hgn.out⟩
    case measure => simp [intOf]; omega
end Go.Proofs.Ytmdlgnlfgfhkmaa

/-
  Package drop: refs, which ranges over slices.Backward of items. Conditions: those that each lemma states.
-/
namespace Go.Proofs.Ytmdlgnlfgfhkmaa
open Go.RowKit Go.Shelf Go.Maps
attribute [local go_sem] Oper.semAt_some

theorem rf_info0 : (Try.prog.info? 63).map (fun i => (i.zero, i.size, i.bytes)) = some (some (.agg #[.int .i64 0, .int .i64 0]), 2, 16) := by kernel_rfl
/-- The cells of references. -/
def rfV (l : List Rf) : List Value := l.flatMap fun x => [.int .i64 x.1, .int .i64 x.2]
theorem rfV_len (l : List Rf) : (rfV l).length = l.length * 2 := by
  induction l with
  | nil => rfl
  | cons x l ih =>
    show (rfV l).length + 2 = _
    rw [ih, List.length_cons]
    omega
theorem rfV_app (a b : List Rf) : rfV (a ++ b) = rfV a ++ rfV b := by simp [rfV]
theorem rfV_one (l : List Rf) : ∀ v ∈ rfV l, v.oneCell' = true := by
  intro v hv
  simp only [rfV, List.mem_flatMap] at hv
  obtain ⟨x, _, hx⟩ := hv
  simp at hx
  rcases hx with rfl | rfl <;> rfl
theorem rfV_at {l : List Rf} {i : Nat} {x : Rf} (h : l[i]? = some x) : (rfV l)[i * 2]? = some (.int .i64 x.1) ∧ (rfV l)[i * 2 + 1]? = some (.int .i64 x.2) := by
  induction l generalizing i with
  | nil => simp at h
  | cons y l ih =>
    cases i with
    | zero =>
      simp at h
      subst h
      exact ⟨rfl, rfl⟩
    | succ i =>
      have := ih (i := i) (by simpa using h)
      rw [show (i + 1) * 2 = i * 2 + 1 + 1 by omega]
      exact this

set_option maxRecDepth 100000 in
set_option maxHeartbeats 4000000 in
/-- The closure of slices.Backward at items, for every loop body that keeps what lay below n₀. -/
theorem backI_in (F : Fence) (n : Nat) (hf : F.fn 90) (hro : F.round = none) (hn : 1 ≤ n) (l Bs n₀ cap m : Nat) (A : Option Addr) (ad : Addr) (f : Nat → It) (E : Nat → Option Addr) (ca : Nat → Nat) (hm : m ≤ 9223372036854775807) (hA : 0 < m → A = some ad ∧ ad.block < n₀) (J Jx : List Nat → World → Prop)
    (hY : ∀ (pre : List Nat) (x : Nat) (W : World), J pre W → pre.length < m → YieldAt F (n - 1) Try.prog l #[.int .i64 (x : Int), .agg #[.int .u8 ((f x).1.1.toNat : Int), .int .u32 (f x).1.2.1, .int .u32 (f x).1.2.2, .int .i64 (f x).2.1, .slice (E x) (f x).2.2.length (ca x)]] W fun e W' =>
      (e = .returned (.bool true) ∧ J (pre ++ [x]) W' ∧ Keeps n₀ Bs W W') ∨ (e = .returned (.bool false) ∧ Jx (pre ++ [x]) W'))
    (W : World) (hBs : W.cell? ⟨Bs, 0, none⟩ = some (.slice A m cap)) (hc : ∀ j, j < m → At5 W (ad.add (j * 5)) (f j) (.slice (E j) (f j).2.2.length (ca j))) (h0 : J [] W) :
    CallsIn F n Try.prog 90 #[.func (.yield l) #[] #[], .pointer (some ⟨Bs, 0, none⟩)] W fun e W' => (∃ v, e = .returned v) ∧
      ((∃ ys, ys = downs m m ∧ J ys W') ∨ (∃ pre, (∃ k, k ≤ m ∧ pre = downs m k) ∧ Jx pre W')) := by
  refine callsIn_of_wp Try.func90 rfl hf ?_ hro
  simp only [Try.ntmps90, List.size_toArray, List.length_cons, List.length_nil, Nat.reduceAdd, Nat.reduceSub, Array.replicate_succ, Array.replicate_zero, List.push_toArray, List.append_toArray, List.nil_append, List.cons_append]
  have HC := Lib.hid hc
  clear hc
  replace hA := Lib.hid hA
  gi_wp2
  gi_loopw [3] (fun i wr => ∃ k : Nat, k ≤ m ∧ i = .int .i64 ((m : Int) - 1 - k) ∧ J (downs m k) wr ∧ Below n₀ W wr ∧ wr.cell? ⟨Bs, 0, none⟩ = some (.slice A m cap))
    (fun i _ => (intOf i + 1).toNat)
  case atStart => exact ⟨0, Nat.zero_le _, by simp, h0, Below.refl _ _, hBs⟩
  case round =>
    obtain ⟨k, hk, rfl, hJs, hnx, hbs⟩ := hrel
    by_cases hlt : k < m
    · obtain ⟨rfl, hb⟩ := hA.out (by omega)
      have hx := HC.out (m - 1 - k) (by omega)
      have g1 := (hnx.cell (p := ad.add ((m - 1 - k) * 5)) (by rw [add_block]; exact hb)).trans hx.c0
      have g2 := (hnx.cell (p := ⟨(ad.add ((m - 1 - k) * 5)).block, (ad.add ((m - 1 - k) * 5)).off + 1, none⟩) (by rw [add_block]; exact hb)).trans hx.c1
      have g3 := (hnx.cell (p := ⟨(ad.add ((m - 1 - k) * 5)).block, (ad.add ((m - 1 - k) * 5)).off + 2, none⟩) (by rw [add_block]; exact hb)).trans hx.c2
      have g4 := (hnx.cell (p := ⟨(ad.add ((m - 1 - k) * 5)).block, (ad.add ((m - 1 - k) * 5)).off + 3, none⟩) (by rw [add_block]; exact hb)).trans hx.c3
      have g5 := (hnx.cell (p := ⟨(ad.add ((m - 1 - k) * 5)).block, (ad.add ((m - 1 - k) * 5)).off + 4, none⟩) (by rw [add_block]; exact hb)).trans hx.c4
      clear hx
      obtain ⟨fn, tmps, assign, body, hy, hR⟩ := hY _ (m - 1 - k) wr hJs (by rw [downs_length]; exact hlt)
      try dsimp only at hy
      have e1 : ((m : Int) - 1 - k).toNat = m - 1 - k := by omega
      have e2 : ((m - 1 - k : Nat) : Int) = (m : Int) - 1 - k := by omega
      rw [e2] at hy
      clear e2
      have hds := Lib.hid (downs_succ m k)
      generalize ((f (m - 1 - k)).1.1.toNat : Int) = q1 at *
      generalize (f (m - 1 - k)).1.2.1 = q2 at *
      generalize (f (m - 1 - k)).1.2.2 = q3 at *
      generalize (f (m - 1 - k)).2.1 = q4 at *
      generalize (f (m - 1 - k)).2.2.length = q5 at *
      generalize E (m - 1 - k) = q6 at *
      generalize ca (m - 1 - k) = q7 at *
      gi_wp2
      refine hR.mono ?_
      rintro e W3 (⟨rfl, hJ3, hk3⟩ | ⟨rfl, hJx3⟩)
      · gi_wp2
        go_roundw
        case rel => exact ⟨k + 1, by omega, by go_num, by rw [hds.out]; exact hJ3, hnx.trans hk3.1, hk3.2.trans hbs⟩
        case measure => simp [intOf]; omega
      · gi_wp2
        refine bodyPost_ret (results_none rfl _ _ _) rfl ?_
        exact ⟨⟨_, rfl⟩, .inr ⟨_, ⟨k + 1, by omega, hds.out.symm⟩, hJx3⟩⟩
    · obtain rfl : k = m := by omega
      gi_wp2
      go_end0
      exact ⟨⟨_, rfl⟩, .inl ⟨_, rfl, hJs⟩⟩

set_option maxHeartbeats 1000000 in
/-- slices.Backward(s): the slice value is boxed; the function value captures the box. -/
theorem backwardI_in (F : Fence) (n : Nat) (hf : F.fn 81) (hro : F.round = none) (a : Option Addr) (len cap : Nat) (w : World) :
    CallsIn F n Try.prog 81 #[.slice a len cap] w fun e w' => e = .returned (.func (.func 90) #[] #[.pointer (some ⟨w.heap.size, 0, none⟩)]) ∧ w' = w.alloc (.cells #[.slice a len cap] 39) := by
  refine callsIn_of_wp Try.func81 rfl hf ?_ hro
  simp only [Try.ntmps81, List.size_toArray, List.length_cons, List.length_nil, Nat.reduceAdd, Nat.reduceSub, Array.replicate_succ, Array.replicate_zero, List.push_toArray, List.append_toArray, List.nil_append, List.cons_append]
  gi_wp2
  go_ret
  exact ⟨rfl, rfl⟩

/-- slices.Backward(s) hands back a value that gives the elements from behind: all, or the first k of them. -/
theorem backwardI_stops (F : Fence) (n : Nat) (hf : F.fn 90) (hro : F.round = none) (hn : 1 ≤ n) (Bs n₀ cap m : Nat) (A : Option Addr) (ad : Addr) (f : Nat → It) (E : Nat → Option Addr) (ca : Nat → Nat) (hm : m ≤ 9223372036854775807) (w : World) (hBs : Bs < w.heap.size) (_hn₀ : n₀ ≤ w.heap.size)
    (hc : w.cell? ⟨Bs, 0, none⟩ = some (.slice A m cap)) (hA : 0 < m → A = some ad ∧ ad.block < n₀) (hx : ∀ j, j < m → At5 w (ad.add (j * 5)) (f j) (.slice (E j) (f j).2.2.length (ca j))) :
    SeqStopsK F n Try.prog 90 #[.pointer (some ⟨Bs, 0, none⟩)] (fun x : Nat => #[Value.int .i64 (x : Int), Value.agg #[.int .u8 ((f x).1.1.toNat : Int), .int .u32 (f x).1.2.1, .int .u32 (f x).1.2.2, .int .i64 (f x).2.1, .slice (E x) (f x).2.2.length (ca x)]]) (Keeps n₀ Bs) (fun ys => ys = downs m m)
      (fun pre => ∃ k, k ≤ m ∧ pre = downs m k) m w := fun l J Jx W hW _ _ hY h0 => by
  have hc' := (hW.cell (p := ⟨Bs, 0, none⟩) hBs).trans hc
  exact backI_in F n hf hro hn l Bs n₀ cap m A ad f E ca hm hA J Jx hY W hc' (fun j hj => (hx j hj).below hW) h0

/-- A row of items, as functions of the place. -/
theorem its_fn {w : World} {A : Option Addr} {n c : Nat} {xs : List It} (h : rIts (Old w) w [.slice A n c] xs) (hn : xs.length = n) :
    ∃ (ad : Addr) (f : Nat → It) (E : Nat → Option Addr) (ca : Nat → Nat), (0 < n → A = some ad ∧ ad.block < w.heap.size) ∧ (∀ i x, xs[i]? = some x → f i = x) ∧ ∀ i, i < n → At5 w (ad.add (i * 5)) (f i) (.slice (E i) (f i).2.2.length (ca i)) := by
  subst hn
  have h2 : ∀ i, ∃ g : It × Option Addr × Nat, ∀ x, xs[i]? = some x → g.1 = x ∧ ∃ ad, A = some ad ∧ ad.block < w.heap.size ∧ At5 w (ad.add (i * 5)) x (.slice g.2.1 x.2.2.length g.2.2) := fun i => by
    cases hx : xs[i]? with
    | none => exact ⟨(((0, 0, 0), 0, []), none, 0), fun x e => by cases e⟩
    | some x =>
      obtain ⟨ad, E, ce, rfl, hok, h5, _⟩ := its_at h hx
      exact ⟨(x, E, ce), fun y e => by cases e; exact ⟨rfl, ad, rfl, by have := h5.lt; rwa [add_block] at this, h5⟩⟩
  obtain ⟨g, hg⟩ : ∃ g : Nat → It × Option Addr × Nat, ∀ i x, xs[i]? = some x → (g i).1 = x ∧ ∃ ad, A = some ad ∧ ad.block < w.heap.size ∧ At5 w (ad.add (i * 5)) x (.slice (g i).2.1 x.2.2.length (g i).2.2) :=
    ⟨fun i => Classical.choose (h2 i), fun i => Classical.choose_spec (h2 i)⟩
  rcases A with _ | ad
  · refine ⟨⟨0, 0, none⟩, fun i => (g i).1, fun i => (g i).2.1, fun i => (g i).2.2, fun h0 => ?_, fun i x hi => (hg i x hi).1, fun i hi => ?_⟩
    · obtain ⟨_, _, e, _⟩ := hg 0 _ (List.getElem?_eq_getElem h0)
      cases e
    · obtain ⟨_, _, e, _⟩ := hg i _ (List.getElem?_eq_getElem hi)
      cases e
  · refine ⟨ad, fun i => (g i).1, fun i => (g i).2.1, fun i => (g i).2.2, fun h0 => ?_, fun i x hi => (hg i x hi).1, fun i hi => ?_⟩
    · obtain ⟨_, _, e, hb, _⟩ := hg 0 _ (List.getElem?_eq_getElem h0)
      cases e
      exact ⟨rfl, hb⟩
    · obtain ⟨e1, _, e, _, h5⟩ := hg i _ (List.getElem?_eq_getElem hi)
      cases e
      rw [← e1] at h5
      exact h5

/-! ### What is collected -/
def colF (lv : Int) (f : Nat → It) (pre : List Nat) : List Rf := rfsL lv (pre.map f)
theorem colF_nil (lv : Int) (f : Nat → It) : colF lv f [] = [] := rfl
theorem colF_zero {lv : Int} {f : Nat → It} {pre : List Nat} {x : Nat} (h : (f x).2.1 = 0) : colF lv f (pre ++ [x]) = colF lv f pre := by
  rw [colF, List.map_append, rfsL_app, List.map_cons, List.map_nil, rfsL_zero h, rfsL_nil, List.append_nil]
  rfl
theorem colF_more {lv : Int} {f : Nat → It} {pre : List Nat} {x : Nat} (h : (f x).2.1 ≠ 0) : colF lv f (pre ++ [x]) = colF lv f pre ++ [((f x).2.1, lv)] := by
  rw [colF, List.map_append, rfsL_app, List.map_cons, List.map_nil, rfsL_more h, rfsL_nil]
  rfl
theorem downs_all {f : Nat → It} {xs : List It} (h : ∀ i x, xs[i]? = some x → f i = x) : (downs xs.length xs.length).map f = xs.reverse := by
  refine List.ext_getElem (by simp [downs]) fun i h1 h2 => ?_
  have hi : i < xs.length := by simpa using h2
  simp only [downs, List.map_map, List.getElem_map, List.getElem_range, Function.comp, List.getElem_reverse]
  exact h _ _ (List.getElem?_eq_getElem (by omega))
theorem rfsL_rev (lv : Int) (l : List It) : rfsL lv l.reverse = (rfsL lv l).reverse := by simp [rfsL, List.filter_reverse]
theorem colF_all {lv : Int} {f : Nat → It} {xs : List It} (h : ∀ i x, xs[i]? = some x → f i = x) : colF lv f (downs xs.length xs.length) = (rfsL lv xs).reverse := by
  rw [colF, downs_all h, rfsL_rev]
end Go.Proofs.Ytmdlgnlfgfhkmaa

/-
  Package drop: refs, all references of a node, the last one first. Conditions: those that each lemma states.
-/
namespace Go.Proofs.Ytmdlgnlfgfhkmaa
open Go.RowKit Go.Shelf Go.Maps
attribute [local go_sem] Oper.semAt_some

theorem cells_two {w : World} {a b : Value} {t : TypeId} : ∀ j u, ([a, b] : List Value)[j]? = some u → (w.alloc (.cells #[a, b] t)).cell? ((⟨w.heap.size, 0, none⟩ : Addr).add j) = some u := by
  intro j u hj
  rw [add_off, Nat.zero_add, cell_of_row _ _ _ #[a, b] t _ (heap_alloc_new w _)]
  simpa using hj

/-- A block of another type stays where a row is pushed to, and the row's box is turned. -/
theorem block_appended {W w1 : World} {g B base size k : Nat} {cs : Array Value} {t e : TypeId} {tmp : Obj} {v v' : Value} {xs : List Value} (h : W.heap[g]? = some (.cells cs t (0, 0))) (hte : t ≠ e) (hr : W.ownsRow base e size v k xs) (hg : (W.alloc tmp).grownBy w1 v.ownBlock) (hB : g ≠ B) :
    (w1.setCell ⟨B, 0, none⟩ v').heap[g]? = some (.cells cs t (0, 0)) := by
  have hlt : g < W.heap.size := (Array.getElem?_eq_some_iff.1 h).1
  have hne : some g ≠ v.ownBlock := by
    rcases hr.2 with ⟨rfl, _⟩ | ⟨q, cap, cur, rfl, _, hq, _⟩
    · simp [Value.ownBlock]
    · intro e'
      obtain rfl : g = q := by simpa [Value.ownBlock] using e'
      rw [h] at hq
      simp at hq
      exact hte hq.2
  rw [Below.heap_setCell w1 ⟨B, 0, none⟩ v' g hB, hg.block g (by simp; omega) hne, Below.heap_alloc W tmp g hlt, h]

set_option maxRecDepth 100000 in
set_option maxHeartbeats 4000000 in
theorem refs_in (F : Fence) (n : Nat) (h3 : F.fn 69) (h5 : F.fn 81) (h7 : F.fn 90) (hro : F.round = none) (hn : 3 ≤ n)
    (v : Value) (nd : Nd) (h0 : 0 ≤ nd.1) (h6 : nd.1 < 6) (hl5 : nd.2.length ≤ 5) (w : World) (h : Nod (Old w) w v nd) :
    CallsIn F n Try.prog 69 #[v] w fun e W' => ∃ u, e = .returned u ∧ W'.ownsRow w.heap.size 63 2 u (rfsT nd).length (rfV (rfsT nd).reverse) ∧ Below w.heap.size w W' := by
  have h1 : 1 ≤ n := by omega
  obtain ⟨i0, hi, hz0, hz1, hz2⟩ := info_parts rf_info0
  obtain ⟨A, c, rfl, _, l1, m1, hI⟩ := h.open
  obtain ⟨m, hm⟩ : ∃ m, nd.2.length = m := ⟨_, rfl⟩
  obtain ⟨lv, hlv⟩ : ∃ lv, nd.1 = lv := ⟨_, rfl⟩
  rw [hm] at l1 hI hl5 ⊢
  obtain ⟨ad, f, E, ca, hA, hf, hc⟩ := its_fn hI hm
  have hcol : Hid (colF (lv - 1) f (downs m m) = (rfsT nd).reverse) := Lib.hid (by rw [← hm, colF_all hf, rfsT, hlv])
  rw [hlv] at h0 h6 ⊢
  replace hlv := Lib.hid hlv
  replace hm := Lib.hid hm
  replace hc := Lib.hid hc
  replace hA := Lib.hid hA
  replace hf := Lib.hid hf
  clear hI h
  refine callsIn_of_wp_marks Try.func69 rfl h3 ?_ hro
  simp only [Try.ntmps69, List.size_toArray, List.length_cons, List.length_nil, Nat.reduceAdd, Nat.reduceSub, Array.replicate_succ, Array.replicate_zero, List.push_toArray, List.append_toArray, List.nil_append, List.cons_append]
  gi_wp2_with (gi_at_call 81; refine (backwardI_in F (n - 1) h5 hro _ _ _ _).mono ?_; rintro e w' ⟨rfl, rfl⟩)
  obtain ⟨W0, hW0, hB0, hs0, b0, bx, b3⟩ : ∃ W0, ((w.alloc (.cells #[.int .i64 lv, .slice A m c] 41)).alloc (.cells #[.slice none 0 0] 108)).alloc (.cells #[.slice A m c] 39) = W0 ∧ Below w.heap.size w W0 ∧ W0.heap.size = w.heap.size + 3 ∧
      W0.heap[w.heap.size]? = some (.cells #[.int .i64 lv, .slice A m c] 41 (0, 0)) ∧ Boxed W0 (w.heap.size + 1) 108 (.slice none 0 0) ∧ Boxed W0 (w.heap.size + 1 + 1) 39 (.slice A m c) :=
    ⟨_, rfl, (((Below.refl _ w).alloc (Nat.le_refl _) _).alloc (by simp) _).alloc (by simp; omega) _, by simp, (Below.heap_alloc _ _ _ (by simp; omega)).trans ((Below.heap_alloc _ _ _ (by simp)).trans (heap_alloc_new w _)), ((by have := Boxed.new (w.alloc (.cells #[.int .i64 lv, .slice A m c] 41)) 108 (.slice none 0 0); simpa using this : Boxed ((w.alloc (.cells #[.int .i64 lv, .slice A m c] 41)).alloc (.cells #[.slice none 0 0] 108)) (w.heap.size + 1) 108 (.slice none 0 0))).alloc _, by have := Boxed.new ((w.alloc (.cells #[.int .i64 lv, .slice A m c] 41)).alloc (.cells #[.slice none 0 0] 108)) 39 (.slice A m c); simpa using this⟩
  rw [hW0]
  clear hW0
  have hlo : w.heap.size ≤ W0.heap.size := hB0.size
  have hA0 : 0 < m → A = some ad ∧ ad.block < w.heap.size := hA.out
  refine wpIn_rangeFunc_ownH hro h1 (gf := 90) (lb := #[.pointer (some ⟨w.heap.size + 1 + 1, 0, none⟩)]) rfl h7 (enters_of Try.func90 (by kernel_rfl) rfl)
    (backwardI_stops F (n - 1) h7 hro (by omega) (w.heap.size + 1 + 1) w.heap.size c m A ad f E ca (by omega) W0 (by omega) hlo b3.cell hA0 (fun j hj => (hc.out j hj).below hB0))
    (fun h h' => Keeps.trans h h') (fun W l o o' hl h1 h2 h3 => keeps_b (w := W0) (by omega) hlo l o o' hl h1 h2 h3) (Below.refl _ _) (fun _ => rfl)
    (fun pre W => ((∃ v, Boxed W (w.heap.size + 1) 108 v ∧ W.ownsRow w.heap.size 63 2 v (colF (lv - 1) f pre).length (rfV (colF (lv - 1) f pre)) ∧ True) ∧ (W.heap[w.heap.size]? = some (.cells #[.int .i64 lv, .slice A m c] 41 (0, 0)) ∧ Boxed W (w.heap.size + 1 + 1) 39 (.slice A m c))) ∧ Below w.heap.size w W)
    (fun _ _ _ => False)
    (OwnFrom.and (OwnFrom.and (Own.from (holdsRow_own w.heap.size (w.heap.size + 1) 108 63 2 (fun pre : List Nat => (colF (lv - 1) f pre).length) (fun pre => rfV (colF (lv - 1) f pre)) (fun _ _ => True)) _) (Own.from (fun s A B row hs hg hr => ⟨block_kept hs.1 hg hr, block_kept hs.2 hg hr⟩) _)) (ownFrom_below (Nat.le_refl _) hlo))
    (fun _ _ _ _ _ hs _ _ => hs)
    ⟨⟨⟨_, bx, World.ownsRow_nil _ _ _ _, trivial⟩, b0, b3⟩, hB0⟩
    (fun x a' W => ∃ g, a' = { tmps := #[.agg #[.int .i64 lv, .slice A m c], .pointer (some ⟨w.heap.size, 0, none⟩), .slice none 0 0, .pointer (some ⟨w.heap.size + 1, 0, none⟩), undef, .pointer (some ⟨g, 0, none⟩), .pointer (some ⟨w.heap.size, 1, none⟩), .slice A m c,
      .func (.func 90) #[] #[.pointer (some ⟨w.heap.size + 1 + 1, 0, none⟩)], .int .i64 (x : Int), .agg #[.int .u8 ((f x).1.1.toNat : Int), .int .u32 (f x).1.2.1, .int .u32 (f x).1.2.2, .int .i64 (f x).2.1, .slice (E x) (f x).2.2.length (ca x)], undef, undef, undef, undef, undef, undef, undef, undef, undef, undef, undef, undef, undef], defers := [] } ∧
      W.cell? ⟨g, 3, none⟩ = some (.int .i64 (f x).2.1))
    (fun x a' => Own.from (fun s A B row hs hg hr => by
      obtain ⟨g, e, h1⟩ := hs
      exact ⟨g, e, cell_kept h1 hg hr⟩) _) ?assign ?body ?done ?stop
  case assign =>
    rintro l pre x W K ⟨⟨⟨v, hv, hrow, _⟩, c0, c3⟩, hb⟩ hK
    have c3' := c3.cell
    gi_wp2
    exact hK _ _ ((KeepsOthers.alloc _ _).from _) ⟨(Below.refl _ W).alloc hb.size _, (Lib.cell?_alloc_some _ c3').trans c3'.symm⟩
      ⟨⟨⟨v, hv.alloc _, hrow.alloc _, trivial⟩, (Below.heap_alloc W _ _ (Array.getElem?_eq_some_iff.1 c0).1).trans c0, c3.alloc _⟩, hb.alloc hb.size _⟩ ⟨W.heap.size, rfl, by go_simp⟩
  case body =>
    rintro l pre x a' W hl hloop ⟨⟨⟨v, hv, hrow, _⟩, c0, c3⟩, hb⟩ ⟨g, rfl, g3⟩ hlen
    obtain ⟨q, hq⟩ : ∃ q, (f x).2.1 = q := ⟨_, rfl⟩
    rw [hq] at g3
    have d0 : W.cell? ⟨w.heap.size, 0, none⟩ = some (.int .i64 lv) := by rw [cell_of_row _ _ _ _ _ _ c0]; rfl
    by_cases he : q = 0
    · have he' : (q != 0) = false := by simp [he]
      have hcz : Hid (colF (lv - 1) f (pre ++ [x]) = colF (lv - 1) f pre) := Lib.hid (colF_zero (by rw [hq, he]))
      replace hq := Lib.hid hq
      replace he := Lib.hid he
      gi_wp2
      refine ⟨KeepsFrom.refl _ _, ⟨Below.refl _ _, rfl⟩, ⟨⟨v, hv, ?_, trivial⟩, c0, c3⟩, hb⟩
      rw [hcz.out]
      exact hrow
    · have he' : (q != 0) = true := by simpa using he
      have hcm : Hid (colF (lv - 1) f (pre ++ [x]) = colF (lv - 1) f pre ++ [(q, lv - 1)]) := Lib.hid (by rw [colF_more (by rw [hq]; exact he), hq])
      have hle : w.heap.size ≤ w.heap.size + 1 := by omega
      have hcell := hv.cell
      have hkl : Hid ((colF (lv - 1) f pre).length ≤ 1000000) := Lib.hid (by
        have := rfsL_len (lv - 1) (pre.map f)
        rw [List.length_map] at this
        exact Nat.le_trans this (by omega))
      obtain ⟨k, hk⟩ : ∃ k, (colF (lv - 1) f pre).length = k := ⟨_, rfl⟩
      rw [hk] at hrow hkl
      replace hk := Lib.hid hk
      have hwr : IntKind.i64.wrap (lv - 1) = lv - 1 := by rw [IntKind.wrap_i64]; omega
      replace hq := Lib.hid hq
      replace he := Lib.hid he
      gi_wp2_with (gi_at_builtin; refine wpListIn_append_own _ rfl _ _ 108 rfl w.heap.size 63 i0 (.agg #[.int .i64 0, .int .i64 0]) 2 16 Try.underlying108 hi hz0 hz1 hz2 rfl (by decide) _ _ _ rfl (hrow.alloc _) ⟨W.heap.size, 0, none⟩ 1 1 [.int .i64 q, .int .i64 (lv - 1)] rfl rfl cells_two (by simp [Value.oneCell']) (by unfold maxLen; have := hkl.out; omega) (by have := hkl.out; omega) (by have := hb.size; simp; omega) ?_; intro v' w1 hown' hgrow _; obtain ⟨g', cap', rfl⟩ := ownsRow_succ hown'; obtain ⟨hv1, hv2, hr2, hk2, hb2⟩ := hv.appended (by decide) hrow hb.size hle hown' hgrow; have hc1 := hv1.cell; have hf1 := hv1.frozen)
      have e0 := block_appended (v' := .slice (some ⟨g', 0, none⟩) (k + 1) cap') c0 (by decide) hrow hgrow (B := w.heap.size + 1) (by omega)
      have e3 : Boxed _ (w.heap.size + 1 + 1) 39 (.slice A m c) := block_appended (v' := .slice (some ⟨g', 0, none⟩) (k + 1) cap') c3 (by decide) hrow hgrow (B := w.heap.size + 1) (by omega)
      refine ⟨hk2.from _, ⟨hb2, e3.cell.trans c3.cell.symm⟩, ⟨⟨_, hv2, ?_, trivial⟩, e0, e3⟩, hb.trans hb2⟩
      rw [hcm.out, List.length_append, hk.out, rfV_app]
      exact hr2
  case done =>
    rintro D zs W hD rfl ⟨⟨⟨v, hv, hrow, _⟩, c0, c3⟩, hb⟩ hK
    have hcell := hv.cell
    rw [hcol.out, List.length_reverse] at hrow
    gi_wp2
    refine ⟨by simp, .inl ⟨_, _, rfl, run_takeDeferred hK, ?_⟩⟩
    have hrow' := ownsRow_putObj hrow (.deferred none) hK rfl
    refine ⟨_, results_tmp rfl _ _ _, v, rfl, hrow', hb.trans (belowK_b hlo _ D _ _ hD hK rfl rfl)⟩
  case stop =>
    rintro D c pre W _ _ h _
    exact h.elim

theorem refs_any (v : Value) (nd : Nd) (h0 : 0 ≤ nd.1) (h6 : nd.1 < 6) (hl5 : nd.2.length ≤ 5) (w : World) (h : Nod (Old w) w v nd) :
    Calls Try.prog 69 #[v] w fun e W' => ∃ u, e = .returned u ∧ W'.ownsRow w.heap.size 63 2 u (rfsT nd).length (rfV (rfsT nd).reverse) ∧ Below w.heap.size w W' :=
  callsIn_wide.1 (refs_in Fence.wide 3 trivial trivial trivial rfl (Nat.le_refl _) v nd h0 h6 hl5 w h)
end Go.Proofs.Ytmdlgnlfgfhkmaa

/-
  Package drop: lower, a stack that is gone through, its counts turned in a table of the caller's own. Conditions: those that each lemma states.
-/
namespace Go.Proofs.Ytmdlgnlfgfhkmaa
open Go.RowKit

theorem own_under {w w' : World} {B base g n c : Nat} {e : TypeId} {size : Nat} {xs : List Value} (h : w.ownsRow base e size (.slice (some ⟨g, 0, none⟩) n c) n xs) (hb : Below B w w') (hg : g < B) : w'.ownsRow base e size (.slice (some ⟨g, 0, none⟩) n c) n xs := by
  refine ⟨h.1, h.2.imp id ?_⟩
  rintro ⟨q, cap, cur, e1, h1, h2, h3⟩
  have hq : g = q := by
    simp only [Value.slice.injEq, Option.some.injEq, Addr.mk.injEq, and_true, true_and] at e1
    exact e1.1
  exact ⟨q, cap, cur, e1, h1, (hb.block q (by omega)).trans h2, h3⟩
/-- The last element is taken off. -/
theorem own_pop {w : World} {base g n c : Nat} {e : TypeId} {size : Nat} {xs ys : List Value} (h : w.ownsRow base e size (.slice (some ⟨g, 0, none⟩) (n + 1) c) (n + 1) (xs ++ ys)) (hx : xs.length = n * size) : w.ownsRow base e size (.slice (some ⟨g, 0, none⟩) n c) n xs := by
  refine ⟨hx, .inr ?_⟩
  rcases h.2 with ⟨e1, _⟩ | ⟨q, cap, cur, e1, h1, h2, h3, h4, h5, h6⟩
  · simp at e1
  · simp only [Value.slice.injEq, Option.some.injEq, Addr.mk.injEq, and_true, true_and] at e1
    obtain ⟨rfl, rfl⟩ := e1
    refine ⟨g, c, cur, rfl, h1, h2, by omega, h4, h5, ?_⟩
    have : (cur.toList.take ((n + 1) * size)).take (n * size) = (xs ++ ys).take (n * size) := by rw [h6]
    rw [List.take_take, Nat.min_eq_left (Nat.mul_le_mul_right _ (by omega))] at this
    rw [this, ← hx]
    exact List.take_left
theorem rf_app {w : World} {base base' n m : Nat} {ty : TypeId} {v u : Value} {a b : List Rf} (hown : w.ownsRow base 63 2 v n (rfV a)) (hu : w.ownsRow base' 63 2 u m (rfV b)) (h : n + m ≤ 1000000) (hbase : base ≤ w.heap.size) :
    ∃ v' w', (Builtin.append_ #[108, 108] ty #[v, u]).run Try.prog w = .ok v' w' ∧ w'.ownsRow base 63 2 v' (n + m) (rfV (a ++ b)) ∧ w.grownBy w' v.ownBlock ∧ Below base w w' := by
  obtain ⟨i0, hi, hz0, hz1, hz2⟩ := info_parts rf_info0
  obtain ⟨A, c, rfl, _, _, ho, _⟩ := own_any hu
  have hcs := fun g => hu.cells (g := g)
  rw [rfV_app]
  refine app_any base _ ty 63 i0 (.agg #[.int .i64 0, .int .i64 0]) 2 16 Try.underlying108 hi hz0 hz1 hz2 rfl (by decide) v n (rfV a) hown A m c (rfV b) hu.1 (fun j x hj => ?_) (rfV_one b) (by unfold maxLen; omega) (by omega) hbase
  rcases hu.2 with ⟨e, rfl⟩ | ⟨g, cap, cur, e, _⟩
  · have := hu.1
    rw [Nat.zero_mul] at this
    rw [List.eq_nil_of_length_eq_zero this] at hj
    simp at hj
  · cases e
    exact ⟨_, rfl, hcs _ rfl j x hj⟩

theorem last_of (l : List Rf) : l = [] ∨ ∃ a x, l = a ++ [x] := by
  rcases List.eq_nil_or_concat l with h | ⟨a, x, h⟩
  · exact .inl h
  · exact .inr ⟨a, x, by rw [h, List.concat_eq_append]⟩
/-- How much is counted in a table that lies in a block. -/
def msr (w : World) (g : Nat) : Nat := ((List.range 256).map fun j => match w.cell? ⟨g, j, none⟩ with
  | some (.int _ n) => n.toNat
  | _ => 0).sum
theorem msr_own {w : World} {base g c : Nat} {T : List UInt8} (h : w.ownsRow base 5 1 (.slice (some ⟨g, 0, none⟩) 256 c) 256 (u8s T)) : msr w g = allT T := by
  have hl : T.length = 256 := own_length h
  unfold msr allT
  congr 1
  refine List.ext_getElem (by simp [hl]) fun i h1 h2 => ?_
  have hi : i < 256 := by simpa using h1
  rw [List.getElem_map, List.getElem_map, List.getElem_range]
  rw [own_cell h hi]
  show ((T[i]?.getD 0).toNat : Int).toNat = _
  rw [List.getElem?_eq_getElem (by omega)]
  rfl

/-- What lower tells. -/
def LwP (s : Rm) (x : Rf) (t0 : List UInt8) (g c lo : Nat) (w w' : World) (e : Ending) : Prop := ∃ q : Int, e = .returned (.int .i64 q) ∧ w.grownBy w' (some g) ∧
  ((wkF s.1 x.2 t0 x.1.toNat = none ∧ q = 8) ∨ (∃ t, wkF s.1 x.2 t0 x.1.toNat = some t ∧ q = 0 ∧ w'.ownsRow lo 5 1 (.slice (some ⟨g, 0, none⟩) 256 c) 256 (u8s t)))

theorem box_lw (w : World) (a b c d e f : Value) : ∃ w1, (w.alloc (.cells #[a, b, c, d] 29)).alloc (.cells #[e, f] 63) = w1 ∧
    w1.heap[w.heap.size]? = some (.cells #[a, b, c, d] 29 (0, 0)) ∧ w1.heap[w.heap.size + 1]? = some (.cells #[e, f] 63 (0, 0)) ∧ w1.heap.size = w.heap.size + 2 ∧ Below w.heap.size w w1 := by
  refine ⟨_, rfl, alloc_block (heap_alloc_new _ _), ?_, by simp, ((Below.refl _ w).alloc (Nat.le_refl _) _).alloc (by simp) _⟩
  have := heap_alloc_new (w.alloc (.cells #[a, b, c, d] 29)) (.cells #[e, f] 63)
  rwa [World.size_alloc] at this

/-- What holds at each round. -/
def LwR (s : Rm) (t0 : List UInt8) (R : Option (List UInt8)) (g c lo : Nat) (w1 : World) (v : Value) (wr : World) : Prop := ∃ (st : List Rf) (T : List UInt8) (A : Option Addr) (sc : Nat), v = .slice A st.length sc ∧
  wr.ownsRow w1.heap.size 63 2 (.slice A st.length sc) st.length (rfV st) ∧ wr.ownsRow lo 5 1 (.slice (some ⟨g, 0, none⟩) 256 c) 256 (u8s T) ∧ w1.grownBy wr (some g) ∧
  runT s.1 T st.reverse = R ∧ LeT T t0 ∧ (∀ x ∈ st, Rfd x) ∧ st.length + 5 * allT T ≤ 400000

set_option maxRecDepth 100000 in
set_option maxHeartbeats 8000000 in
theorem lower_any (g c lo : Nat) (t0 : List UInt8) (v : Value) (s : Rm) (hm : mayR s = true) (a0 lv0 : Int) (hx0 : Rfd (a0, lv0)) (hle0 : LeT t0 s.2.1) (w : World) (hown : w.ownsRow lo 5 1 (.slice (some ⟨g, 0, none⟩) 256 c) 256 (u8s t0)) (h : Sto (Off g w) w v s) :
    Calls Try.prog 47 #[.slice (some ⟨g, 0, none⟩) 256 c, v, .agg #[.int .i64 a0, .int .i64 lv0]] w fun e w' => LwP s (a0, lv0) t0 g c lo w w' e := by
  obtain ⟨A, ca, B, cb, N, cn, L, cl, rfl, _⟩ := id h.open
  have hl0 : t0.length = 256 := own_length hown
  have hg0 : g < w.heap.size := ((hown.lt g rfl).2)
  obtain ⟨w1, hw1, f1, f2, hsz, hB⟩ := box_lw w (.slice A s.1.1.length ca) (.slice B s.1.2.length cb) (.slice N s.2.1.length cn) (.slice L s.2.2.length cl) (.int .i64 a0) (.int .i64 lv0)
  have H := Lib.hid (show Sto (Off g w1) w1 _ s from h.map fun _ _ hp hc => off_below hB hp hc)
  have HO := Lib.hid (own_below hown hB)
  have GB := Lib.hid (grow_of (row := some g) hB)
  obtain ⟨k0, k1, k2, k3, _, kg⟩ := four_cells f1
  obtain ⟨j0, j1, _, jg⟩ := two_cells f2
  have f1h := Lib.hid f1
  obtain ⟨R, hR⟩ : ∃ R, wkF s.1 lv0 t0 a0.toNat = R := ⟨_, rfl⟩
  have hgs : Hid (g < w.heap.size) := Lib.hid hg0
  have hsz' := Lib.hid hsz
  replace hl0 := Lib.hid hl0
  replace hle0 := Lib.hid hle0
  have hL1 : Hid (LwR s t0 R g c lo w1 (.slice (some ⟨w1.heap.size, 0, none⟩) 1 1) (w1.alloc (.cells #[.int .i64 a0, .int .i64 lv0] 63))) := Lib.hid (by
    refine ⟨[(a0, lv0)], t0, some ⟨w1.heap.size, 0, none⟩, 1, rfl, ?_, own_below HO.out ((Below.refl _ _).alloc (Nat.le_refl _) _), grow_of ((Below.refl _ _).alloc (Nat.le_refl _) _), ?_, LeT.refl _, ?_, ?_⟩
    · exact World.ownsRow_lit w1 #[.int .i64 a0, .int .i64 lv0] 1 (Nat.le_refl _) (by unfold maxLen; omega) rfl
    · show (wkF s.1 lv0 t0 a0.toNat).bind _ = R
      rw [hR]
      cases R <;> rfl
    · intro x hx
      rw [List.mem_singleton] at hx
      rw [hx]
      exact hx0
    · have := allT_le t0
      rw [hl0.out] at this
      show 1 + 5 * allT t0 ≤ 400000
      omega)
  replace hR := Lib.hid hR
  clear hown h f1 f2 hB hg0 hsz hx0
  go_enter Try.func47, Try.ntmps47
  go_upto_region 1 with fail
  clear hw1
  go_upto_region 2 with fail
  obtain ⟨W2, hW2⟩ : ∃ W2, w1.alloc (.cells #[.int .i64 a0, .int .i64 lv0] 63) = W2 := ⟨_, rfl⟩
  rw [hW2] at hL1 ⊢
  clear hW2 k0 k1 k2 k3 j0 j1 jg
  go_loopw [7] (fun vs wr => LwR s t0 R g c lo w1 vs wr) (fun _ wr => msr wr g)
  case atStart => exact hL1.out
  case round =>
    obtain ⟨st, T, E, sc, rfl, hst, hown, hgr, hrun, hle, hrf, hbd⟩ := hrel
    have GF := Lib.hid (grow_trans GB.out hgr)
    rcases last_of st with rfl | ⟨st', x, rfl⟩
    · have hfin : Hid (R = some T) := Lib.hid hrun.symm
      have HO2 := Lib.hid hown
      clear hst hown hgr hrun hle hrf hbd
      go_wp2_with fail
      go_ret
      exact ⟨0, rfl, GF.out, .inr ⟨T, hR.out.trans hfin.out, rfl, HO2.out⟩⟩
    obtain ⟨a, lv⟩ := x
    have hxd := hrf (a, lv) (by simp)
    obtain ⟨k, rfl⟩ : ∃ k : Nat, a = k := ⟨a.toNat, by have := hxd.1; dsimp only at this; omega⟩
    obtain ⟨h8, h256, hm1, h6⟩ := hxd
    dsimp only at h8 h256 hm1 h6
    have hrf' : Hid (∀ x ∈ st', Rfd x) := Lib.hid fun x hx => hrf x (by simp [hx])
    rw [List.reverse_append] at hrun
    replace hrun : (wkF s.1 lv T ((k : Int)).toNat).bind (fun u => runT s.1 u st'.reverse) = R := hrun
    rw [show ((k : Int)).toNat = k by omega] at hrun
    rw [rfV_app, List.length_append] at hst
    rw [List.length_append] at hbd
    obtain ⟨n, hn⟩ : ∃ n, st'.length = n := ⟨_, rfl⟩
    have e1 : (st' ++ [((k : Int), lv)]).length = n + 1 := by rw [List.length_append, hn]; rfl
    rw [e1]
    replace hst : wr.ownsRow w1.heap.size 63 2 (.slice E (n + 1) sc) (n + 1) (rfV st' ++ [.int .i64 (k : Int), .int .i64 lv]) := by
      rw [hn] at hst
      exact hst
    rw [hn] at hbd
    replace hbd : n + 1 + 5 * allT T ≤ 400000 := hbd
    obtain ⟨gs, cap, e2⟩ := ownsRow_succ hst
    cases e2
    have hrl : (rfV st').length = n * 2 := by rw [rfV_len, hn]
    have hc0 : wr.cell? ⟨gs, n * 2, none⟩ = some (.int .i64 (k : Int)) := by
      rw [hst.cellAt (n * 2) (by omega), List.getElem?_append_right (by omega), hrl, Nat.sub_self]
      rfl
    have hc1 : wr.cell? ⟨gs, n * 2 + 1, none⟩ = some (.int .i64 lv) := by
      rw [hst.cellAt (n * 2 + 1) (by omega), List.getElem?_append_right (by omega), hrl, show n * 2 + 1 - n * 2 = 1 by omega]
      rfl
    have hpop := own_pop hst hrl
    have hsc0 : Hid (n + 1 ≤ sc) := Lib.hid (by
      obtain ⟨_, _, e, hs, _⟩ := own_any hst
      cases e
      exact hs)
    clear hst e1 hrf
    obtain ⟨w5, hw5, b5, hs5, hB5⟩ := box_pair' wr (.int .i64 (k : Int)) (.int .i64 lv) 63
    have hown5 := own_below hown hB5
    have hpop5 := own_below hpop hB5
    have hgr5 := grow_later hgr (hB5.mono hgr.size)
    have hms : Hid (msr wr g = allT T) := Lib.hid (msr_own hown)
    obtain ⟨q0, q1, _, qg⟩ := two_cells b5
    have hrs : Hid (w1.heap.size ≤ wr.heap.size) := Lib.hid hgr.size
    clear hown hpop hgr hB5
    have n1 : IntKind.i64.wrap ((n : Int) + 1 - 1) = n := by rw [IntKind.wrap_i64]; omega
    go_upto_region 4 with fail
    clear hw5 hc0 hc1
    replace hs5 := Lib.hid hs5
    have hsc : n + 1 ≤ sc := by
      have := hsc0.out
      exact this
    have hs0 : (0 : Int) ≤ (n : Int) := by omega
    have hs2 : ¬ sc = 0 := by omega
    have hs3 : ¬ 0 = sc := by omega
    have hs4 : 0 < sc := by omega
    have hs5' : n ≤ sc := by omega
    clear hsc
    have hs1 : (n : Int) ≤ (sc : Int) := by omega
    clear hrl
    go_upto_region 5 with fail
    clear hs0 hs1 hs2 hs3 hs4 hs5' n1
    have hle0' : Hid (T[k]?.getD 0 ≠ 0 → asE s (k : Int) = 0) := Lib.hid fun hz => as_yes hm (by omega) (by omega) (fun e => hz (nat_zero.1 (by
      have h1 := (hle.trans hle0.out).le k
      rw [e] at h1
      exact Nat.le_zero.1 h1)))
    have hways := Lib.hid (fun hz => wk_ways (d := s.1) (lv := lv) (t := T) (a := k) hm1 h6 hz)
    have hnone := Lib.hid (fun hz => wk_none (d := s.1) (lv := lv) (t := T) (a := k) hz)
    have hdn := Lib.hid (fun hz => allT_dn (t := T) (a := k) hz)
    have hTl : Hid (T.length = 256) := Lib.hid (own_length hown5)
    have hcell := own_cell hown5 (j := k) (by omega)
    have hfr : w5.frozen? ⟨g, k, none⟩ = false := hown5.frozenAt k
    have k256 : k < 256 := by omega
    obtain ⟨y, hy⟩ : ∃ y, T[k]?.getD 0 = y := ⟨_, rfl⟩
    rw [hy] at hcell hle0' hways hnone hdn
    replace hy := Lib.hid hy
    have hgr5' := Lib.hid hgr5
    replace hrun := Lib.hid hrun
    replace hle := Lib.hid hle
    replace hbd := Lib.hid hbd
    replace hn := Lib.hid hn
    clear hgr5
    by_cases hy0 : y = 0
    · have t1 := byte_same (y := 0) (q := 0) rfl hy0
      have hN : Hid (R = none) := Lib.hid (by rw [← hrun.out, hnone.out hy0]; rfl)
      have GF5 := Lib.hid (grow_trans GB.out hgr5'.out)
      clear hown5 hpop5 b5 hy0
      go_wp2_with fail
      go_ret
      exact ⟨8, rfl, GF5.out, .inl ⟨hR.out.trans hN.out, rfl⟩⟩
    have t1 := byte_unlike (y := 0) (q := 0) rfl hy0
    obtain ⟨hu1, hu2, hu3⟩ := dn_byte hy0
    have hset := own_set hown5 k (y - 1)
    rw [← hu1] at hset
    have hg6 := grow_put (grow_refl w5 (some g)) (p := ⟨g, k, none⟩) rfl (.int .u8 ((y.toNat : Int) - 1))
    have hpop6 := hpop5.kept hg6 (.inr (fun e => by
      have := (hpop5.lt gs rfl).1
      have h0 := hgs.out
      have h1 := hsz'.out
      have e' : gs = g := by simpa [Value.ownBlock] using e
      omega))
    have hgr6 := grow_put hgr5'.out (p := ⟨g, k, none⟩) rfl (.int .u8 ((y.toNat : Int) - 1))
    have b6 := (hg6.block wr.heap.size qg (fun e => by
      have := hgr5'.out.size
      have h0 := hgs.out
      have h1 := hsz'.out
      have h2 := hgr5'.out.size
      have h4 : wr.heap.size = g := by simpa using e
      have h5 := hrs.out
      omega)).trans b5
    obtain ⟨w6, hw6⟩ : ∃ w6, w5.setCell ⟨g, k, none⟩ (.int .u8 ((y.toNat : Int) - 1)) = w6 := ⟨_, rfl⟩
    rw [hw6] at hset hg6 hpop6 hgr6 b6
    clear hown5 hpop5 b5
    replace hset := Lib.hid hset
    replace hpop6 := Lib.hid hpop6
    replace hgr6 := Lib.hid hgr6
    replace b6 := Lib.hid b6
    replace hu1 := Lib.hid hu1
    clear hg6
    go_upto_region 8 with fail
    clear hw6 hcell hfr q0 q1
    have c6 := own_cell hset.out (j := k) k256
    rw [set_get (by rw [hTl.out]; exact k256)] at c6
    obtain ⟨q0, q1, _, _⟩ := two_cells b6.out
    have hF1 := (hgr6.out.block w.heap.size kg (by
      have h0 := hgs.out
      simp
      omega)).trans f1h.out
    obtain ⟨k0, k1, k2, k3, _, _⟩ := four_cells hF1
    clear hF1
    have hS6 : Hid (Sto (Old w6) w6 (.agg #[.slice A s.1.1.length ca, .slice B s.1.2.length cb, .slice N s.2.1.length cn, .slice L s.2.2.length cl]) s) := Lib.hid ((H.out.map fun _ _ hp hc => off_put hgr6.out hp hc).map fun _ _ hp hc => off_old hp hc)
    have hms6 : Hid (msr w6 g < msr wr g) := Lib.hid (by
      rw [msr_own hset.out, hms.out]
      have := hdn.out hy0
      omega)
    have hle6 : Hid (LeT (T.set k (y - 1)) t0) := Lib.hid ((dnO_some (by rw [dnO, hy.out, if_neg hy0])).2.2.1.trans hle.out)
    have hal6 : Hid (allT (T.set k (y - 1)) + 1 = allT T) := Lib.hid (hdn.out hy0)
    have hT6 : Hid (∀ t, wkF s.1 lv T k = t → t.bind (fun u => runT s.1 u st'.reverse) = R) := Lib.hid fun t ht => by rw [← ht]; exact hrun.out
    obtain ⟨T', hT'⟩ : ∃ T', T.set k (y - 1) = T' := ⟨_, rfl⟩
    obtain ⟨z, hz⟩ : ∃ z, y - 1 = z := ⟨_, rfl⟩
    have hw2 := hways.out hy0
    rw [hT', hz] at hw2
    rw [hz] at c6
    rw [hT'] at hset hle6 hal6
    clear hT' hways hnone hdn
    rcases hw2 with ⟨hc, hF⟩ | ⟨hz0, hl, hnr, hF⟩ | ⟨hz0, hl, hr, hF⟩
    · have hrel6 : Hid (LwR s t0 R g c lo w1 (.slice (some ⟨gs, 0, none⟩) n sc) w6) := Lib.hid ⟨st', T', some ⟨gs, 0, none⟩, sc, by rw [hn.out], by rw [hn.out]; exact hpop6.out, hset.out, hgr6.out, hT6.out _ hF, hle6.out, hrf'.out, by have := hal6.out; have := hbd.out; have := hn.out; omega⟩
      replace hz := Lib.hid hz
      replace hF := Lib.hid hF
      clear hy0 t1
      by_cases hz0 : z = 0
      · have hlv := hc.resolve_left (fun h => h hz0)
        subst hz0
        subst hlv
        replace c6 : w6.cell? ⟨g, k, none⟩ = some (.int .u8 0) := c6
        clear hc
        go_wp2_with fail
        go_roundw
        case rel => exact hrel6.out
        case measure => exact hms6.out
      · have hz1 : 0 < z.toNat := by
          have : z.toNat ≠ 0 := fun e => hz0 (nat_zero.1 e)
          omega
        clear hc hz0
        go_wp2_with fail
        go_roundw
        case rel => exact hrel6.out
        case measure => exact hms6.out
    · have hN : Hid (R = none) := Lib.hid (hT6.out _ hF).symm
      have has := Lib.hid (hle0'.out hy0)
      have c7 : (lv == -1) = false := by simpa using hl
      subst hz0
      replace c6 : w6.cell? ⟨g, k, none⟩ = some (.int .u8 0) := c6
      replace hz := Lib.hid hz
      replace hF := Lib.hid hF
      replace hnr := Lib.hid hnr
      clear hy0 t1 hl
      go_wp2_with fail
      with_reducible refine (readD_any _ s k lv has.out _ hS6.out).mono ?_
      rintro e w7 ⟨u, q, nd, rfl, hq, hu, hb7⟩
      rcases hq with ⟨hr, _⟩ | ⟨_, rfl, _⟩
      · exact absurd hr hnr.out
      obtain ⟨P, pc, rfl, _⟩ := id hu.open
      obtain ⟨pl, hpl⟩ : ∃ pl, nd.2.length = pl := ⟨_, rfl⟩
      obtain ⟨pv, hpv⟩ : ∃ pv, nd.1 = pv := ⟨_, rfl⟩
      rw [hpl, hpv]
      obtain ⟨w8, hw8, b8, hs8, hB8⟩ := box_pair' w7 (.int .i64 pv) (.slice P pl pc) 41
      have G8 := Lib.hid (grow_trans GB.out (grow_later hgr6.out ((hb7.trans (hB8.mono hb7.size)).mono hgr6.out.size)))
      replace hs8 := Lib.hid hs8
      clear hu hpl hpv hb7 hB8 b8 q0 q1 c6 k0 k1 k2 k3
      go_upto_region 10 with fail
      clear hw8
      go_wp2_with fail
      go_ret
      exact ⟨8, rfl, G8.out, .inl ⟨hR.out.trans hN.out, rfl⟩⟩
    · have has := Lib.hid (hle0'.out hy0)
      have c7 : (lv == -1) = false := by simpa using hl
      subst hz0
      replace c6 : w6.cell? ⟨g, k, none⟩ = some (.int .u8 0) := c6
      replace hz := Lib.hid hz
      replace hF := Lib.hid hF
      replace hr := Lib.hid hr
      clear hy0 t1 hl
      go_wp2_with fail
      with_reducible refine (readD_any _ s k lv has.out _ hS6.out).mono ?_
      rintro e w7 ⟨u, q, nd, rfl, hq, hu, hb7⟩
      rcases hq with ⟨_, rfl, hnd⟩ | ⟨hnr, _⟩
      case inr => exact absurd hr.out hnr
      obtain ⟨P, pc, rfl, _⟩ := id hu.open
      obtain ⟨pl, hpl⟩ : ∃ pl, nd.2.length = pl := ⟨_, rfl⟩
      obtain ⟨pv, hpv⟩ : ∃ pv, nd.1 = pv := ⟨_, rfl⟩
      rw [hpl, hpv] at hu ⊢
      obtain ⟨w8, hw8, b8, hs8, hB8⟩ := box_pair' w7 (.int .i64 pv) (.slice P pl pc) 41
      have G8 := Lib.hid (grow_later hgr6.out ((hb7.trans (hB8.mono hb7.size)).mono hgr6.out.size))
      have N8 := Lib.hid (hu.drop.below hB8)
      have own8 := Lib.hid (own_below (own_below hset.out hb7) hB8)
      have pop8 := Lib.hid (own_below (own_below hpop6.out hb7) hB8)
      have hmn := (blkN_read hr.out.1).1
      rw [← hnd] at hF hmn
      obtain ⟨⟨s1, s2, s3, _⟩, _⟩ := mayN_of hmn
      have hrfs := Lib.hid (refs_may hmn)
      replace hs8 := Lib.hid hs8
      obtain ⟨q0, q1, _, _⟩ := two_cells b8
      have b8h := Lib.hid b8
      clear hu hb7 hB8 b8 c6 k0 k1 k2 k3
      go_upto_region 10 with fail
      clear hw8
      go_wp2_with fail
      with_reducible refine (refs_any (.agg #[.int .i64 pv, .slice P pl pc]) nd s1 s2 s3 _ N8.out).mono ?_
      rintro e w9 ⟨u9, rfl, hu9, hb9⟩
      obtain ⟨m, hm9⟩ : ∃ m, (rfsT nd).length = m := ⟨_, rfl⟩
      have hm5 : m ≤ 5 := by
        rw [← hm9]
        exact Nat.le_trans (rfsL_len _ _) s3
      rw [hm9] at hu9
      have own9 := own_below own8.out hb9
      have pop9 := own_below pop8.out hb9
      have G9 := grow_later G8.out (hb9.mono G8.out.size)
      obtain ⟨v', w10, hr10, ho10, _, hb10⟩ := rf_app (ty := 108) pop9 hu9 (by have := hbd.out; omega) G9.size
      obtain ⟨A10, c10, rfl, _⟩ := own_any ho10
      have H10 := Lib.hid hr10
      have hl10 : (st' ++ (rfsT nd).reverse).length = n + m := by rw [List.length_append, List.length_reverse, hn.out, hm9]
      have own10 := own_under own9 hb10 (by have h0 := hgs.out; have h1 := hsz'.out; omega)
      have hrel10 : Hid (LwR s t0 R g c lo w1 (.slice A10 (n + m) c10) w10) := Lib.hid ⟨st' ++ (rfsT nd).reverse, T', A10, c10, by rw [hl10], by rw [hl10]; exact ho10, own10, grow_later G9 hb10, (by
        rw [List.reverse_append, List.reverse_reverse, runT_app]
        exact hT6.out _ hF.out), hle6.out, fun x hx => (List.mem_append.1 hx).elim (hrf'.out x) (fun h => rfsL_ok (by omega) (by omega) hrfs.out x (List.mem_reverse.1 h)), (by rw [hl10]; have := hal6.out; have := hbd.out; omega)⟩
      have hms10 : Hid (msr w10 g < msr wr g) := Lib.hid (by
        have := hms6.out
        rwa [msr_own hset.out, ← msr_own own10] at this)
      clear hr10 ho10 hb10 own9 pop9 G9 hu9 hb9 own10 hl10 hm9 hm5
      go_wp2_with (at_builtin; refine wpList_append_run rfl _ _ _ rfl rfl rfl H10.out ?_; clear H10)
      go_roundw
      case rel => exact hrel10.out
      case measure => exact hms10.out
end Go.Proofs.Ytmdlgnlfgfhkmaa

/-
  Package drop: leave, Leave, Loose. Conditions: those that each lemma states.
-/
namespace Go.Proofs.Ytmdlgnlfgfhkmaa
open Go.RowKit

/-- What leave tells, at a level. -/
noncomputable def gdE (s : Rm) (lv a : Int) : Int := if asE s a = 0 then (match wkF s.1 lv s.2.1 a.toNat with | some _ => 0 | none => 8) else asE s a
noncomputable def gdV (s : Rm) (lv a : Int) : Rm := if asE s a = 0 then (match wkF s.1 lv s.2.1 a.toNat with | some t => (s.1, t, s.2.2) | none => emptyR) else emptyR
theorem gd_no {s : Rm} {lv a : Int} (h : asE s a ≠ 0) : gdE s lv a = asE s a ∧ gdV s lv a = emptyR := ⟨by rw [gdE, if_neg h], by rw [gdV, if_neg h]⟩
theorem gd_bad {s : Rm} {lv a : Int} (h : asE s a = 0) (h' : wkF s.1 lv s.2.1 a.toNat = none) : gdE s lv a = 8 ∧ gdV s lv a = emptyR := ⟨by rw [gdE, if_pos h, h'], by rw [gdV, if_pos h, h']⟩
theorem gd_ok {s : Rm} {lv a : Int} {t : List UInt8} (h : asE s a = 0) (h' : wkF s.1 lv s.2.1 a.toNat = some t) : gdE s lv a = 0 ∧ gdV s lv a = (s.1, t, s.2.2) := ⟨by rw [gdE, if_pos h, h'], by rw [gdV, if_pos h, h']⟩
theorem wk_six (d : Dk) (t : List UInt8) (a : Nat) : wkF d 6 t a = lfO d t a := by rw [wkF, if_pos rfl]
theorem wk_one (d : Dk) (t : List UInt8) (a : Nat) : wkF d (-1) t a = dnO t a := by
  rw [wkF, if_neg (by decide)]
  rfl
theorem as_in5 {s : Rm} {n : Int} (h : asE s n = 0) : ∃ k : Nat, n = k ∧ mayR s = true ∧ 8 ≤ k ∧ k < 256 ∧ s.2.1[k]?.getD 0 ≠ 0 := by
  obtain ⟨k, e, hm, h8, h256, _, _, _, _, hx⟩ := as_read h
  exact ⟨k, e, hm, h8, h256, hx⟩
theorem gd_leave (s : Rm) (a : Int) : gdE s 6 a = lvE s a ∧ gdV s 6 a = lvV s a := by
  unfold gdE gdV lvE lvV
  rw [wk_six]
  exact ⟨rfl, rfl⟩
theorem gd_loose (s : Rm) (a : Int) : gdE s (-1) a = asE s a ∧ gdV s (-1) a = loV s a := by
  unfold gdE gdV loV
  rw [wk_one]
  by_cases h : asE s a = 0
  · obtain ⟨k, rfl, _, _, _, hx⟩ := as_in5 h
    rw [show ((k : Int)).toNat = k by omega, dnO_yes hx]
    exact ⟨by rw [if_pos h, h], rfl⟩
  · exact ⟨by rw [if_neg h], by rw [if_neg h, if_neg h]⟩
theorem wk_le {d : Dk} {lv : Int} {t u : List UInt8} {a : Nat} (h : wkF d lv t a = some u) : LeT u t := by
  unfold wkF at h
  split at h
  · exact (lf_some h).2.1
  · exact lvF_le d _ t a u h

theorem box_lv (w : World) (a b c d e f : Value) : ∃ w1, ((w.alloc (.cells #[a, b, c, d] 29)).alloc (.cells #[e, f] 63)).alloc (.cells #[.slice none 0 0, .slice none 0 0, .slice none 0 0, .slice none 0 0] 29) = w1 ∧
    w1.heap[w.heap.size]? = some (.cells #[a, b, c, d] 29 (0, 0)) ∧ w1.heap[w.heap.size + 1]? = some (.cells #[e, f] 63 (0, 0)) ∧ w1.heap[w.heap.size + 2]? = some (.cells #[.slice none 0 0, .slice none 0 0, .slice none 0 0, .slice none 0 0] 29 (0, 0)) ∧ w1.heap.size = w.heap.size + 3 ∧ Below w.heap.size w w1 := by
  refine ⟨_, rfl, alloc_block (alloc_block (heap_alloc_new _ _)), alloc_block ?_, ?_, by simp, (((Below.refl _ w).alloc (Nat.le_refl _) _).alloc (by simp) _).alloc (by simp; omega) _⟩
  · have := heap_alloc_new (w.alloc (.cells #[a, b, c, d] 29)) (.cells #[e, f] 63)
    rwa [World.size_alloc] at this
  · have := heap_alloc_new ((w.alloc (.cells #[a, b, c, d] 29)).alloc (.cells #[e, f] 63)) (.cells #[.slice none 0 0, .slice none 0 0, .slice none 0 0, .slice none 0 0] 29)
    rwa [World.size_alloc, World.size_alloc] at this

set_option maxRecDepth 100000 in
set_option maxHeartbeats 8000000 in
theorem leaveD_any (v : Value) (s : Rm) (a lv : Int) (hlv : -1 ≤ lv ∧ lv ≤ 6) (w : World) (h : Sto (Old w) w v s) :
    Calls Try.prog 27 #[v, .agg #[.int .i64 a, .int .i64 lv]] w fun e w' => ∃ u, e = .returned (.tuple #[u, .int .i64 (gdE s lv a)]) ∧ Sto (New w.heap.size w') w' u (gdV s lv a) ∧ Below w.heap.size w w' := by
  obtain ⟨A, ca, B, cb, N, cn, L, cl, rfl, _⟩ := id h.open
  obtain ⟨w1, hw1, f1, f2, f3, hsz, hB⟩ := box_lv w (.slice A s.1.1.length ca) (.slice B s.1.2.length cb) (.slice N s.2.1.length cn) (.slice L s.2.2.length cl) (.int .i64 a) (.int .i64 lv)
  have H := Lib.hid (h.below hB)
  clear h
  obtain ⟨k0, k1, k2, k3, _, kg⟩ := four_cells f1
  obtain ⟨j0, j1, _, jg⟩ := two_cells f2
  replace hsz := Lib.hid hsz
  replace f3 := Lib.hid f3
  by_cases ha : asE s a = 0
  case neg =>
    obtain ⟨hE, hV⟩ := gd_no (lv := lv) ha
    obtain ⟨q, hq⟩ : ∃ q, asE s a = q := ⟨_, rfl⟩
    rw [hq] at ha hE
    have hq1 : (q != 0) = true := by simpa using ha
    replace hq := Lib.hid hq
    replace hE := Lib.hid hE
    replace hV := Lib.hid hV
    clear ha
    go_enter Try.func27, Try.ntmps27
    go_upto_region 1 with fail
    clear hw1
    go_wp2_with fail
    with_reducible refine (heldD_any _ s a _ H.out).mono ?_
    rintro e w2 ⟨rfl, hb2⟩
    rw [hq.out]
    have F2 := (hb2.block (w.heap.size + 2) (by rw [hsz.out]; omega)).trans f3.out
    replace hb2 := Lib.hid (hB.trans (hb2.mono hB.size))
    clear k0 k1 k2 k3 kg j0 j1 jg f1 f2 hB
    obtain ⟨k0, k1, k2, k3, k4, k5⟩ := four_cells F2
    obtain ⟨W9, hW9, g9, gr9, gs9⟩ := put_four (a' := .slice none 0 0) (b' := .slice none 0 0) (c' := .slice none 0 0) (d' := .slice none 0 0) F2
    obtain ⟨n0, n1, n2, n3, _, _⟩ := four_cells g9
    have hB9 := Lib.hid ((hb2).out.grown gr9 (hb2).out.size (fun q e => by cases e; omega))
    replace g9 := Lib.hid g9
    replace F2 := Lib.hid F2
    clear gr9 gs9
    go_wp2_with fail
    refine bodyPost_ret (v := .tuple #[.agg #[.slice none 0 0, .slice none 0 0, .slice none 0 0, .slice none 0 0], .int .i64 q]) (by simp [results, Try.results27, go_sem, n0, n1, n2, n3]) rfl ?_
    rw [hE.out, hV.out]
    exact ⟨_, rfl, sto_empty _ _, hB9.out⟩
  obtain ⟨k, hk, hm, h8, h256, hx⟩ := as_in5 ha
  subst hk
  have hax := Lib.hid ha
  have hlen := Lib.hid (mayT_len (mayR_of hm).2.1)
  obtain ⟨R, hR⟩ : ∃ R, wkF s.1 lv s.2.1 ((k : Int)).toNat = R := ⟨_, rfl⟩
  have hrd : Hid (Rfd ((k : Int), lv)) := Lib.hid ⟨by show (8 : Int) ≤ k; omega, by show (k : Int) < 256; omega, hlv.1, hlv.2⟩
  replace hR := Lib.hid hR
  replace hx := Lib.hid hx
  clear ha hlv h8 h256
  go_enter Try.func27, Try.ntmps27
  go_upto_region 1 with fail
  clear hw1
  go_wp2_with fail
  with_reducible refine (heldD_any _ s (k : Int) _ H.out).mono ?_
  rintro e w2 ⟨rfl, hb2⟩
  rw [hax.out]
  have F1 := (hb2.block w.heap.size kg).trans f1
  have F2 := (hb2.block (w.heap.size + 1) jg).trans f2
  have F3 := Lib.hid ((hb2.block (w.heap.size + 2) (by rw [hsz.out]; omega)).trans f3.out)
  have H2 := Lib.hid (H.out.below hb2)
  have s2 : Hid (w.heap.size + 3 ≤ w2.heap.size) := Lib.hid (by have := hb2.size; have := hsz.out; omega)
  have B2 := Lib.hid (hB.trans (hb2.mono hB.size))
  clear k0 k1 k2 k3 kg j0 j1 jg f1 f2 hb2 hB
  obtain ⟨k0, k1, k2, k3, _, kg⟩ := four_cells F1
  obtain ⟨j0, j1, _, jg⟩ := two_cells F2
  go_wp2_with fail
  obtain ⟨_, _, e9, l1, m1, hby⟩ := rBy_byt (B := w2.heap.size) (fun _ h => h) H2.out.parts.2.1
  cases e9
  with_reducible refine (clone_any N s.2.1.length cn s.2.1 (Lib.hid rfl) (by rw [hlen.out]; omega) _ hby).mono ?_
  rintro e w3 ⟨u, rfl, hu3, hb3⟩
  obtain ⟨g, c2, rfl, hg1, hg2, hg3, hg4⟩ := own_head hu3 (by rw [hlen.out]; omega)
  rw [hlen.out] at hu3 ⊢
  have G1 := (hb3.block w.heap.size kg).trans F1
  have G2 := (hb3.block (w.heap.size + 1) jg).trans F2
  have G3 := Lib.hid ((hb3.block (w.heap.size + 2) (by have := s2.out; omega)).trans F3.out)
  have H3 := Lib.hid (show Sto (Off g w3) w3 _ s from H2.out.map fun _ _ hp hc => off_low hb3 hg1 hp hc)
  have O3 := Lib.hid hu3
  have B3 := Lib.hid (B2.out.trans (hb3.mono B2.out.size))
  have hgw : Hid (w.heap.size + 3 ≤ g) := Lib.hid (by have := s2.out; omega)
  clear k0 k1 k2 k3 kg j0 j1 jg F1 F2 F3 hb3 B2 H2 hby l1 m1 hu3 hg1
  obtain ⟨k0, k1, k2, k3, _, kg⟩ := four_cells G1
  obtain ⟨j0, j1, _, jg⟩ := two_cells G2
  go_wp2_with fail
  with_reducible refine (lower_any g c2 w2.heap.size s.2.1 _ s hm (k : Int) lv hrd.out (LeT.refl _) _ O3.out H3.out).mono ?_
  rintro e w4 ⟨q, rfl, hgr, hq⟩
  have E1 := (hgr.block w.heap.size kg (by have := hgw.out; simp; omega)).trans G1
  have E3 := (hgr.block (w.heap.size + 2) (by have := G3.out; exact (Array.getElem?_eq_some_iff.1 this).1) (by have := hgw.out; simp; omega)).trans G3.out
  have B4 := Lib.hid (B3.out.grown hgr B3.out.size (fun q e => by cases e; have := hgw.out; omega))
  have H4 := Lib.hid (show Sto (Old w4) w4 _ s from (H3.out.map fun _ _ hp hc => off_put hgr hp hc).map fun _ _ hp hc => off_old hp hc)
  clear k0 k1 k2 k3 kg j0 j1 jg G1 G2 G3 B3 H3 O3 hgr
  rcases hq with ⟨hN, rfl⟩ | ⟨t, hS, rfl, hown⟩
  · obtain ⟨hE, hV⟩ := gd_bad hax.out hN
    replace hE := Lib.hid hE
    replace hV := Lib.hid hV
    replace hN := Lib.hid hN
    clear E1
    obtain ⟨k0, k1, k2, k3, k4, k5⟩ := four_cells E3
    obtain ⟨W9, hW9, g9, gr9, gs9⟩ := put_four (a' := .slice none 0 0) (b' := .slice none 0 0) (c' := .slice none 0 0) (d' := .slice none 0 0) E3
    obtain ⟨n0, n1, n2, n3, _, _⟩ := four_cells g9
    have hB9 := Lib.hid ((B4).out.grown gr9 (B4).out.size (fun q e => by cases e; omega))
    replace g9 := Lib.hid g9
    replace E3 := Lib.hid E3
    clear gr9 gs9
    go_wp2_with fail
    refine bodyPost_ret (v := .tuple #[.agg #[.slice none 0 0, .slice none 0 0, .slice none 0 0, .slice none 0 0], .int .i64 8]) (by simp [results, Try.results27, go_sem, n0, n1, n2, n3]) rfl ?_
    rw [hE.out, hV.out]
    exact ⟨_, rfl, sto_empty _ _, hB9.out⟩
  · obtain ⟨hE, hV⟩ := gd_ok hax.out hS
    have hle := wk_le hS
    have htl : t.length = 256 := hle.len.trans hlen.out
    have hmS : mayR (s.1, t, s.2.2) = true := mayR_mk (mayR_of hm).1 (hle.may (mayR_of hm).2.1) (mayR_of hm).2.2
    have hsm := Lib.hid (smallR_may hmS)
    have T4 : Hid (Sto (Old w4) w4 (.agg #[.slice A s.1.1.length ca, .slice B s.1.2.length cb, .slice (some ⟨g, 0, none⟩) 256 c2, .slice L s.2.2.length cl]) (s.1, t, s.2.2)) := Lib.hid (Sto.mk H4.out.parts.1 (stab_by.drop (own_by hown)) H4.out.parts.2.2)
    replace hE := Lib.hid hE
    replace hV := Lib.hid hV
    replace hS := Lib.hid hS
    obtain ⟨k0, k1, k2, k3, _, kg⟩ := four_cells E1
    replace E3 := Lib.hid E3
    clear hown hle
    go_wp2_with fail
    with_reducible refine (twinR_any _ (s.1, t, s.2.2) hsm.out _ T4.out).mono ?_
    rintro e w5 ⟨A5, a5, B5, b5, N5, n5, L5, l5, rfl, h5, hb5⟩
    have F5 := (hb5.block (w.heap.size + 2) (by have := B4.out.size; have := (Array.getElem?_eq_some_iff.1 E3.out).1; omega)).trans E3.out
    have s5 : Hid (w.heap.size + 2 < w4.heap.size) := Lib.hid (Array.getElem?_eq_some_iff.1 E3.out).1
    obtain ⟨o0, o1, o2, o3, _, _⟩ := four_cells F5
    obtain ⟨W9, hW9, g9, gr9, gs9⟩ := put_four (a' := .slice A5 s.1.1.length a5) (b' := .slice B5 s.1.2.length b5) (c' := .slice N5 t.length n5) (d' := .slice L5 s.2.2.length l5) F5
    obtain ⟨n0, n1, n2, n3, _, _⟩ := four_cells g9
    have hfin := Lib.hid (show Sto (New w.heap.size W9) W9 (.agg #[.slice A5 s.1.1.length a5, .slice B5 s.1.2.length b5, .slice N5 t.length n5, .slice L5 s.2.2.length l5]) (s.1, t, s.2.2) from
      (h5.grown gr9 (fun q e => by cases e; exact s5.out)).new B4.out.size (Below.refl _ _))
    have hB9 := Lib.hid ((B4.out.trans (hb5.mono B4.out.size)).grown gr9 (Nat.le_trans B4.out.size hb5.size) (fun q e => by cases e; omega))
    replace F5 := Lib.hid F5
    replace g9 := Lib.hid g9
    replace htl := Lib.hid htl
    clear gr9 gs9 h5 hb5 k0 k1 k2 k3 kg E1
    go_wp2_with fail
    refine bodyPost_ret (v := .tuple #[.agg #[.slice A5 s.1.1.length a5, .slice B5 s.1.2.length b5, .slice N5 t.length n5, .slice L5 s.2.2.length l5], .int .i64 0]) (by simp [results, Try.results27, go_sem, n0, n1, n2, n3]) rfl ?_
    rw [hE.out, hV.out]
    exact ⟨_, rfl, hfin.out, hB9.out⟩
end Go.Proofs.Ytmdlgnlfgfhkmaa

/-
  Package drop: Leave, Loose. Conditions: those that each lemma states.
-/
namespace Go.Proofs.Ytmdlgnlfgfhkmaa
open Go.RowKit

set_option maxRecDepth 100000 in
set_option maxHeartbeats 8000000 in
theorem leaveV_any (v : Value) (s : Rm) (n : Int) (w : World) (h : Sto (Old w) w v s) :
    Calls Try.prog 11 #[v, .int .i64 n] w fun e w' => ∃ u, e = .returned (.tuple #[u, .int .i64 (lvE s n)]) ∧ Sto (New w.heap.size w') w' u (lvV s n) ∧ Below w.heap.size w w' := by
  obtain ⟨A, ca, B, cb, N, cn, L, cl, w1, rfl, hw1, f1, f2, hsz, hB, H⟩ := box_sto2 h
  clear h
  obtain ⟨k0, k1, k2, k3, _, kg⟩ := four_cells f1
  replace hsz := Lib.hid hsz
  replace f2 := Lib.hid f2
  go_enter Try.func11, Try.ntmps11
  go_upto_region 1 with fail
  clear hw1
  go_wp2_with fail
  with_reducible refine (leaveD_any _ s n 6 (by decide) _ H.out).mono ?_
  rintro e w2 ⟨u, rfl, hu, hb2⟩
  rw [(gd_leave s n).1]
  rw [(gd_leave s n).2] at hu
  obtain ⟨q, hq⟩ : ∃ q, gdE s 6 n = q := ⟨_, rfl⟩
  have hq' := Lib.hid ((gd_leave s n).1.symm.trans hq)
  clear hq
  rw [hq'.out]
  obtain ⟨V, hV⟩ : ∃ V, gdV s 6 n = V := ⟨_, rfl⟩
  have hV' := Lib.hid ((gd_leave s n).2.symm.trans hV)
  clear hV
  rw [hV'.out] at hu
  obtain ⟨P, p, Q, r, Y, y, X, x, rfl, _⟩ := id hu.open
  have F2 := (hb2.block (w.heap.size + 1) (by rw [hsz.out]; omega)).trans f2.out
  obtain ⟨o0, o1, o2, o3, _, _⟩ := four_cells F2
  obtain ⟨W9, hW9, g9, gr9, gs9⟩ := put_four (a' := .slice P V.1.1.length p) (b' := .slice Q V.1.2.length r) (c' := .slice Y V.2.1.length y) (d' := .slice X V.2.2.length x) F2
  obtain ⟨n0, n1, n2, n3, _, _⟩ := four_cells g9
  have hfin := Lib.hid (show Sto (New w.heap.size W9) W9 _ V from (hu.grown gr9 (fun q e => by cases e; rw [hsz.out]; omega)).new hB.size (Below.refl _ _))
  have hB9 := Lib.hid ((hB.trans (hb2.mono hB.size)).grown gr9 (Nat.le_trans hB.size hb2.size) (fun q e => by cases e; omega))
  replace F2 := Lib.hid F2
  replace g9 := Lib.hid g9
  clear gr9 gs9 hu hb2 k0 k1 k2 k3 kg f1
  go_wp2_with fail
  refine bodyPost_ret (v := .tuple #[.agg #[.slice P V.1.1.length p, .slice Q V.1.2.length r, .slice Y V.2.1.length y, .slice X V.2.2.length x], .int .i64 q]) (by simp [results, Try.results11, go_sem, n0, n1, n2, n3]) rfl ?_
  rw [hq'.out, hV'.out]
  exact ⟨_, rfl, hfin.out, hB9.out⟩
set_option maxRecDepth 100000 in
set_option maxHeartbeats 8000000 in
theorem looseV_any (v : Value) (s : Rm) (n : Int) (w : World) (h : Sto (Old w) w v s) :
    Calls Try.prog 12 #[v, .int .i64 n] w fun e w' => ∃ u, e = .returned (.tuple #[u, .int .i64 (asE s n)]) ∧ Sto (New w.heap.size w') w' u (loV s n) ∧ Below w.heap.size w w' := by
  obtain ⟨A, ca, B, cb, N, cn, L, cl, w1, rfl, hw1, f1, f2, hsz, hB, H⟩ := box_sto2 h
  clear h
  obtain ⟨k0, k1, k2, k3, _, kg⟩ := four_cells f1
  replace hsz := Lib.hid hsz
  replace f2 := Lib.hid f2
  go_enter Try.func12, Try.ntmps12
  go_upto_region 1 with fail
  clear hw1
  go_wp2_with fail
  with_reducible refine (leaveD_any _ s n (-1) (by decide) _ H.out).mono ?_
  rintro e w2 ⟨u, rfl, hu, hb2⟩
  rw [(gd_loose s n).1]
  rw [(gd_loose s n).2] at hu
  obtain ⟨q, hq⟩ : ∃ q, gdE s (-1) n = q := ⟨_, rfl⟩
  have hq' := Lib.hid ((gd_loose s n).1.symm.trans hq)
  clear hq
  rw [hq'.out]
  obtain ⟨V, hV⟩ : ∃ V, gdV s (-1) n = V := ⟨_, rfl⟩
  have hV' := Lib.hid ((gd_loose s n).2.symm.trans hV)
  clear hV
  rw [hV'.out] at hu
  obtain ⟨P, p, Q, r, Y, y, X, x, rfl, _⟩ := id hu.open
  have F2 := (hb2.block (w.heap.size + 1) (by rw [hsz.out]; omega)).trans f2.out
  obtain ⟨o0, o1, o2, o3, _, _⟩ := four_cells F2
  obtain ⟨W9, hW9, g9, gr9, gs9⟩ := put_four (a' := .slice P V.1.1.length p) (b' := .slice Q V.1.2.length r) (c' := .slice Y V.2.1.length y) (d' := .slice X V.2.2.length x) F2
  obtain ⟨n0, n1, n2, n3, _, _⟩ := four_cells g9
  have hfin := Lib.hid (show Sto (New w.heap.size W9) W9 _ V from (hu.grown gr9 (fun q e => by cases e; rw [hsz.out]; omega)).new hB.size (Below.refl _ _))
  have hB9 := Lib.hid ((hB.trans (hb2.mono hB.size)).grown gr9 (Nat.le_trans hB.size hb2.size) (fun q e => by cases e; omega))
  replace F2 := Lib.hid F2
  replace g9 := Lib.hid g9
  clear gr9 gs9 hu hb2 k0 k1 k2 k3 kg f1
  go_wp2_with fail
  refine bodyPost_ret (v := .tuple #[.agg #[.slice P V.1.1.length p, .slice Q V.1.2.length r, .slice Y V.2.1.length y, .slice X V.2.2.length x], .int .i64 q]) (by simp [results, Try.results12, go_sem, n0, n1, n2, n3]) rfl ?_
  rw [hq'.out, hV'.out]
  exact ⟨_, rfl, hfin.out, hB9.out⟩
end Go.Proofs.Ytmdlgnlfgfhkmaa

/-
  Layer 8: the laws' alive. Conditions: those that each lemma states.
-/
namespace Go.Proofs.Ytmdlgnlfgfhkmaa
open Go.RowKit

theorem row_lies {W : World} {g : Nat} {xs : List UInt8} {n : Nat} (h : W.heap[g]? = some (.cells (rowA xs) 5 (0, 0))) (hl : xs.length = n) (hb : n ≤ 9223372036854775807) : rBy (Old W) W [.slice (some ⟨g, 0, none⟩) n n] xs := by
  subst hl
  have hg := (Array.getElem?_eq_some_iff.1 h).1
  refine ⟨some ⟨g, 0, none⟩, xs.length, rfl, Nat.le_refl _, hb, fun i x hi => ⟨⟨g, 0, none⟩, [.int .u8 (x.toNat : Int)], rfl, rfl, fun j v hj => ?_, rfl⟩⟩
  have hj0 : j = 0 := by
    have := (List.getElem?_eq_some_iff.1 hj).1
    simp at this
    omega
  subst hj0
  simp at hj
  subst hj
  refine ⟨by show (Addr.add _ _).block < _; rw [add_block]; exact hg, ?_⟩
  have e : (⟨g, 0, none⟩ : Addr).add (i * 1 + 0) = ⟨g, i, none⟩ := by simp [add_off]
  rw [e]
  simp [World.cell?, h, rowA, u8s, hi]

/-- What is free in a new store, and what Take does to it. -/
theorem new_free : (freeL newR).length = 248 ∧ freeL newR = 8 :: 9 :: (freeL newR).drop 2 := by decide +kernel
theorem may_new : mayR newR = true := mayR_mk may_zero may_zeros may_zeros
theorem new_take {b : List UInt8} (hb : b.length = 128) : tkE newR b = 0 ∧ tkN newR b = 8 ∧ tkK newR = 8 ∧ (tkV newR b).1.1.length = 256 ∧ (tkV newR b).1.2.length = 1 ∧ (tkV newR b).2.1.length = 256 ∧ (tkV newR b).2.2.length = 256 ∧ (tkV newR b).2.1[8]?.getD 0 = 1 := by
  have h0 : tkE newR b = 0 := tk_yes may_new hb (by rw [new_free.2]; simp) (by rw [newR, zero_len2]; omega)
  have hk : tkK newR = 8 := by rw [tkK, new_free.2]; rfl
  obtain ⟨_, _, _, _, _, _, _, _, hN, hV⟩ := tk_ok h0
  have hc := (tk_counts h0).1
  rw [hk] at hN hV hc
  refine ⟨h0, hN, hk, ?_, ?_, ?_, ?_, hc⟩
  · rw [hV, wrD_fst]; exact zero_len1
  · rw [hV, wrD_len]; rfl
  · rw [hV, List.length_set]; exact zeros_length 256
  · rw [hV]; exact zeros_length 256

end Go.Proofs.Ytmdlgnlfgfhkmaa

/-
  Layer 8: what the laws want: lists of numbers in a bag; what Free and Take tell, opened. Conditions: those that each lemma states.
-/
namespace Go.Proofs.Ytmdlgnlfgfhkmaa
open Go.RowKit

def OldZ (v : Value) (xs : List Int) : World → Prop := fun w => rInts (Old w) w [v] xs
theorem lasts_oldZ (v : Value) (xs : List Int) : Lasts (OldZ v xs) := fun _ _ h hb => stab_ints.old h hb
theorem intsN_len (l : List Nat) : (intsN l).length = l.length := by simp [intsN]
theorem intsN_get {l : List Nat} {i : Nat} {x : Nat} (h : l[i]? = some x) : (intsN l)[i]? = some (x : Int) := by simp [intsN, h]
/-- The numbers of a list, cell by cell. -/
theorem ints_at {w : World} {X : Option Addr} {m c : Nat} {l : List Nat} (h : rInts (Old w) w [.slice X m c] (intsN l)) : m = l.length ∧ m ≤ c ∧ ∀ (i x : Nat), l[i]? = some x → ∃ ad, X = some ad ∧ (ad.add i).block < w.heap.size ∧ w.cell? (ad.add i) = some (.int .i64 (x : Int)) := by
  obtain ⟨X', c', e, h1, _, h2⟩ := rInts_open h
  simp only [Value.slice.injEq] at e
  obtain ⟨rfl, hm, rfl⟩ := e
  rw [intsN_len] at h1 hm
  refine ⟨hm, by omega, fun i x hi => ?_⟩
  obtain ⟨ad, e1, e2, e3, _⟩ := h2 i _ (intsN_get hi)
  exact ⟨ad, e1, e2, e3⟩
/-- What Take tells, opened. -/
theorem takeR_open (v u : Value) (s : Rm) (b : List UInt8) (w : World) (h : Sto (Old w) w v s) (hu : rBy (Old w) w [u] b) :
    Calls Try.prog 13 #[v, u] w fun e W' => ∃ A ca B cb N cn L cl, e = .returned (.tuple #[.agg #[.slice A (tkV s b).1.1.length ca, .slice B (tkV s b).1.2.length cb, .slice N (tkV s b).2.1.length cn, .slice L (tkV s b).2.2.length cl], .int .i64 (tkN s b), .int .i64 (tkE s b)]) ∧
      Sto (New w.heap.size W') W' (.agg #[.slice A (tkV s b).1.1.length ca, .slice B (tkV s b).1.2.length cb, .slice N (tkV s b).2.1.length cn, .slice L (tkV s b).2.2.length cl]) (tkV s b) ∧ Below w.heap.size w W' := by
  refine (takeR_any v u s b w h hu).mono ?_
  rintro e W' ⟨t, rfl, ht, hb⟩
  obtain ⟨A, ca, B, cb, N, cn, L, cl, rfl, _⟩ := id ht.open
  exact ⟨A, ca, B, cb, N, cn, L, cl, rfl, ht, hb⟩
theorem shareR_open (v : Value) (s : Rm) (n : Int) (w : World) (h : Sto (Old w) w v s) :
    Calls Try.prog 20 #[v, .int .i64 n] w fun e W' => ∃ A ca B cb N cn L cl, e = .returned (.tuple #[.agg #[.slice A (shV s n).1.1.length ca, .slice B (shV s n).1.2.length cb, .slice N (shV s n).2.1.length cn, .slice L (shV s n).2.2.length cl], .int .i64 (shE s n)]) ∧
      Sto (New w.heap.size W') W' (.agg #[.slice A (shV s n).1.1.length ca, .slice B (shV s n).1.2.length cb, .slice N (shV s n).2.1.length cn, .slice L (shV s n).2.2.length cl]) (shV s n) ∧ Below w.heap.size w W' := by
  refine (shareR_any v s n w h).mono ?_
  rintro e W' ⟨t, rfl, ht, hb⟩
  obtain ⟨A, ca, B, cb, N, cn, L, cl, rfl, _⟩ := id ht.open
  exact ⟨A, ca, B, cb, N, cn, L, cl, rfl, ht, hb⟩
/-- The tables of a store, cell by cell, in every later world. -/
theorem tables_far {w : World} {s : Rm} {A B N L : Option Addr} {n1 n2 ca cb cn cl : Nat} (hm : mayR s = true) (h : Sto (Old w) w (.agg #[.slice A n1 ca, .slice B n2 cb, .slice N s.2.1.length cn, .slice L s.2.2.length cl]) s) :
    ∃ ad bd, N = some ad ∧ L = some bd ∧ s.2.1.length = 256 ∧ s.2.2.length = 256 ∧ 256 ≤ cn ∧ 256 ≤ cl ∧ Hid (∀ j, j < 256 → ∀ W, Below w.heap.size w W → W.cell? (ad.add j) = some (.int .u8 ((s.2.1[j]?.getD 0).toNat : Int)) ∧ W.cell? (bd.add j) = some (.int .u8 ((s.2.2[j]?.getD 0).toNat : Int))) := by
  obtain ⟨ad, bd, e1, e2, h1, h2, h3, h4, h5, h6, hc⟩ := tables_at hm h.parts.2.1 h.parts.2.2
  exact ⟨ad, bd, e1, e2, h1, h2, h3, h4, Lib.hid fun j hj W hW => ⟨(hW.cell (by rw [add_block]; exact h5)).trans (hc j hj).1, (hW.cell (by rw [add_block]; exact h6)).trans (hc j hj).2⟩⟩
end Go.Proofs.Ytmdlgnlfgfhkmaa

/-
  Package drop: Make. Conditions: those that each lemma states.
-/
namespace Go.Proofs.Ytmdlgnlfgfhkmaa
open Go.RowKit

theorem mkE_store {s : Rm} {n : Nd} (h : mayR s = false) : mkE s n = 8 := by rw [mkE, h]; rfl
theorem mkE_node {s : Rm} {n : Nd} (h : mayN n = false) : mkE s n = 8 := by rw [mkE, h]; simp

set_option maxRecDepth 100000 in
set_option maxHeartbeats 8000000 in
theorem makeV_any (v u : Value) (s : Rm) (n : Nd) (w : World) (h : Sto (Old w) w v s) (hu : Nod (Old w) w u n) :
    Calls Try.prog 9 #[v, u] w fun e w' => ∃ t, e = .returned (.tuple #[t, .int .i64 (mkN s n), .int .i64 (mkE s n)]) ∧ Sto (New w.heap.size w') w' t (mkV s n) ∧ Below w.heap.size w w' := by
  obtain ⟨A, ca, B, cb, N, cn, L, cl, rfl, _⟩ := id h.open
  obtain ⟨I, ci, rfl, _⟩ := id hu.open
  obtain ⟨w1, hw1, f1, fn, f2, hsz, hB⟩ := box_three3 (w := w) (.slice A s.1.1.length ca) (.slice B s.1.2.length cb) (.slice N s.2.1.length cn) (.slice L s.2.2.length cl) (.int .i64 n.1) (.slice I n.2.length ci)
  have H := Lib.hid (h.below hB)
  have U := Lib.hid (hu.below hB)
  clear h hu
  obtain ⟨k0, k1, k2, k3, _, kg⟩ := four_cells f1
  obtain ⟨p0, p1, _, pg⟩ := two_cells fn
  replace hsz := Lib.hid hsz
  replace f2 := Lib.hid f2
  cases hm : mayR s with
  | false =>
    have hE := mkE_store (n := n) hm
    obtain ⟨hN, hV⟩ := mk_no (s := s) (n := n) (by rw [hE]; decide)
    have e1 := chkR_bad hm
    replace hE := Lib.hid hE
    replace hN := Lib.hid hN
    replace hV := Lib.hid hV
    go_enter Try.func9, Try.ntmps9
    go_upto_region 1 with fail
    clear hw1
    go_wp2_with fail
    with_reducible refine (checkR_any _ s _ H.out).mono ?_
    rintro e w2 ⟨rfl, hb2⟩
    rw [e1]
    have F2 := (hb2.block (w.heap.size + 2) (by rw [hsz.out]; omega)).trans f2.out
    replace hb2 := Lib.hid (hB.trans (hb2.mono hB.size))
    clear k0 k1 k2 k3 kg p0 p1 pg f1 fn hB e1 hm
    obtain ⟨k0, k1, k2, k3, k4, k5⟩ := four_cells F2
    obtain ⟨W9, hW9, g9, gr9, gs9⟩ := put_four (a' := .slice none 0 0) (b' := .slice none 0 0) (c' := .slice none 0 0) (d' := .slice none 0 0) F2
    obtain ⟨n0, n1, n2, n3, _, _⟩ := four_cells g9
    have hB9 := Lib.hid ((hb2).out.grown gr9 (hb2).out.size (fun q e => by cases e; omega))
    replace g9 := Lib.hid g9
    replace F2 := Lib.hid F2
    clear gr9 gs9
    go_wp2_with fail
    refine bodyPost_ret (v := .tuple #[.agg #[.slice none 0 0, .slice none 0 0, .slice none 0 0, .slice none 0 0], .int .i64 0, .int .i64 8]) (by simp [results, Try.results9, go_sem, n0, n1, n2, n3]) rfl ?_
    rw [hE.out, hN.out, hV.out]
    exact ⟨_, rfl, sto_empty _ _, hB9.out⟩
  | true =>
  have e1 := chkR_ok hm
  obtain ⟨b, hb⟩ : ∃ b, wrN n = b := ⟨_, rfl⟩
  obtain ⟨q, hq⟩ : ∃ q, chkN n = q := ⟨_, rfl⟩
  replace hb := Lib.hid hb
  replace hq := Lib.hid hq
  have hlen := Lib.hid (mayT_len (mayR_of hm).2.1)
  go_enter Try.func9, Try.ntmps9
  go_upto_region 1 with fail
  clear hw1
  go_wp2_with fail
  with_reducible refine (checkR_any _ s _ H.out).mono ?_
  rintro e w2 ⟨rfl, hb2⟩
  rw [e1]
  have F1 := (hb2.block w.heap.size kg).trans f1
  have Fn := (hb2.block (w.heap.size + 1) pg).trans fn
  have F2 := (hb2.block (w.heap.size + 2) (by rw [hsz.out]; omega)).trans f2.out
  have H2 := H.out.below hb2
  have U2 := U.out.below hb2
  have s2 : Hid (w.heap.size + 3 ≤ w2.heap.size) := Lib.hid (by have := hb2.size; have := hsz.out; omega)
  have B2 := Lib.hid (hB.trans (hb2.mono hB.size))
  clear k0 k1 k2 k3 kg p0 p1 pg f1 fn hb2 hB f2 e1 H U
  obtain ⟨k0, k1, k2, k3, _, kg⟩ := four_cells F1
  obtain ⟨p0, p1, _, pg⟩ := two_cells Fn
  replace F2 := Lib.hid F2
  replace H2 := Lib.hid H2
  replace U2 := Lib.hid U2
  go_wp2_with fail
  with_reducible refine (nodeWrite_any _ n _ U2.out).mono ?_
  rintro e w3 ⟨u3, rfl, h3, hb3⟩
  rw [hq.out]
  rw [hb.out] at h3
  obtain ⟨E, ce, rfl, _⟩ := id (rBy_open h3)
  have G1 := (hb3.block w.heap.size kg).trans F1
  have Gn := (hb3.block (w.heap.size + 1) pg).trans Fn
  have G2 := (hb3.block (w.heap.size + 2) (by have := s2.out; omega)).trans F2.out
  have H3 := H2.out.below hb3
  have U3 := U2.out.below hb3
  have s3 : Hid (w.heap.size + 3 ≤ w3.heap.size) := Lib.hid (by have := hb3.size; have := s2.out; omega)
  have B3 := Lib.hid (B2.out.trans (hb3.mono B2.out.size))
  have R3 := Lib.hid (stab_by.drop h3)
  clear k0 k1 k2 k3 kg p0 p1 pg F1 Fn hb3 F2 H2 U2 B2 h3 s2
  cases hn : mayN n with
  | false =>
    have hE := mkE_node (s := s) hn
    obtain ⟨hN, hV⟩ := mk_no (s := s) (n := n) (by rw [hE]; decide)
    have hq8 : q = 8 := by rw [← hq.out, chkN, hn]; rfl
    subst hq8
    replace hE := Lib.hid hE
    replace hN := Lib.hid hN
    replace hV := Lib.hid hV
    clear H3 U3 G1 Gn hn hm
    obtain ⟨k0, k1, k2, k3, k4, k5⟩ := four_cells G2
    obtain ⟨W9, hW9, g9, gr9, gs9⟩ := put_four (a' := .slice none 0 0) (b' := .slice none 0 0) (c' := .slice none 0 0) (d' := .slice none 0 0) G2
    obtain ⟨n0, n1, n2, n3, _, _⟩ := four_cells g9
    have hB9 := Lib.hid ((B3).out.grown gr9 (B3).out.size (fun q e => by cases e; omega))
    replace g9 := Lib.hid g9
    replace G2 := Lib.hid G2
    clear gr9 gs9
    go_wp2_with fail
    refine bodyPost_ret (v := .tuple #[.agg #[.slice none 0 0, .slice none 0 0, .slice none 0 0, .slice none 0 0], .int .i64 0, .int .i64 8]) (by simp [results, Try.results9, go_sem, n0, n1, n2, n3]) rfl ?_
    rw [hE.out, hN.out, hV.out]
    exact ⟨_, rfl, sto_empty _ _, hB9.out⟩
  | true =>
  have hq0 : q = 0 := by rw [← hq.out, chkN, hn]; rfl
  subst hq0
  have hbk : Hid (blkN n = b) := Lib.hid (by rw [← hb.out, wrN, hn]; rfl)
  have hways := Lib.hid (mk_ways hm hn)
  obtain ⟨k0, k1, k2, k3, _, kg⟩ := four_cells G1
  obtain ⟨p0, p1, _, pg⟩ := two_cells Gn
  replace G2 := Lib.hid G2
  replace H3 := Lib.hid H3
  replace U3 := Lib.hid U3
  go_wp2_with fail
  obtain ⟨_, _, e9, l1, m1, hby⟩ := rBy_byt (B := w3.heap.size) (fun _ h => h) H3.out.parts.2.1
  cases e9
  with_reducible refine (clone_any N s.2.1.length cn s.2.1 (Lib.hid rfl) (by rw [hlen.out]; omega) _ hby).mono ?_
  rintro e w4 ⟨u4, rfl, hu4, hb4⟩
  obtain ⟨g, c2, rfl, hg1, hg2, hg3, hg4⟩ := own_head hu4 (by rw [hlen.out]; omega)
  rw [hlen.out] at hu4 ⊢
  have F1 := (hb4.block w.heap.size kg).trans G1
  have Fn := (hb4.block (w.heap.size + 1) pg).trans Gn
  have F2 := Lib.hid ((hb4.block (w.heap.size + 2) (by have := s3.out; omega)).trans G2.out)
  have H4 := Lib.hid (show Sto (Off g w4) w4 _ s from H3.out.map fun _ _ hp hc => off_low hb4 hg1 hp hc)
  have U4 := Lib.hid (show Nod (Off g w4) w4 _ n from U3.out.map fun _ _ hp hc => off_low hb4 hg1 hp hc)
  have R4 := Lib.hid (show rBy (Off g w4) w4 _ b from stab_by _ _ _ _ _ _ (fun _ _ hp hc => off_low hb4 hg1 hp hc) R3.out)
  have O4 := Lib.hid hu4
  have B4 := Lib.hid (B3.out.trans (hb4.mono B3.out.size))
  have hgw : Hid (w.heap.size + 3 ≤ g) := Lib.hid (by have := s3.out; omega)
  clear k0 k1 k2 k3 kg p0 p1 pg G1 Gn G2 hb4 H3 U3 R3 B3 hby l1 m1 hu4 hg1 s3
  obtain ⟨k0, k1, k2, k3, _, kg⟩ := four_cells F1
  obtain ⟨p0, p1, _, pg⟩ := two_cells Fn
  obtain ⟨r, hr⟩ : ∃ r, ctE s.2.1 n.2 = r := ⟨_, rfl⟩
  go_wp2_with fail
  with_reducible refine (refer_any g c2 w3.heap.size s.2.1 _ n hn hlen.out _ O4.out U4.out).mono ?_
  rintro e w5 ⟨rfl, hgr, hown⟩
  rw [hr] at hown ⊢
  have E1 := (hgr.block w.heap.size kg (by have := hgw.out; simp; omega)).trans F1
  have E3 := (hgr.block (w.heap.size + 2) (by have := F2.out; exact (Array.getElem?_eq_some_iff.1 this).1) (by have := hgw.out; simp; omega)).trans F2.out
  have B5 := Lib.hid (B4.out.grown hgr B4.out.size (fun q e => by cases e; have := hgw.out; omega))
  have H5 := Lib.hid (show Sto (Old w5) w5 _ s from (H4.out.map fun _ _ hp hc => off_put hgr hp hc).map fun _ _ hp hc => off_old hp hc)
  have R5 := Lib.hid (show rBy (Old w5) w5 _ b from stab_by _ _ _ _ _ _ (fun _ _ hp hc => off_old hp hc) (stab_by _ _ _ _ _ _ (fun _ _ hp hc => off_put hgr hp hc) R4.out))
  clear k0 k1 k2 k3 kg p0 p1 pg F1 Fn F2 B4 H4 U4 R4 O4 hgr
  rcases hways.out with ⟨hc, hE, hN, hV⟩ | ⟨hc, hE, hN, hV⟩
  · rw [hr] at hc hE
    have hr1 : (r != 0) = true := by simpa using hc
    replace hE := Lib.hid hE
    replace hN := Lib.hid hN
    replace hV := Lib.hid hV
    replace hr := Lib.hid hr
    clear E1 hown hc hm hn hways
    obtain ⟨k0, k1, k2, k3, k4, k5⟩ := four_cells E3
    obtain ⟨W9, hW9, g9, gr9, gs9⟩ := put_four (a' := .slice none 0 0) (b' := .slice none 0 0) (c' := .slice none 0 0) (d' := .slice none 0 0) E3
    obtain ⟨n0, n1, n2, n3, _, _⟩ := four_cells g9
    have hB9 := Lib.hid ((B5).out.grown gr9 (B5).out.size (fun q e => by cases e; omega))
    replace g9 := Lib.hid g9
    replace E3 := Lib.hid E3
    clear gr9 gs9
    go_wp2_with fail
    refine bodyPost_ret (v := .tuple #[.agg #[.slice none 0 0, .slice none 0 0, .slice none 0 0, .slice none 0 0], .int .i64 0, .int .i64 r]) (by simp [results, Try.results9, go_sem, n0, n1, n2, n3]) rfl ?_
    rw [hE.out, hN.out, hV.out]
    exact ⟨_, rfl, sto_empty _ _, hB9.out⟩
  · rw [hr] at hc
    subst hc
    rw [hbk.out] at hE hN hV
    have hctl : (ctV s.2.1 n.2).length = 256 := by rw [ctV_len, hlen.out]
    have T5 : Hid (Sto (Old w5) w5 (.agg #[.slice A s.1.1.length ca, .slice B s.1.2.length cb, .slice (some ⟨g, 0, none⟩) 256 c2, .slice L s.2.2.length cl]) (ctS s n)) := Lib.hid (Sto.mk H5.out.parts.1 (stab_by.drop (own_by (hown rfl))) H5.out.parts.2.2)
    obtain ⟨S, hS⟩ : ∃ S, ctS s n = S := ⟨_, rfl⟩
    rw [hS] at T5 hE hN hV
    obtain ⟨V, hVV⟩ : ∃ V, tkV S b = V := ⟨_, rfl⟩
    obtain ⟨x, hx⟩ : ∃ x, tkN S b = x := ⟨_, rfl⟩
    obtain ⟨y, hy⟩ : ∃ y, tkE S b = y := ⟨_, rfl⟩
    rw [hVV] at hV
    rw [hx] at hN
    rw [hy] at hE
    replace hE := Lib.hid hE
    replace hN := Lib.hid hN
    replace hV := Lib.hid hV
    replace hr := Lib.hid hr
    replace hS := Lib.hid hS
    replace hVV := Lib.hid hVV
    replace hx := Lib.hid hx
    replace hy := Lib.hid hy
    obtain ⟨k0, k1, k2, k3, _, kg⟩ := four_cells E1
    replace E3 := Lib.hid E3
    clear hown hm hn hways hctl
    go_wp2_with fail
    with_reducible refine (takeR_any _ _ S b _ T5.out R5.out).mono ?_
    rintro e w6 ⟨t6, rfl, h6, hb6⟩
    rw [hx.out, hy.out]
    rw [hVV.out] at h6
    obtain ⟨A6, a6, B6, b6, N6, n6, L6, l6, rfl, _⟩ := id h6.open
    have F6 := (hb6.block (w.heap.size + 2) (by exact (Array.getElem?_eq_some_iff.1 E3.out).1)).trans E3.out
    have s6 : Hid (w.heap.size + 2 < w5.heap.size) := Lib.hid (Array.getElem?_eq_some_iff.1 E3.out).1
    obtain ⟨o0, o1, o2, o3, _, _⟩ := four_cells F6
    obtain ⟨W9, hW9, g9, gr9, gs9⟩ := put_four (a' := .slice A6 V.1.1.length a6) (b' := .slice B6 V.1.2.length b6) (c' := .slice N6 V.2.1.length n6) (d' := .slice L6 V.2.2.length l6) F6
    obtain ⟨n0, n1, n2, n3, _, _⟩ := four_cells g9
    have hfin := Lib.hid (show Sto (New w.heap.size W9) W9 _ V from (h6.grown gr9 (fun q e => by cases e; exact s6.out)).new B5.out.size (Below.refl _ _))
    have hB9 := Lib.hid ((B5.out.trans (hb6.mono B5.out.size)).grown gr9 (Nat.le_trans B5.out.size hb6.size) (fun q e => by cases e; omega))
    replace F6 := Lib.hid F6
    replace g9 := Lib.hid g9
    clear gr9 gs9 h6 hb6 k0 k1 k2 k3 kg E1
    go_wp2_with fail
    refine bodyPost_ret (v := .tuple #[.agg #[.slice A6 V.1.1.length a6, .slice B6 V.1.2.length b6, .slice N6 V.2.1.length n6, .slice L6 V.2.2.length l6], .int .i64 x, .int .i64 y]) (by simp [results, Try.results9, go_sem, n0, n1, n2, n3]) rfl ?_
    rw [hE.out, hN.out, hV.out]
    exact ⟨_, rfl, hfin.out, hB9.out⟩
end Go.Proofs.Ytmdlgnlfgfhkmaa

/-
  Layer 9: the contracts as laws want them; the laws' alive. Conditions: those that each lemma states.
-/
namespace Go.Proofs.Ytmdlgnlfgfhkmaa
open Go.RowKit

theorem makeV_open (v u : Value) (s : Rm) (n : Nd) (w : World) (h : Sto (Old w) w v s) (hu : Nod (Old w) w u n) :
    Calls Try.prog 9 #[v, u] w fun e W' => ∃ A ca B cb N cn L cl, e = .returned (.tuple #[.agg #[.slice A (mkV s n).1.1.length ca, .slice B (mkV s n).1.2.length cb, .slice N (mkV s n).2.1.length cn, .slice L (mkV s n).2.2.length cl], .int .i64 (mkN s n), .int .i64 (mkE s n)]) ∧
      Sto (New w.heap.size W') W' (.agg #[.slice A (mkV s n).1.1.length ca, .slice B (mkV s n).1.2.length cb, .slice N (mkV s n).2.1.length cn, .slice L (mkV s n).2.2.length cl]) (mkV s n) ∧ Below w.heap.size w W' := by
  refine (makeV_any v u s n w h hu).mono ?_
  rintro e W' ⟨t, rfl, ht, hb⟩
  obtain ⟨A, ca, B, cb, N, cn, L, cl, rfl, _⟩ := id ht.open
  exact ⟨A, ca, B, cb, N, cn, L, cl, rfl, ht, hb⟩
theorem leaveV_open (v : Value) (s : Rm) (n : Int) (w : World) (h : Sto (Old w) w v s) :
    Calls Try.prog 11 #[v, .int .i64 n] w fun e W' => ∃ A ca B cb N cn L cl, e = .returned (.tuple #[.agg #[.slice A (lvV s n).1.1.length ca, .slice B (lvV s n).1.2.length cb, .slice N (lvV s n).2.1.length cn, .slice L (lvV s n).2.2.length cl], .int .i64 (lvE s n)]) ∧
      Sto (New w.heap.size W') W' (.agg #[.slice A (lvV s n).1.1.length ca, .slice B (lvV s n).1.2.length cb, .slice N (lvV s n).2.1.length cn, .slice L (lvV s n).2.2.length cl]) (lvV s n) ∧ Below w.heap.size w W' := by
  refine (leaveV_any v s n w h).mono ?_
  rintro e W' ⟨t, rfl, ht, hb⟩
  obtain ⟨A, ca, B, cb, N, cn, L, cl, rfl, _⟩ := id ht.open
  exact ⟨A, ca, B, cb, N, cn, L, cl, rfl, ht, hb⟩
theorem looseV_open (v : Value) (s : Rm) (n : Int) (w : World) (h : Sto (Old w) w v s) :
    Calls Try.prog 12 #[v, .int .i64 n] w fun e W' => ∃ A ca B cb N cn L cl, e = .returned (.tuple #[.agg #[.slice A (loV s n).1.1.length ca, .slice B (loV s n).1.2.length cb, .slice N (loV s n).2.1.length cn, .slice L (loV s n).2.2.length cl], .int .i64 (asE s n)]) ∧
      Sto (New w.heap.size W') W' (.agg #[.slice A (loV s n).1.1.length ca, .slice B (loV s n).1.2.length cb, .slice N (loV s n).2.1.length cn, .slice L (loV s n).2.2.length cl]) (loV s n) ∧ Below w.heap.size w W' := by
  refine (looseV_any v s n w h).mono ?_
  rintro e W' ⟨t, rfl, ht, hb⟩
  obtain ⟨A, ca, B, cb, N, cn, L, cl, rfl, _⟩ := id ht.open
  exact ⟨A, ca, B, cb, N, cn, L, cl, rfl, ht, hb⟩

/-- A node with no items, made in a new store, and left. -/
theorem new_made : mkE newR zeroN = 0 ∧ mkN newR zeroN = 8 ∧ (mkV newR zeroN).2.1.length = 256 ∧ (mkV newR zeroN).2.1[8]?.getD 0 = 1 ∧ lvE (mkV newR zeroN) 8 = 0 ∧ (lvV (mkV newR zeroN) 8).2.1.length = 256 ∧ (lvV (mkV newR zeroN) 8).2.1[8]?.getD 0 = 0 := by
  have hn : mayN zeroN = true := mayN_mk ⟨by decide, by decide, by decide, fun h => absurd h (by decide)⟩ (fun i hi => absurd hi (by simp [zeroN]))
  have hv : ctV newR.2.1 zeroN.2 = newR.2.1 := by
    generalize newR.2.1 = t
    rfl
  have he : ctE newR.2.1 zeroN.2 = 0 := by
    generalize newR.2.1 = t
    rfl
  have hs : ctS newR zeroN = newR := by rw [ctS, hv]
  obtain ⟨t1, t2, _⟩ := new_take (blkN_length hn)
  obtain ⟨hE, hN⟩ : mkE newR zeroN = 0 ∧ mkN newR zeroN = 8 := by
    rcases mk_ways may_new hn with ⟨hc, _⟩ | ⟨_, e, e2, _⟩
    · exact absurd he hc
    · rw [hs] at e e2
      exact ⟨e.trans t1, e2.trans t2⟩
  obtain ⟨k, e1, _, _, _, _, _, _, _, c1, _, _, hl, hl0⟩ := mk_counts hE
  obtain ⟨k', e2, _, _, hz, _, _, _, l1, l2⟩ := mk_left (s := newR) (n := zeroN) ⟨⟨by decide, by decide⟩, fun x hx => absurd hx (by simp [zeroN])⟩ hE
  have hk : k = 8 := by omega
  have hk' : k' = 8 := by omega
  subst hk
  subst hk'
  refine ⟨hE, hN, hl, c1, l1, ?_, ?_⟩
  · rw [show (8 : Int) = ((8 : Nat) : Int) from rfl, l2]
    exact hl0
  · rw [show (8 : Int) = ((8 : Nat) : Int) from rfl, l2]
    exact hz

set_option maxRecDepth 100000 in
set_option maxHeartbeats 4000000 in
theorem alive9 (w : World) : Calls Try.prog 8 #[] w fun e w' => e = .returned (.bool true) ∧ Below w.heap.size w w' := by
  obtain ⟨hE, hN, hTl, hT8, hE2, hUl, hU8⟩ := new_made
  obtain ⟨T, hT⟩ : ∃ T, mkV newR zeroN = T := ⟨_, rfl⟩
  rw [hT] at hTl hT8 hE2 hUl hU8
  obtain ⟨U, hU⟩ : ∃ U, lvV T 8 = U := ⟨_, rfl⟩
  rw [hU] at hUl hU8
  replace hE := Lib.hid hE
  replace hN := Lib.hid hN
  replace hT := Lib.hid hT
  replace hE2 := Lib.hid hE2
  replace hU := Lib.hid hU
  replace hT8 := Lib.hid hT8
  replace hU8 := Lib.hid hU8
  replace hTl := Lib.hid hTl
  replace hUl := Lib.hid hUl
  go_enter Try.func8, Try.ntmps8
  go_wp2_with fail
  with_reducible refine (newR_any _).mono ?_
  rintro e w1 ⟨t, rfl, ht, hb1⟩
  have H1 := Lib.hid ht.drop
  replace hb1 := Lib.hid hb1
  clear ht
  go_wp2_with fail
  with_reducible refine (makeV_open _ _ newR zeroN _ H1.out (nod_zero _ _)).mono ?_
  rintro e w2 ⟨A, ca, B, cb, N, cn, L, cl, rfl, h2, hb2⟩
  rw [hE.out, hN.out]
  rw [hT.out] at h2 ⊢
  have B2 := Lib.hid (hb1.out.trans (hb2.mono hb1.out.size))
  obtain ⟨w3, hw3, hg3, hB3, _, hs3⟩ := bag_four ((Bag.nil w2).add (F := OldR _ T) h2.drop (lasts_oldR _ _)) (Below.refl _ _) (.slice A T.1.1.length ca) (.slice B T.1.2.length cb) (.slice N T.2.1.length cn) (.slice L T.2.2.length cl) 29
  have HG3 := Lib.hid hg3
  have B3 := Lib.hid (B2.out.trans (hB3.mono B2.out.size))
  replace hs3 := Lib.hid hs3
  obtain ⟨k0, k1, k2, k3, kg⟩ := hg3.at 0 rfl
  clear hg3 hB3 hb2 h2 hb1 H1 B2
  go_upto_region 2 with fail
  clear hw3
  go_wp2_with fail
  with_reducible refine (leaveV_open _ T 8 _ (HG3.out.at 1 rfl)).mono ?_
  rintro e w4 ⟨A4, a4, B4, b4, N4, n4, L4, l4, rfl, h4, hb4⟩
  rw [hE2.out]
  rw [hU.out] at h4 ⊢
  obtain ⟨w5, hw5, hg5, hB5, _, hs5⟩ := bag_four ((HG3.out.below hb4).add (F := OldR _ U) h4.drop (lasts_oldR _ _)) (Below.refl _ _) (.slice A4 U.1.1.length a4) (.slice B4 U.1.2.length b4) (.slice N4 U.2.1.length n4) (.slice L4 U.2.2.length l4) 29
  have HG5 := Lib.hid hg5
  have B5 := Lib.hid (B3.out.trans ((hb4.trans (hB5.mono hb4.size)).mono B3.out.size))
  replace hs5 := Lib.hid hs5
  clear k0 k1 k2 k3 kg hg5 hB5 hb4 h4 HG3 B3
  obtain ⟨k0, k1, k2, k3, kg⟩ := HG5.out.at 0 rfl
  obtain ⟨j0, j1, j2, j3, jg⟩ := HG5.out.at 2 rfl
  go_upto_region 3 with fail
  clear hw5
  obtain ⟨_, _, e9, _, _, hA⟩ := rBy_open (HG5.out.at 1 rfl : Sto (Old w5) w5 _ U).parts.2.1
  cases e9
  obtain ⟨ad, rfl, _, hc⟩ := hA 8 (by rw [hUl.out]; omega)
  obtain ⟨_, _, e9, _, _, hA2⟩ := rBy_open (HG5.out.at 3 rfl : Sto (Old w5) w5 _ T).parts.2.1
  cases e9
  obtain ⟨bd, rfl, _, hc2⟩ := hA2 8 (by rw [hTl.out]; omega)
  rw [hU8.out] at hc
  rw [hT8.out] at hc2
  replace hc : w5.cell? ⟨ad.block, ad.off + 8, none⟩ = some (.int .u8 0) := by simpa [Addr.add] using hc
  replace hc2 : w5.cell? ⟨bd.block, bd.off + 8, none⟩ = some (.int .u8 1) := by simpa [Addr.add] using hc2
  rw [hUl.out] at k2
  rw [hTl.out] at j2
  clear hA hA2
  go_wp2_with fail
  go_ret
  exact ⟨by simp, B5.out⟩
end Go.Proofs.Ytmdlgnlfgfhkmaa

/-
  The document's answers of layers 5, 6: SameItems, Same, Place. Conditions: those that each lemma states.
-/
namespace Go.Proofs.Ytmdlgnlfgfhkmaa
open Go.RowKit

set_option maxRecDepth 100000 in
set_option maxHeartbeats 4000000 in
theorem refSameIs_any (v u : Value) (xs ys : List It) (w : World) (hv : rIts (Old w) w [v] xs) (hu : rIts (Old w) w [u] ys) :
    Calls Try.prog 35 #[v, u] w fun e w' => e = .returned (.bool (sameIs xs ys)) ∧ Below w.heap.size w w' := by
  obtain ⟨A, a, rfl, la, ma⟩ := its_open hv
  obtain ⟨B, b, rfl, lb, mb⟩ := its_open hu
  have HA := Lib.hid hv
  have HB := Lib.hid hu
  clear hv hu
  have hdef : Hid (sameIs xs ys = decide (xs = ys)) := Lib.hid rfl
  generalize sameIs xs ys = res at hdef ⊢
  obtain ⟨n, hn⟩ : ∃ n, xs.length = n := ⟨_, rfl⟩
  obtain ⟨m, hm⟩ : ∃ m, ys.length = m := ⟨_, rfl⟩
  rw [hn] at la HA ⊢
  rw [hm] at lb HB ⊢
  replace hn := Lib.hid hn
  replace hm := Lib.hid hm
  by_cases h1 : n = m
  · subst h1
    go_enter Try.func35, Try.ntmps35
    go_wp2_with fail
    go_loopw [5] (fun i wr => ∃ k : Nat, k ≤ n ∧ i = .int .i64 k ∧ xs.take k = ys.take k ∧ Below w.heap.size w wr) (fun i _ => n - (intOf i).toNat)
    case atStart => exact ⟨0, by omega, rfl, rfl, Below.refl _ _⟩
    case round =>
      obtain ⟨k, hk, rfl, ha, hb⟩ := hrel
      replace ha := Lib.hid ha
      replace hb := Lib.hid hb
      by_cases hlt : k < n
      · obtain ⟨x, hx⟩ : ∃ x, xs[k]? = some x := ⟨_, List.getElem?_eq_getElem (by rw [hn.out]; exact hlt)⟩
        obtain ⟨y, hy⟩ : ∃ y, ys[k]? = some y := ⟨_, List.getElem?_eq_getElem (by rw [hm.out]; exact hlt)⟩
        obtain ⟨ad, E, ce, rfl, _, _, _, FX⟩ := its_old HA.out hx
        obtain ⟨bd, E', ce', rfl, _, _, _, FY⟩ := its_old HB.out hy
        replace hx := Lib.hid hx
        replace hy := Lib.hid hy
        have FX' := Lib.hid (fun W (hW : Below wr.heap.size wr W) => FX W (hb.out.trans (hW.mono hb.out.size)))
        have FY' := Lib.hid (fun W (hW : Below wr.heap.size wr W) => FY W (hb.out.trans (hW.mono hb.out.size)))
        have i1 : (0 : Int) ≤ (k : Int) := by omega
        have i2 : (k : Int) < (n : Int) := by omega
        obtain ⟨s, hs⟩ : ∃ s, sameI x y = s := ⟨_, rfl⟩
        have hs' := Lib.hid hs
        clear hs FX FY
        unfold itV at *
        go_wp2_with fail
        refine wp_region_fx (by kernel_rfl) (fun W => Below wr.heap.size wr W) (fun _ => none) (fun i => match i with
          | 8 => some (.bool s)
          | _ => none) (by kernel_rfl) (Below.refl _ _).drew (fun w w' h hb => h.trans (hb.mono h.size)) (fun j φ x W W' hp => by cases hp) ?_
        repeat (first
          | (refine wpAs_skip rfl ?_; simp only [Act.put, List.setIfInBounds_toArray, List.set_cons_zero, List.set_cons_succ])
          | (refine wpAs_pure (v := ?_) rfl rfl ?_ ?_; rotate_left; (intro W hC hE; clear hE; (obtain ⟨⟨z0, z1, z2, z3, z4⟩, _⟩ := FX'.out W hC; obtain ⟨⟨y0, y1, y2, y3, y4⟩, _⟩ := FY'.out W hC); clear hC; go_simp; done); simp only [Act.put, List.setIfInBounds_toArray, List.set_cons_zero, List.set_cons_succ])
          | (refine wpAs_pure (v := ?_) rfl rfl ?_ ?_; rotate_left; (intro W hC hE; clear hE; (obtain ⟨⟨z0, z1, z2, z3, z4⟩, _⟩ := FX'.out W hC; obtain ⟨⟨y0, y1, y2, y3, y4⟩, _⟩ := FY'.out W hC); clear hC; go_simp; with_reducible rfl); simp only [Act.put, List.setIfInBounds_toArray, List.set_cons_zero, List.set_cons_succ]))
        refine wpAs_fixed rfl rfl rfl ?_ ?_
        · intro W hC hE
          refine does_enter (f := 57) (args := #[.agg #[.int .u8 (x.1.1.toNat : Int), .int .u32 x.1.2.1, .int .u32 x.1.2.2, .int .i64 x.2.1, .slice E x.2.2.length ce], .agg #[.int .u8 (y.1.1.toNat : Int), .int .u32 y.1.2.1, .int .u32 y.1.2.2, .int .i64 y.2.1, .slice E' y.2.2.length ce']]) ?_ ?_
          · go_simp
          · refine (refSameI_any _ _ x y W (FX'.out W hC).2 (FY'.out W hC).2).mono ?_
            (rintro e W' ⟨rfl, hg⟩; rw [hs'.out])
            exact ⟨_, rfl, rfl, hg⟩
        simp only [Act.put, List.setIfInBounds_toArray, List.set_cons_zero, List.set_cons_succ]
        repeat (first
          | (refine wpAs_skip rfl ?_; simp only [Act.put, List.setIfInBounds_toArray, List.set_cons_zero, List.set_cons_succ])
          | (refine wpAs_pure (v := ?_) rfl rfl ?_ ?_; rotate_left; (intro W hC hE; clear hE; skip; clear hC; go_simp; done); simp only [Act.put, List.setIfInBounds_toArray, List.set_cons_zero, List.set_cons_succ])
          | (refine wpAs_pure (v := ?_) rfl rfl ?_ ?_; rotate_left; (intro W hC hE; clear hE; skip; clear hC; go_simp; with_reducible rfl); simp only [Act.put, List.setIfInBounds_toArray, List.set_cons_zero, List.set_cons_succ]))
        refine wpAs_end fun W hC hE => ?_
        have BW := Lib.hid (hb.out.trans (hC.mono hb.out.size))
        clear hE hC
        cases s with
        | true =>
          have he := Lib.hid (sameI_eq hs'.out)
          go_wp2_with fail
          go_roundw
          case rel => exact ⟨k + 1, by omega, by go_num, take_eq_succ ha.out hx.out hy.out he.out, BW.out⟩
          case measure => simp [intOf]; omega
        | false =>
          have hne := Lib.hid (show res = false by rw [hdef.out]; simpa using ne_of_at hx.out hy.out (fun h => by have := hs'.out; rw [h, sameI_self] at this; cases this))
          go_wp2_with fail
          go_ret
          exact ⟨ret_bool hne.out.symm, BW.out⟩
      · have hge : n ≤ k := by omega
        have he : Hid (res = true) := Lib.hid (by
          have := ha.out
          rw [List.take_of_length_le (by rw [hn.out]; exact hge), List.take_of_length_le (by rw [hm.out]; exact hge)] at this
          rw [hdef.out]
          simpa using this)
        go_wp2_with fail
        go_ret
        exact ⟨ret_bool he.out.symm, hb.out⟩
  · have he : Hid (res = false) := Lib.hid (by
      rw [hdef.out]
      simp only [decide_eq_false_iff_not]
      intro e
      have := hn.out
      rw [e, hm.out] at this
      exact h1 this.symm)
    have h1' : ((n : Int) != m) = true := by simp; omega
    go_enter Try.func35, Try.ntmps35
    go_wp2_with fail
    go_ret
    exact ⟨ret_bool he.out.symm, Below.refl _ _⟩

set_option maxRecDepth 100000 in
set_option maxHeartbeats 2000000 in
theorem refSameN_any (v u : Value) (a b : Nd) (w : World) (hv : Nod (Old w) w v a) (hu : Nod (Old w) w u b) :
    Calls Try.prog 17 #[v, u] w fun e w' => e = .returned (.bool (sameN a b)) ∧ Below w.heap.size w w' := by
  obtain ⟨d, rfl, _, hd⟩ := hv
  obtain ⟨d', rfl, _, hd'⟩ := hu
  have hp := Lib.hid (sameN_parts a b)
  generalize sameN a b = res at hp ⊢
  obtain ⟨w1, hw1, b1, hs1, hB1⟩ := box_pair' w (.int .i64 a.1) d 41
  obtain ⟨w2, hw2, b2, hs2, hB2⟩ := box_pair' w1 (.int .i64 b.1) d' 41
  obtain ⟨f1, f2, _, lt1⟩ := two_cells ((hB2.block w.heap.size (by omega)).trans b1)
  obtain ⟨g1, g2, _, _⟩ := two_cells b2
  have hB0 := hB1.trans (hB2.mono hB1.size)
  have HD := Lib.hid (stab_its.old hd hB0)
  have HD' := Lib.hid (stab_its.old hd' hB0)
  obtain ⟨_, _, rfl, _⟩ := its_open hd
  obtain ⟨_, _, rfl, _⟩ := its_open hd'
  replace hB0 := Lib.hid hB0
  replace hs1 := Lib.hid hs1
  replace hs2 := Lib.hid hs2
  replace b1 := Lib.hid b1
  replace b2 := Lib.hid b2
  clear hd hd' hB1 hB2
  by_cases h : a.1 = b.1
  · have h1 : (a.1 == b.1) = true := by simpa using h
    have hfin := Lib.hid (show sameIs a.2 b.2 = res by rw [hp.out]; simp [h])
    replace h := Lib.hid h
    go_enter Try.func17, Try.ntmps17
    go_upto_region 1 with fail
    clear hw1 hw2
    go_wp2_with fail
    with_reducible refine (refSameIs_any _ _ a.2 b.2 _ HD.out HD'.out).mono ?_
    rintro e3 w3 ⟨rfl, hb3⟩
    rw [hfin.out]
    have BF := Lib.hid (hB0.out.trans (hb3.mono hB0.out.size))
    clear hb3
    go_wp2_with fail
    go_ret
    exact ⟨rfl, BF.out⟩
  · have h1 : (a.1 == b.1) = false := by simpa using h
    have hfin := Lib.hid (show res = false by rw [hp.out]; simp [h])
    replace h := Lib.hid h
    go_enter Try.func17, Try.ntmps17
    go_upto_region 1 with fail
    clear hw1 hw2
    go_wp2_with fail
    go_ret
    exact ⟨ret_bool hfin.out.symm, hB0.out⟩

end Go.Proofs.Ytmdlgnlfgfhkmaa
