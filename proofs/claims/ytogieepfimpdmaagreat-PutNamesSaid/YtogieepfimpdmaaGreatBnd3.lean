/-
  Lemmas on the program and on the document's answers, gathered: NdCut2, NdTwin, NdCheck, NdWrite, NdRead, NdPlace, NdBack, NdTwin2, PuCopy, PuIns, PuIns2, PuRep, Cnt, CntUp, CntAlive, CntPlain, RmPlain, Room, RmChk, RmFree, RmTake, RmNode, FnPlain, DrPlain, FnKeep, FnSpan, Spoil05, NdBag, FnPlace. Conditions: those that each lemma states.
-/
import Derived.Test.YtogieepfimpdmaaGreatBnd2
import Derived.WalkLawsBesides
import Derived.Deep.CutBlock
import Derived.Deep.CutRange
import Derived.Laws.StructEq
import Derived.Laws.CopyOwn
import Derived.Deep.RegionLaw
import Derived.Lib.Overlaps
import Derived.Lib.AppendZerosOnto
import Derived.StillTailTactics
import Derived.Maps.AppendAt
import Derived.RangeFuncBox
/-
  Package node: cut. Conditions: those that each lemma states.
-/
namespace Go.Proofs.YtogieepfimpdmaaGreat
open Go.RowKit

/-! ### Rows of items of the call's own -/
theorem item_info0 : (Tryz.prog.info? 40).map (fun i => (i.zero, i.size, i.bytes)) = some (some (.agg #[.int .u8 0, .int .u32 0, .int .u32 0, .int .i64 0, .slice none 0 0]), 5, 48) := by kernel_rfl
theorem its_push {w : World} {lo : Nat} {A : Option Addr} {c : Nat} {xs : List It} (h : RowOf rIt 5 40 lo w A c xs) (g : Nat) (s : It) (d : Value) (m n : Nat) (hn : xs.length = n) (hg : w.heap[g]? = some (.cells #[.int .u8 (s.1.1.toNat : Int), .int .u32 s.1.2.1, .int .u32 s.1.2.2, .int .i64 s.2.1, d] 40 (0, 0))) (hs : n < 100000) (hbase : lo ≤ w.heap.size) (hin : InI s) (hx : rBy (NewBut lo A w) w [d] s.2.2) :
    ∃ A' c' w', (Builtin.append_ #[43, 43] 43 #[.slice A n c, .slice (some ⟨g, 0, none⟩) 1 m]).run Tryz.prog w = .ok (.slice A' (n + 1) c') w' ∧ RowOf rIt 5 40 lo w' A' c' (xs ++ [s]) ∧ w.grownBy w' (A.map (·.block)) ∧ Below lo w w' := by
  subst hn
  obtain ⟨i0, hi, hz0, hz1, hz2⟩ := info_parts item_info0
  obtain ⟨E, ce, rfl, _⟩ := id (rBy_open hx)
  exact RowOf.push stab_it h 43 43 i0 (.agg #[.int .u8 0, .int .u32 0, .int .u32 0, .int .i64 0, .slice none 0 0]) 48 Tryz.underlying43 hi hz0 hz1 hz2 rfl (by decide) ⟨g, 0, none⟩ m _ s rfl (World.news_of_block (cs := #[.int .u8 (s.1.1.toNat : Int), .int .u32 s.1.2.1, .int .u32 s.1.2.2, .int .i64 s.2.1, .slice E s.2.2.length ce]) hg) (fun u hu => by
    simp at hu
    rcases hu with rfl | rfl | rfl | rfl | rfl <;> rfl) (by unfold maxLen; omega) (by omega) hbase (rIt_mk hin hx)

/-! ### What is cut off -/
def cutTo (b : List UInt8) : Nat → Option (List It × List UInt8)
  | 0 => some ([], b)
  | k + 1 => match cutTo b k with
    | none => none
    | some (l, r) => if okR r then some (l ++ [itR r], r.drop (itN r).toNat) else none
theorem cutTo_yes {b : List UInt8} {k : Nat} {l : List It} {r : List UInt8} (h : cutTo b k = some (l, r)) (h' : okR r = true) : cutTo b (k + 1) = some (l ++ [itR r], r.drop (itN r).toNat) := by
  simp only [cutTo, h, h', if_true]
theorem cutTo_no {b : List UInt8} {k : Nat} {l : List It} {r : List UInt8} (h : cutTo b k = some (l, r)) (h' : okR r = false) : cutTo b (k + 1) = none := by
  simp only [cutTo, h, h']
  rfl
theorem cutTo_none {b : List UInt8} {k j : Nat} (h : cutTo b k = none) (hj : k ≤ j) : cutTo b j = none := by
  induction j with
  | zero =>
    have : k = 0 := by omega
    rw [this] at h
    exact h
  | succ j ih =>
    rcases Nat.lt_or_ge k (j + 1) with h1 | h1
    · simp only [cutTo, ih (by omega)]
    · have : k = j + 1 := by omega
      rw [this] at h
      exact h
theorem cutTo_bytes {b : List UInt8} : ∀ {k : Nat} {l : List It} {r : List UInt8}, cutTo b k = some (l, r) → b = itsB l ++ r ∧ l.length = k ∧ (∀ x ∈ l, mayI x = true ∧ InI x)
  | 0, l, r, h => by
    simp only [cutTo, Option.some.injEq, Prod.mk.injEq] at h
    obtain ⟨rfl, rfl⟩ := h
    exact ⟨by simp [itsB], rfl, fun x hx => by simp at hx⟩
  | k + 1, l, r, h => by
    cases e : cutTo b k with
    | none => simp [cutTo, e] at h
    | some p =>
      obtain ⟨l', r'⟩ := p
      obtain ⟨h1, h2, h3⟩ := cutTo_bytes e
      rcases bool_ways (okR r') with ho | ho
      · rw [cutTo_no e ho] at h
        cases h
      · rw [cutTo_yes e ho] at h
        simp only [Option.some.injEq, Prod.mk.injEq] at h
        obtain ⟨rfl, rfl⟩ := h
        obtain ⟨n, e1, e2, e3, e4⟩ := read_itB ho
        have hn : (itN r').toNat = n := by rw [e1]; omega
        refine ⟨?_, by simp [h2], fun x hx => ?_⟩
        · rw [itsB_snoc, e4, hn, List.append_assoc, List.take_append_drop]
          exact h1
        · rcases List.mem_append.1 hx with hx | hx
          · exact h3 x hx
          · simp at hx
            subst hx
            exact ⟨e3, by rw [itR, ho, if_pos rfl]; exact inI_fields _⟩
def cutL (b : List UInt8) (k : Nat) : List It := ((cutTo b k).map (·.1)).getD []
def cutR (b : List UInt8) (k : Nat) : List UInt8 := ((cutTo b k).map (·.2)).getD []
def cutF (b : List UInt8) (k : Nat) : Int := if (cutTo b k).isSome then 0 else 8

/-- What is left of bytes. -/
theorem rBy_rest {ok : Addr → Prop} {w : World} {ad : Addr} {n c : Nat} {b : List UInt8} (h : rBy ok w [.slice (some ad) n c] b) (k : Nat) (hk : k ≤ b.length) : rBy ok w [.slice (some (ad.add k)) (n - k) (c - k)] (b.drop k) := by
  obtain ⟨A, c', e, l1, l2, _⟩ := id h
  cases e
  have := rBy_part h k (b.length - k) (c - k) (by omega) (by omega) (by omega)
  rwa [List.take_of_length_le (by simp)] at this

set_option maxRecDepth 100000 in
set_option maxHeartbeats 4000000 in
theorem nodeCut_own (v : Value) (b : List UInt8) (many : Nat) (hm : many < 256) (w : World) (h : rBy (Old w) w [v] b) :
    Calls Tryz.prog 55 #[v, .int .i64 many] w fun e w' => ∃ A c u, e = .returned (.tuple #[.slice A (cutL b many).length c, u, .int .i64 (cutF b many)]) ∧ RowOf rIt 5 40 w.heap.size w' A c (cutL b many) ∧ rBy (Old w') w' [u] (cutR b many) ∧ Below w.heap.size w w' := by
  have HV := Lib.hid h
  clear h
  go_enter Tryz.func55, Tryz.ntmps55
  go_wp2_with fail
  go_loopw [0, 7, 12] (fun q it i wr => ∃ (k : Nat) (l : List It) (r : List UInt8) (A : Option Addr) (c : Nat), k ≤ many ∧ i = .int .i64 k ∧ it = .slice A k c ∧ l.length = k ∧ cutTo b k = some (l, r) ∧ rBy (Old w) w [q] r ∧ RowOf rIt 5 40 w.heap.size wr A c l ∧ Below w.heap.size w wr) (fun _ _ i _ => many - (intOf i).toNat)
  case atStart => exact ⟨0, [], b, none, 0, by omega, rfl, rfl, rfl, rfl, HV.out, RowOf.nil _ _ _ _ _, Below.refl _ _⟩
  case round =>
    obtain ⟨k, l, r, A, c, hk, rfl, rfl, hl, hcut, hq, hrow, hb⟩ := hrel
    replace hrow := Lib.hid hrow
    replace hcut := Lib.hid hcut
    replace hl := Lib.hid hl
    replace hb := Lib.hid hb
    obtain ⟨Q, cq, rfl, n1, n2, _⟩ := id (rBy_open hq)
    obtain ⟨nq, hnq⟩ : ∃ n, r.length = n := ⟨_, rfl⟩
    rw [hnq] at n1 hq ⊢
    replace hnq := Lib.hid hnq
    replace hq := Lib.hid hq
    have hqr := Lib.hid (stab_by.old hq.out hb.out)
    by_cases hlt : k < many
    case neg =>
      have hkm : k = many := by omega
      have hL := Lib.hid (show cutL b many = l by rw [← hkm]; simp [cutL, hcut.out])
      have hR := Lib.hid (show cutR b many = r by rw [← hkm]; simp [cutR, hcut.out])
      have hF := Lib.hid (show cutF b many = 0 by rw [← hkm]; simp [cutF, hcut.out])
      replace hkm := Lib.hid hkm
      go_wp2_with fail
      exact bodyPost_ret (v := .tuple #[.slice A k c, .slice Q nq cq, .int .i64 0]) (by simp [results, Tryz.results55, go_sem]) rfl ⟨A, c, _, by rw [hL.out, hF.out, hl.out], by rw [hL.out]; exact hrow.out, by rw [hR.out]; exact hqr.out, hb.out⟩
    go_wp2_with fail
    with_reducible refine (itRead_any _ r _ hqr.out).mono ?_
    rintro e3 w3 ⟨u3, rfl, hu3, hb3⟩
    obtain ⟨D, dc, rfl, hin, _, _, hby⟩ := id hu3.open
    obtain ⟨w4, hw4, s0, s1, s2, s3, s4, hs4, hb4, b4⟩ := box_five w3 (.int .u8 ((itR r).1.1.toNat : Int)) (.int .u32 (itR r).1.2.1) (.int .u32 (itR r).1.2.2) (.int .i64 (itR r).2.1) (.slice D (itR r).2.2.length dc) 40
    have C4 := Lib.hid (hb3.trans (hb4.mono hb3.size))
    have B4 := Lib.hid (hb.out.trans (C4.out.mono hb.out.size))
    have hI4 := Lib.hid (hu3.new (Nat.le_refl _) hb4)
    obtain ⟨x, hx⟩ : ∃ x, itR r = x := ⟨_, rfl⟩
    rw [hx] at hin s0 s1 s2 s3 s4 b4 hI4 hw4 ⊢
    replace hs4 := Lib.hid hs4
    replace hx := Lib.hid hx
    clear hb3 hb4 hu3 hby
    unfold itV at *
    go_upto_region 5 with fail
    clear hw4
    rcases bool_ways (okR r) with hok | hok
    · have hE := Lib.hid (show itE r = 8 by simp [itE, hok])
      have hno := Lib.hid (cutTo_none (cutTo_no hcut.out hok) (show k + 1 ≤ many by omega))
      have hL := Lib.hid (show cutL b many = [] by simp [cutL, hno.out])
      have hR := Lib.hid (show cutR b many = [] by simp [cutR, hno.out])
      have hF := Lib.hid (show cutF b many = 8 by simp [cutF, hno.out])
      rw [hE.out]
      replace hok := Lib.hid hok
      go_wp2_with fail
      exact bodyPost_ret (v := .tuple #[.slice none 0 0, .slice none 0 0, .int .i64 8]) (by simp [results, Tryz.results55, go_sem]) rfl ⟨none, 0, _, by rw [hL.out, hF.out]; rfl, by rw [hL.out]; exact RowOf.nil _ _ _ _ _, by rw [hR.out]; exact rBy_part0 _ _ none, B4.out⟩
    have hE := Lib.hid (show itE r = 0 by simp [itE, hok])
    obtain ⟨m, hm1, hm2, hm3, hm4⟩ := read_itB hok
    have hyes := cutTo_yes hcut.out hok
    rw [hm1, show ((m : Int)).toNat = m by omega, hx.out] at hyes
    have hrl : 12 ≤ nq := by have := okC_yes (okR_fields hok).1; have := hnq.out; omega
    rw [hnq.out] at hm2
    rw [hE.out, hm1]
    replace hyes := Lib.hid hyes
    replace hok := Lib.hid hok
    clear hm1 hm3 hm4
    obtain ⟨w5, hw5, _, _, _, _, _, hs5, hb5, b5⟩ := box_five w4 (.int .u8 (x.1.1.toNat : Int)) (.int .u32 x.1.2.1) (.int .u32 x.1.2.2) (.int .i64 x.2.1) (.slice D x.2.2.length dc) 40
    have C5 := C4.out.trans (hb5.mono C4.out.size)
    have hI5 := hI4.out.new (Nat.le_refl _) hb5
    have hx5 : rBy (NewBut w.heap.size A w5) w5 [.slice D x.2.2.length dc] x.2.2 := by
      obtain ⟨d, e, _, hd⟩ := hI5
      have ed : d = .slice D x.2.2.length dc := by injection e with e; simpa using e.symm
      subst ed
      exact stab_by _ _ _ _ _ _ (fun p v hp hc => ⟨hrow.out.but (Nat.le_refl _) hb.out.size hp, hc⟩) hd
    have row5 := RowOf.below stab_it hrow.out C5
    have hb5' := hb.out.trans (C5.mono hb.out.size)
    have hk5 : l.length < 100000 := by have := hl.out; omega
    obtain ⟨A6, c6, w6, hr6, row6, _, hb6⟩ := its_push row5 w4.heap.size x _ 1 k hl.out b5 (by omega) hb5'.size hin hx5
    have B6 := Lib.hid (hb5'.trans hb6)
    have H6 := Lib.hid hr6
    replace row6 := Lib.hid row6
    have hll := Lib.hid (show (l ++ [x]).length = k + 1 by simp [hl.out])
    obtain ⟨qa, rfl⟩ : ∃ qa, Q = some qa := by
      obtain ⟨_, _, e, _, _, h4⟩ := rBy_open hq.out
      cases e
      obtain ⟨qa, e, _⟩ := h4 0 (by have := hnq.out; omega)
      exact ⟨qa, e⟩
    have hrest := Lib.hid (rBy_rest hq.out m (by rw [hnq.out]; exact hm2))
    have hnil : Hid (m = nq → ∀ W, rBy (Old W) W [.slice (some qa) 0 0] (r.drop m)) := Lib.hid fun e W => by
      rw [List.drop_of_length_le (by rw [hnq.out]; omega)]
      exact rBy_part0 _ _ _
    replace hs5 := Lib.hid hs5
    replace b5 := Lib.hid b5
    replace hI5 := Lib.hid hI5
    clear hr6 hb6 hx5 row5 C5 hb5 hb5' hin
    by_cases hmc : m = cq
    · have c1 : (0 : Int) ≤ (m : Int) := by omega
      have c2 : (m : Int) ≤ cq := by omega
      have c3 : (m : Int) ≤ nq := by omega
      go_wp2_with (at_builtin; refine wpList_append_run rfl _ _ _ rfl rfl rfl H6.out ?_; clear H6)
      go_roundw
      case rel => exact ⟨k + 1, l ++ [x], r.drop m, A6, c6, by omega, by go_num, rfl, hll.out, hyes.out, hnil.out (by omega) w, row6.out, B6.out⟩
      case measure => simp [intOf]; omega
    · have c1 : (0 : Int) ≤ (m : Int) := by omega
      have c2 : (m : Int) ≤ cq := by omega
      have c3 : (m : Int) ≤ nq := by omega
      go_wp2_with (at_builtin; refine wpList_append_run rfl _ _ _ rfl rfl rfl H6.out ?_; clear H6)
      go_roundw
      case rel => exact ⟨k + 1, l ++ [x], r.drop m, A6, c6, by omega, by go_num, rfl, hll.out, hyes.out, hrest.out, row6.out, B6.out⟩
      case measure => simp [intOf]; omega
end Go.Proofs.YtogieepfimpdmaaGreat

/-
  Package node: slices.Clone at items, Twin. Conditions: those that each lemma states.
-/
namespace Go.Proofs.YtogieepfimpdmaaGreat
open Go.RowKit

abbrev Iv := It × Value
def cell5 (p : Iv) : List Value := [.int .u8 (p.1.1.1.toNat : Int), .int .u32 p.1.1.2.1, .int .u32 p.1.1.2.2, .int .i64 p.1.2.1, p.2]
def cells5 (ps : List Iv) : List Value := (ps.map cell5).flatten
theorem cells5_length : ∀ ps : List Iv, (cells5 ps).length = ps.length * 5
  | [] => rfl
  | p :: r => by
    have := cells5_length r
    simp [cells5, cell5] at this ⊢
    omega
theorem cells5_at : ∀ {ps : List Iv} {k : Nat} {p : Iv}, ps[k]? = some p → ∀ j v, (cell5 p)[j]? = some v → (cells5 ps)[k * 5 + j]? = some v
  | q :: r, 0, p, h, j, v, hv => by
    simp at h
    subst h
    have hj : j < (cell5 q).length := (List.getElem?_eq_some_iff.1 hv).1
    show ((cell5 q) ++ cells5 r)[0 * 5 + j]? = some v
    rw [Nat.zero_mul, Nat.zero_add, List.getElem?_append_left hj, hv]
  | q :: r, k + 1, p, h, j, v, hv => by
    have h' : r[k]? = some p := by simpa using h
    have := cells5_at h' j v hv
    show ((cell5 q) ++ cells5 r)[(k + 1) * 5 + j]? = some v
    have hl : (cell5 q).length = 5 := rfl
    rw [List.getElem?_append_right (by omega), hl, show (k + 1) * 5 + j - 5 = k * 5 + j by omega]
    exact this
theorem cells5_one {ps : List Iv} (h : ∀ p ∈ ps, p.2.oneCell' = true) : ∀ u ∈ cells5 ps, u.oneCell' = true := fun u hu => by
  unfold cells5 at hu
  rw [List.mem_flatten] at hu
  obtain ⟨l, hl, hul⟩ := hu
  obtain ⟨p, hp, rfl⟩ := List.mem_map.1 hl
  simp [cell5] at hul
  rcases hul with rfl | rfl | rfl | rfl | rfl
  · rfl
  · rfl
  · rfl
  · rfl
  · exact h p hp
end Go.Proofs.YtogieepfimpdmaaGreat

/-
  Package node: refers, Check. Conditions: those that each lemma states.
-/
namespace Go.Proofs.YtogieepfimpdmaaGreat
open Go.RowKit

set_option maxRecDepth 100000 in
set_option maxHeartbeats 2000000 in
theorem refers_any (v : Value) (s : It) (w : World) (h : Itm (Old w) w v s) : Calls Tryz.prog 82 #[v] w fun e w' => e = .returned (.bool (refersI s)) ∧ Below w.heap.size w w' := by
  obtain ⟨A, c, rfl, _, l1, m1, _⟩ := h.open
  have hw : refersI s = (decide (s.2.1 ≠ 0) && decide (s.2.2.length = 0)) := rfl
  obtain ⟨n, hn⟩ : ∃ n, s.2.2.length = n := ⟨_, rfl⟩
  unfold itV
  rw [hn] at l1 hw ⊢
  obtain ⟨w0, hw0, f1, f2, f3, f4, f5, hs0, hB0, _⟩ := box_five w (.int .u8 (s.1.1.toNat : Int)) (.int .u32 s.1.2.1) (.int .u32 s.1.2.2) (.int .i64 s.2.1) (.slice A n c) 40
  clear f1 f2 f3 hs0 hn h
  replace hB0 := Lib.hid hB0
  obtain ⟨r, hr⟩ : ∃ r, s.2.1 = r := ⟨_, rfl⟩
  rw [hr] at hw f4 hw0 ⊢
  clear hr
  generalize refersI s = res at hw ⊢
  replace hw := Lib.hid hw
  by_cases h0 : r = 0
  · have t0 : (r != 0) = false := by simpa using h0
    have hr := Lib.hid (show res = false by rw [hw.out]; simp [h0])
    replace h0 := Lib.hid h0
    go_enter Tryz.func82, Tryz.ntmps82
    go_upto_region 1 with fail
    clear hw0
    go_wp2_with fail
    go_ret
    exact ⟨ret_bool hr.out.symm, hB0.out⟩
  · have t0 : (r != 0) = true := by simpa using h0
    by_cases h1 : n = 0
    · have t1 : ((n : Int) == 0) = true := by simp; omega
      have hr := Lib.hid (show res = true by rw [hw.out]; simp [h0, h1])
      replace h0 := Lib.hid h0
      replace h1 := Lib.hid h1
      go_enter Tryz.func82, Tryz.ntmps82
      go_upto_region 1 with fail
      clear hw0
      go_wp2_with fail
      go_ret
      exact ⟨ret_bool hr.out.symm, hB0.out⟩
    · have t1 : ((n : Int) == 0) = false := by simp; omega
      have hr := Lib.hid (show res = false by rw [hw.out]; simp [h1])
      replace h0 := Lib.hid h0
      replace h1 := Lib.hid h1
      go_enter Tryz.func82, Tryz.ntmps82
      go_upto_region 1 with fail
      clear hw0
      go_wp2_with fail
      go_ret
      exact ⟨ret_bool hr.out.symm, hB0.out⟩

theorem bool_two (b : Bool) : b = false ∨ b = true := by cases b <;> simp
set_option maxRecDepth 100000 in
set_option maxHeartbeats 8000000 in
theorem checkN_any (v : Value) (n : Nd) (w : World) (h : Nod (Old w) w v n) : Calls Tryz.prog 56 #[v] w fun e w' => e = .returned (.int .i64 (chkN n)) ∧ Below w.heap.size w w' := by
  obtain ⟨A, c, rfl, hin, l1, m1, hA⟩ := h.open
  have hbad0 := Lib.hid (fun hh => chkN_bad (mayN_shape (n := n) hh))
  have hbad1 : Hid (∀ k, k < n.2.length → okAt n k = false → chkN n = 8) := Lib.hid fun k hk hh => chkN_bad (mayN_at hk hh)
  have hgood := Lib.hid (fun hh h2 => chkN_ok (mayN_mk (n := n) hh h2))
  have HA := Lib.hid hA
  clear h hA
  obtain ⟨m, hm⟩ : ∃ m, n.2.length = m := ⟨_, rfl⟩
  obtain ⟨l, hl⟩ : ∃ l, n.1 = l := ⟨_, rfl⟩
  rw [hm] at l1 hbad0 hbad1 hgood HA ⊢
  rw [hl] at hbad0 hgood hin ⊢
  obtain ⟨i1, i2⟩ := hin
  replace hm := Lib.hid hm
  replace hl := Lib.hid hl
  obtain ⟨w0, hw0, b0, hs0, hB0⟩ := box_pair' w (.int .i64 l) (.slice A m c) 45
  obtain ⟨f1, f2, _, lt0⟩ := two_cells b0
  replace hB0 := Lib.hid hB0
  replace b0 := Lib.hid b0
  replace hs0 := Lib.hid hs0
  by_cases h1 : l < 0
  · have hr := Lib.hid (hbad0.out (by omega))
    rw [hr.out]
    go_enter Tryz.func56, Tryz.ntmps56
    go_upto_region 1 with fail
    clear hw0
    go_wp2_with fail
    go_ret
    exact ⟨rfl, hB0.out⟩
  by_cases h2 : 6 ≤ l
  · have hr := Lib.hid (hbad0.out (by omega))
    rw [hr.out]
    go_enter Tryz.func56, Tryz.ntmps56
    go_upto_region 1 with fail
    clear hw0
    go_wp2_with fail
    go_ret
    exact ⟨rfl, hB0.out⟩
  by_cases h3 : 5 < m
  · have hr := Lib.hid (hbad0.out (by omega))
    have h3' : (5 : Int) < m := by omega
    rw [hr.out]
    go_enter Tryz.func56, Tryz.ntmps56
    go_upto_region 1 with fail
    clear hw0
    go_wp2_with fail
    go_ret
    exact ⟨rfl, hB0.out⟩
  have h3' : ¬ (5 : Int) < m := by omega
  by_cases h4 : 0 < l ∧ m = 0
  · have hr := Lib.hid (hbad0.out (by omega))
    obtain ⟨h4a, h4b⟩ := h4
    have h4c : ((m : Int) == 0) = true := by simp; omega
    replace h4b := Lib.hid h4b
    rw [hr.out]
    go_enter Tryz.func56, Tryz.ntmps56
    go_upto_region 1 with fail
    clear hw0
    go_wp2_with fail
    go_ret
    exact ⟨rfl, hB0.out⟩
  have hgood2 := Lib.hid (hgood.out (by omega))
  have hB := Lib.hid (fun wr (hb : Below w0.heap.size w0 wr) => hB0.out.trans (hb.mono hB0.out.size))
  clear hgood hbad0
  rcases (by omega : l ≤ 0 ∨ (0 < l ∧ m ≠ 0)) with h5 | ⟨h5, h6⟩
  rotate_left
  · have h6' : ((m : Int) == 0) = false := by simp; omega
    replace h6 := Lib.hid h6
    replace h4 := Lib.hid h4
    go_enter Tryz.func56, Tryz.ntmps56
    go_upto_region 1 with fail
    clear hw0
    go_wp2_with fail
    go_loopw [31] (fun i wr => ∃ k : Nat, k ≤ m ∧ i = .int .i64 k ∧ (∀ j, j < k → okAt n j = true) ∧ Below w0.heap.size w0 wr) (fun i _ => m - (intOf i).toNat)
    case atStart => exact ⟨0, by omega, rfl, fun j hj => by omega, Below.refl _ _⟩
    case round =>
      obtain ⟨k, hk, rfl, ha, hb⟩ := hrel
      replace ha := Lib.hid ha
      replace hb := Lib.hid hb
      have p1 := (hb.out.cell (p := ⟨w.heap.size, 0, none⟩) lt0).trans f1
      have p2 := (hb.out.cell (p := ⟨w.heap.size, 1, none⟩) lt0).trans f2
      by_cases hlt : k < m
      case neg =>
        have hfin := Lib.hid (hgood2.out fun i hi => ha.out i (by omega))
        have BF := Lib.hid (hB.out _ hb.out)
        go_wp2_with fail
        go_ret
        exact ⟨ret_int hfin.out.symm, BF.out⟩
      obtain ⟨x, hx⟩ : ∃ x, n.2[k]? = some x := ⟨_, List.getElem?_eq_getElem (by rw [hm.out]; exact hlt)⟩
      obtain ⟨ad, E, ce, rfl, q1, q2, hinx, FX⟩ := its_old HA.out hx
      have FX' := Lib.hid (fun W (hW : Below wr.heap.size wr W) => FX W ((hB.out _ hb.out).trans (hW.mono (hB.out _ hb.out).size)))
      obtain ⟨⟨z0, z1, z2, z3, z4⟩, hIx⟩ := FX'.out wr (Below.refl _ _)
      obtain ⟨w2, hw2, g0, g1, g2, g3, g4, hs2, hB2, _⟩ := box_five wr (.int .u8 (x.1.1.toNat : Int)) (.int .u32 x.1.2.1) (.int .u32 x.1.2.2) (.int .i64 x.2.1) (.slice E x.2.2.length ce) 40
      have HI := Lib.hid (hIx.below hB2)
      have lt2 : wr.heap.size < w2.heap.size := by omega
      have B2 := Lib.hid (hb.out.trans (hB2.mono hb.out.size))
      have C2 := Lib.hid hB2
      replace hx := Lib.hid hx
      replace hs2 := Lib.hid hs2
      have hbk := Lib.hid (hbad1.out k hlt)
      clear FX hIx hB2 hinx
      unfold itV at *
      go_upto_region 8 with fail
      clear hw2
      go_wp2_with fail
      with_reducible refine (checkI_any _ x _ HI.out).mono ?_
      rintro e3 w3 ⟨rfl, hb3⟩
      have B3 := Lib.hid (B2.out.trans (hb3.mono B2.out.size))
      have C3 := Lib.hid (C2.out.trans (hb3.mono C2.out.size))
      have r0 := (hb3.cell (p := ⟨wr.heap.size, 0, none⟩) lt2).trans g0
      have r1 := (hb3.cell (p := ⟨wr.heap.size, 1, none⟩) lt2).trans g1
      have r2 := (hb3.cell (p := ⟨wr.heap.size, 2, none⟩) lt2).trans g2
      have r3 := (hb3.cell (p := ⟨wr.heap.size, 3, none⟩) lt2).trans g3
      have r4 := (hb3.cell (p := ⟨wr.heap.size, 4, none⟩) lt2).trans g4
      have p3 := (hb3.cell (p := ⟨w.heap.size, 0, none⟩) (Nat.lt_of_lt_of_le lt0 B2.out.size)).trans ((C2.out.cell (p := ⟨w.heap.size, 0, none⟩) (Nat.lt_of_lt_of_le lt0 hb.out.size)).trans p1)
      have p4 := (hb3.cell (p := ⟨w.heap.size, 1, none⟩) (Nat.lt_of_lt_of_le lt0 B2.out.size)).trans ((C2.out.cell (p := ⟨w.heap.size, 1, none⟩) (Nat.lt_of_lt_of_le lt0 hb.out.size)).trans p2)
      replace HI := Lib.hid (HI.out.below hb3)
      have lt3 : wr.heap.size < w3.heap.size := Nat.lt_of_lt_of_le lt2 hb3.size
      clear hb3 g0 g1 g2 g3 g4 z0 z1 z2 z3 z4 p1 p2
      rcases bool_two (mayI x) with hmx | hmx
      · have hr := Lib.hid (hbk.out (okAt_noP hx.out (by rw [okP, hmx]; rfl)))
        have hc := Lib.hid (chkI_bad hmx)
        have BF := Lib.hid (hB.out _ B3.out)
        replace hmx := Lib.hid hmx
        rw [hc.out]
        go_wp2_with fail
        go_ret
        exact ⟨ret_int hr.out.symm, BF.out⟩
      have hc := Lib.hid (chkI_ok hmx)
      replace hmx := Lib.hid hmx
      rw [hc.out]
      go_wp2_with fail
      with_reducible refine (refers_any _ x _ HI.out).mono ?_
      rintro e4 w4 ⟨rfl, hb4⟩
      have B4 := Lib.hid (B3.out.trans (hb4.mono B3.out.size))
      have C4 := Lib.hid (C3.out.trans (hb4.mono C3.out.size))
      have t0 := (hb4.cell (p := ⟨wr.heap.size, 0, none⟩) lt3).trans r0
      have t1 := (hb4.cell (p := ⟨wr.heap.size, 1, none⟩) lt3).trans r1
      have t2 := (hb4.cell (p := ⟨wr.heap.size, 2, none⟩) lt3).trans r2
      have p5 := (hb4.cell (p := ⟨w.heap.size, 1, none⟩) (Nat.lt_of_lt_of_le lt0 B3.out.size)).trans p4
      have lt4 : wr.heap.size < w4.heap.size := Nat.lt_of_lt_of_le lt3 hb4.size
      have lt0' : w.heap.size < w4.heap.size := Nat.lt_of_lt_of_le lt0 B4.out.size
      clear hb4 r0 r1 r2 r3 r4 p3 p4
      rcases bool_two (refersI x) with hrx | hrx
      · have hr := Lib.hid (hbk.out (okAt_noP hx.out (by rw [okP, hmx.out, hrx, hl.out]; simp; omega)))
        have BF := Lib.hid (hB.out _ B4.out)
        rw [hrx]
        replace hrx := Lib.hid hrx
        go_wp2_with fail
        go_ret
        exact ⟨ret_int hr.out.symm, BF.out⟩
      have hP := Lib.hid (show okP n.1 x = true by rw [okP, hmx.out, hrx]; simp)
      rw [hrx]
      replace hrx := Lib.hid hrx
      rcases (by rcases k with _ | j; exact Or.inl rfl; exact Or.inr ⟨j, rfl⟩ : k = 0 ∨ ∃ j, k = j + 1) with hk0 | ⟨j, hkj⟩
      · have hall := Lib.hid (show ∀ j, j < k + 1 → okAt n j = true from fun j hj => by
          obtain rfl : j = 0 := by omega
          subst hk0
          rw [okAt_zero hx.out, hP.out])
        subst hk0
        go_wp2_with fail
        go_quiet (fail)
        go_wp2_with fail
        go_roundw
        case rel => exact ⟨0 + 1, by omega, by go_num, hall.out, below_drewN B4.out _⟩
        case measure => simp [intOf]; omega
      · obtain ⟨y, hy⟩ : ∃ y, n.2[j]? = some y := ⟨_, List.getElem?_eq_getElem (by rw [hm.out]; omega)⟩
        obtain ⟨ad', E', ce', e', _, _, _, FY⟩ := its_old HA.out hy
        have e'' := Option.some.inj e'
        subst e''
        clear e'
        have BW4 := Lib.hid (hB.out _ B4.out)
        have FYY := Lib.hid fun W (hW : Below _ _ W) => (FY W (BW4.out.trans (hW.mono BW4.out.size))).1
        have hsucc := Lib.hid (show okAt n k = lessK y.1 x.1 by subst hkj; rw [okAt_succ hx.out hy, hP.out]; simp)
        have hj1 : (k : Int) - 1 = (j : Int) := by omega
        replace hy := Lib.hid hy
        obtain ⟨s, hs⟩ : ∃ s, lessK y.1 x.1 = s := ⟨_, rfl⟩
        rw [hs] at hsucc
        replace hs := Lib.hid hs
        have hwj : IntKind.i64.wrap (j : Int) = (j : Int) := IntWalk.i64_in _ (by omega)
        have hj0 : (0 : Int) ≤ (j : Int) := by omega
        have kpos : (0 : Int) < (k : Int) := by omega
        have hjm : (j : Int) < (m : Int) := by omega
        clear FY
        go_wp2_with fail
        refine wp_region_fx (by kernel_rfl) (fun W => Below _ _ W) (fun _ => none) (fun i => match i with
          | 12 => some (.bool s)
          | _ => none) (by kernel_rfl) (Below.refl _ _).drew (fun w w' h hb => h.trans (hb.mono h.size)) (fun j φ x W W' hp => by cases hp) ?_
        repeat (first
          | (refine wpAs_skip rfl ?_; simp only [Act.put, List.setIfInBounds_toArray, List.set_cons_zero, List.set_cons_succ])
          | (refine wpAs_pure (v := ?_) rfl rfl ?_ ?_; rotate_left; (intro W hC hE; clear hE; (obtain ⟨y0, y1, y2, y3, y4⟩ := FYY.out W hC; have x0 := (hC.cell (p := ⟨wr.heap.size, 0, none⟩) lt4).trans t0; have x1 := (hC.cell (p := ⟨wr.heap.size, 1, none⟩) lt4).trans t1; have x2 := (hC.cell (p := ⟨wr.heap.size, 2, none⟩) lt4).trans t2; have p6 := (hC.cell (p := ⟨w.heap.size, 1, none⟩) lt0').trans p5); clear hC; go_simp; done); simp only [Act.put, List.setIfInBounds_toArray, List.set_cons_zero, List.set_cons_succ])
          | (refine wpAs_pure (v := ?_) rfl rfl ?_ ?_; rotate_left; (intro W hC hE; clear hE; (obtain ⟨y0, y1, y2, y3, y4⟩ := FYY.out W hC; have x0 := (hC.cell (p := ⟨wr.heap.size, 0, none⟩) lt4).trans t0; have x1 := (hC.cell (p := ⟨wr.heap.size, 1, none⟩) lt4).trans t1; have x2 := (hC.cell (p := ⟨wr.heap.size, 2, none⟩) lt4).trans t2; have p6 := (hC.cell (p := ⟨w.heap.size, 1, none⟩) lt0').trans p5); clear hC; go_simp; with_reducible rfl); simp only [Act.put, List.setIfInBounds_toArray, List.set_cons_zero, List.set_cons_succ]))
        refine wpAs_fixed rfl rfl rfl ?_ ?_
        · intro W hC hE
          refine does_enter (f := 19) (args := #[kyV y.1, kyV x.1]) ?_ ?_
          · go_simp
          · refine (less_any y.1 x.1 W).mono ?_
            rintro e W' ⟨rfl, hg⟩
            rw [hs.out]
            exact ⟨_, rfl, rfl, hg⟩
        simp only [Act.put, List.setIfInBounds_toArray, List.set_cons_zero, List.set_cons_succ]
        repeat (first
          | (refine wpAs_skip rfl ?_; simp only [Act.put, List.setIfInBounds_toArray, List.set_cons_zero, List.set_cons_succ])
          | (refine wpAs_pure (v := ?_) rfl rfl ?_ ?_; rotate_left; (intro W hC hE; clear hE; skip; clear hC; go_simp; done); simp only [Act.put, List.setIfInBounds_toArray, List.set_cons_zero, List.set_cons_succ])
          | (refine wpAs_pure (v := ?_) rfl rfl ?_ ?_; rotate_left; (intro W hC hE; clear hE; skip; clear hC; go_simp; with_reducible rfl); simp only [Act.put, List.setIfInBounds_toArray, List.set_cons_zero, List.set_cons_succ]))
        refine wpAs_end fun W hC hE => ?_
        have BW := Lib.hid (B4.out.trans (hC.mono B4.out.size))
        clear hE hC
        cases s with
        | true =>
          have hall := Lib.hid (show ∀ j, j < k + 1 → okAt n j = true from fun j hj => by
            rcases Nat.lt_or_ge j k with h | h
            · exact ha.out j h
            · obtain rfl : j = k := by omega
              exact hsucc.out)
          go_wp2_with fail
          go_roundw
          case rel => exact ⟨k + 1, by omega, by go_num, hall.out, BW.out⟩
          case measure => simp [intOf]; omega
        | false =>
          have hr := Lib.hid (hbk.out hsucc.out)
          have BF := Lib.hid (hB.out _ BW.out)
          go_wp2_with fail
          go_ret
          exact ⟨ret_int hr.out.symm, BF.out⟩
  · replace h4 := Lib.hid h4
    go_enter Tryz.func56, Tryz.ntmps56
    go_upto_region 1 with fail
    clear hw0
    go_wp2_with fail
    go_loopw [31] (fun i wr => ∃ k : Nat, k ≤ m ∧ i = .int .i64 k ∧ (∀ j, j < k → okAt n j = true) ∧ Below w0.heap.size w0 wr) (fun i _ => m - (intOf i).toNat)
    case atStart => exact ⟨0, by omega, rfl, fun j hj => by omega, Below.refl _ _⟩
    case round =>
      obtain ⟨k, hk, rfl, ha, hb⟩ := hrel
      replace ha := Lib.hid ha
      replace hb := Lib.hid hb
      have p1 := (hb.out.cell (p := ⟨w.heap.size, 0, none⟩) lt0).trans f1
      have p2 := (hb.out.cell (p := ⟨w.heap.size, 1, none⟩) lt0).trans f2
      by_cases hlt : k < m
      case neg =>
        have hfin := Lib.hid (hgood2.out fun i hi => ha.out i (by omega))
        have BF := Lib.hid (hB.out _ hb.out)
        go_wp2_with fail
        go_ret
        exact ⟨ret_int hfin.out.symm, BF.out⟩
      obtain ⟨x, hx⟩ : ∃ x, n.2[k]? = some x := ⟨_, List.getElem?_eq_getElem (by rw [hm.out]; exact hlt)⟩
      obtain ⟨ad, E, ce, rfl, q1, q2, hinx, FX⟩ := its_old HA.out hx
      have FX' := Lib.hid (fun W (hW : Below wr.heap.size wr W) => FX W ((hB.out _ hb.out).trans (hW.mono (hB.out _ hb.out).size)))
      obtain ⟨⟨z0, z1, z2, z3, z4⟩, hIx⟩ := FX'.out wr (Below.refl _ _)
      obtain ⟨w2, hw2, g0, g1, g2, g3, g4, hs2, hB2, _⟩ := box_five wr (.int .u8 (x.1.1.toNat : Int)) (.int .u32 x.1.2.1) (.int .u32 x.1.2.2) (.int .i64 x.2.1) (.slice E x.2.2.length ce) 40
      have HI := Lib.hid (hIx.below hB2)
      have lt2 : wr.heap.size < w2.heap.size := by omega
      have B2 := Lib.hid (hb.out.trans (hB2.mono hb.out.size))
      have C2 := Lib.hid hB2
      replace hx := Lib.hid hx
      replace hs2 := Lib.hid hs2
      have hbk := Lib.hid (hbad1.out k hlt)
      clear FX hIx hB2 hinx
      unfold itV at *
      go_upto_region 8 with fail
      clear hw2
      go_wp2_with fail
      with_reducible refine (checkI_any _ x _ HI.out).mono ?_
      rintro e3 w3 ⟨rfl, hb3⟩
      have B3 := Lib.hid (B2.out.trans (hb3.mono B2.out.size))
      have C3 := Lib.hid (C2.out.trans (hb3.mono C2.out.size))
      have r0 := (hb3.cell (p := ⟨wr.heap.size, 0, none⟩) lt2).trans g0
      have r1 := (hb3.cell (p := ⟨wr.heap.size, 1, none⟩) lt2).trans g1
      have r2 := (hb3.cell (p := ⟨wr.heap.size, 2, none⟩) lt2).trans g2
      have r3 := (hb3.cell (p := ⟨wr.heap.size, 3, none⟩) lt2).trans g3
      have r4 := (hb3.cell (p := ⟨wr.heap.size, 4, none⟩) lt2).trans g4
      have p3 := (hb3.cell (p := ⟨w.heap.size, 0, none⟩) (Nat.lt_of_lt_of_le lt0 B2.out.size)).trans ((C2.out.cell (p := ⟨w.heap.size, 0, none⟩) (Nat.lt_of_lt_of_le lt0 hb.out.size)).trans p1)
      have p4 := (hb3.cell (p := ⟨w.heap.size, 1, none⟩) (Nat.lt_of_lt_of_le lt0 B2.out.size)).trans ((C2.out.cell (p := ⟨w.heap.size, 1, none⟩) (Nat.lt_of_lt_of_le lt0 hb.out.size)).trans p2)
      replace HI := Lib.hid (HI.out.below hb3)
      have lt3 : wr.heap.size < w3.heap.size := Nat.lt_of_lt_of_le lt2 hb3.size
      clear hb3 g0 g1 g2 g3 g4 z0 z1 z2 z3 z4 p1 p2
      rcases bool_two (mayI x) with hmx | hmx
      · have hr := Lib.hid (hbk.out (okAt_noP hx.out (by rw [okP, hmx]; rfl)))
        have hc := Lib.hid (chkI_bad hmx)
        have BF := Lib.hid (hB.out _ B3.out)
        replace hmx := Lib.hid hmx
        rw [hc.out]
        go_wp2_with fail
        go_ret
        exact ⟨ret_int hr.out.symm, BF.out⟩
      have hc := Lib.hid (chkI_ok hmx)
      replace hmx := Lib.hid hmx
      rw [hc.out]
      have h5q : ¬ (0 : Int) < l := by omega
      have hP := Lib.hid (show okP n.1 x = true by rw [okP, hmx.out, hl.out]; simp; omega)
      obtain ⟨w4, hw4⟩ : ∃ w4, w3 = w4 := ⟨_, rfl⟩
      subst hw4
      have B4 := B3
      have C4 := C3
      have t0 := r0
      have t1 := r1
      have t2 := r2
      have p5 := p4
      have lt4 := lt3
      have lt0' : w.heap.size < w3.heap.size := Nat.lt_of_lt_of_le lt0 B4.out.size
      clear r0 r1 r2 r3 r4 lt3
      rcases (by rcases k with _ | j; exact Or.inl rfl; exact Or.inr ⟨j, rfl⟩ : k = 0 ∨ ∃ j, k = j + 1) with hk0 | ⟨j, hkj⟩
      · have hall := Lib.hid (show ∀ j, j < k + 1 → okAt n j = true from fun j hj => by
          obtain rfl : j = 0 := by omega
          subst hk0
          rw [okAt_zero hx.out, hP.out])
        subst hk0
        go_wp2_with fail
        go_quiet (fail)
        go_wp2_with fail
        go_roundw
        case rel => exact ⟨0 + 1, by omega, by go_num, hall.out, below_drewN B4.out _⟩
        case measure => simp [intOf]; omega
      · obtain ⟨y, hy⟩ : ∃ y, n.2[j]? = some y := ⟨_, List.getElem?_eq_getElem (by rw [hm.out]; omega)⟩
        obtain ⟨ad', E', ce', e', _, _, _, FY⟩ := its_old HA.out hy
        have e'' := Option.some.inj e'
        subst e''
        clear e'
        have BW4 := Lib.hid (hB.out _ B4.out)
        have FYY := Lib.hid fun W (hW : Below _ _ W) => (FY W (BW4.out.trans (hW.mono BW4.out.size))).1
        have hsucc := Lib.hid (show okAt n k = lessK y.1 x.1 by subst hkj; rw [okAt_succ hx.out hy, hP.out]; simp)
        have hj1 : (k : Int) - 1 = (j : Int) := by omega
        replace hy := Lib.hid hy
        obtain ⟨s, hs⟩ : ∃ s, lessK y.1 x.1 = s := ⟨_, rfl⟩
        rw [hs] at hsucc
        replace hs := Lib.hid hs
        have hwj : IntKind.i64.wrap (j : Int) = (j : Int) := IntWalk.i64_in _ (by omega)
        have hj0 : (0 : Int) ≤ (j : Int) := by omega
        have kpos : (0 : Int) < (k : Int) := by omega
        have hjm : (j : Int) < (m : Int) := by omega
        clear FY
        go_wp2_with fail
        refine wp_region_fx (by kernel_rfl) (fun W => Below _ _ W) (fun _ => none) (fun i => match i with
          | 12 => some (.bool s)
          | _ => none) (by kernel_rfl) (Below.refl _ _).drew (fun w w' h hb => h.trans (hb.mono h.size)) (fun j φ x W W' hp => by cases hp) ?_
        repeat (first
          | (refine wpAs_skip rfl ?_; simp only [Act.put, List.setIfInBounds_toArray, List.set_cons_zero, List.set_cons_succ])
          | (refine wpAs_pure (v := ?_) rfl rfl ?_ ?_; rotate_left; (intro W hC hE; clear hE; (obtain ⟨y0, y1, y2, y3, y4⟩ := FYY.out W hC; have x0 := (hC.cell (p := ⟨wr.heap.size, 0, none⟩) lt4).trans t0; have x1 := (hC.cell (p := ⟨wr.heap.size, 1, none⟩) lt4).trans t1; have x2 := (hC.cell (p := ⟨wr.heap.size, 2, none⟩) lt4).trans t2; have p6 := (hC.cell (p := ⟨w.heap.size, 1, none⟩) lt0').trans p5); clear hC; go_simp; done); simp only [Act.put, List.setIfInBounds_toArray, List.set_cons_zero, List.set_cons_succ])
          | (refine wpAs_pure (v := ?_) rfl rfl ?_ ?_; rotate_left; (intro W hC hE; clear hE; (obtain ⟨y0, y1, y2, y3, y4⟩ := FYY.out W hC; have x0 := (hC.cell (p := ⟨wr.heap.size, 0, none⟩) lt4).trans t0; have x1 := (hC.cell (p := ⟨wr.heap.size, 1, none⟩) lt4).trans t1; have x2 := (hC.cell (p := ⟨wr.heap.size, 2, none⟩) lt4).trans t2; have p6 := (hC.cell (p := ⟨w.heap.size, 1, none⟩) lt0').trans p5); clear hC; go_simp; with_reducible rfl); simp only [Act.put, List.setIfInBounds_toArray, List.set_cons_zero, List.set_cons_succ]))
        refine wpAs_fixed rfl rfl rfl ?_ ?_
        · intro W hC hE
          refine does_enter (f := 19) (args := #[kyV y.1, kyV x.1]) ?_ ?_
          · go_simp
          · refine (less_any y.1 x.1 W).mono ?_
            rintro e W' ⟨rfl, hg⟩
            rw [hs.out]
            exact ⟨_, rfl, rfl, hg⟩
        simp only [Act.put, List.setIfInBounds_toArray, List.set_cons_zero, List.set_cons_succ]
        repeat (first
          | (refine wpAs_skip rfl ?_; simp only [Act.put, List.setIfInBounds_toArray, List.set_cons_zero, List.set_cons_succ])
          | (refine wpAs_pure (v := ?_) rfl rfl ?_ ?_; rotate_left; (intro W hC hE; clear hE; skip; clear hC; go_simp; done); simp only [Act.put, List.setIfInBounds_toArray, List.set_cons_zero, List.set_cons_succ])
          | (refine wpAs_pure (v := ?_) rfl rfl ?_ ?_; rotate_left; (intro W hC hE; clear hE; skip; clear hC; go_simp; with_reducible rfl); simp only [Act.put, List.setIfInBounds_toArray, List.set_cons_zero, List.set_cons_succ]))
        refine wpAs_end fun W hC hE => ?_
        have BW := Lib.hid (B4.out.trans (hC.mono B4.out.size))
        clear hE hC
        cases s with
        | true =>
          have hall := Lib.hid (show ∀ j, j < k + 1 → okAt n j = true from fun j hj => by
            rcases Nat.lt_or_ge j k with h | h
            · exact ha.out j h
            · obtain rfl : j = k := by omega
              exact hsucc.out)
          go_wp2_with fail
          go_roundw
          case rel => exact ⟨k + 1, by omega, by go_num, hall.out, BW.out⟩
          case measure => simp [intOf]; omega
        | false =>
          have hr := Lib.hid (hbk.out hsucc.out)
          have BF := Lib.hid (hB.out _ BW.out)
          go_wp2_with fail
          go_ret
          exact ⟨ret_int hr.out.symm, BF.out⟩
end Go.Proofs.YtogieepfimpdmaaGreat

/-
  Package node: Write. Conditions: those that each lemma states.
-/
namespace Go.Proofs.YtogieepfimpdmaaGreat
open Go.RowKit

/-- Three literal bytes, as a row of the call's own. -/
theorem lit_own3 (w : World) (x y z : UInt8) (a b c : Int) (h1 : (x.toNat : Int) = a) (h2 : (y.toNat : Int) = b) (h3 : (z.toNat : Int) = c) : ∃ w1, w.alloc (.cells #[.int .u8 a, .int .u8 b, .int .u8 c] 5) = w1 ∧ w1.ownsRow w.heap.size 5 1 (.slice (some ⟨w.heap.size, 0, none⟩) 3 3) 3 (u8s [x, y, z]) ∧ Below w.heap.size w w1 ∧ w1.heap.size = w.heap.size + 1 := by
  subst h1 h2 h3
  refine ⟨_, rfl, ?_, (Below.refl _ _).alloc (Nat.le_refl _) _, by simp⟩
  have h1 : Row (w.alloc (.cells #[.int .u8 (x.toNat : Int), .int .u8 (y.toNat : Int), .int .u8 (z.toNat : Int)] 5)) w.heap.size [x, y, z] := Row.new w [x, y, z]
  exact h1.own (Nat.le_refl _) (by simp)
theorem u8_small {l : Int} (h0 : 0 ≤ l) (h1 : l < 256) : ((UInt8.ofNat l.toNat).toNat : Int) = l ∧ IntKind.u8.wrap l = l := by
  refine ⟨?_, ?_⟩
  · rw [UInt8.toNat_ofNat']
    omega
  · simp [IntKind.wrap, IntKind.signed, IntKind.bits]
    omega
theorem itsB_take_len {n : Nd} (h : mayN n = true) (k : Nat) : (itsB (n.2.take k)).length ≤ 120 := by
  have h1 := itsB_len (l := n.2.take k) (fun x hx => mayN_all h x (List.mem_of_mem_take hx))
  have h2 := (mayN_of h).1.2.2.1
  have h3 : (n.2.take k).length ≤ n.2.length := by rw [List.length_take]; omega
  omega

set_option maxRecDepth 100000 in
set_option maxHeartbeats 4000000 in
theorem nodeWrite_any (v : Value) (n : Nd) (w : World) (h : Nod (Old w) w v n) :
    Calls Tryz.prog 64 #[v] w fun e w' => ∃ u, e = .returned (.tuple #[u, .int .i64 (chkN n)]) ∧ rBy (New w.heap.size w') w' [u] (wrN n) ∧ Below w.heap.size w w' := by
  obtain ⟨A, c, rfl, hin, l1, m1, hA⟩ := h.open
  obtain ⟨w0, hw0, b0, hs0, hB0⟩ := box_pair' w (.int .i64 n.1) (.slice A n.2.length c) 45
  obtain ⟨f1, f2, _, lt0⟩ := two_cells b0
  have HN := Lib.hid (h.below hB0)
  have HA := Lib.hid hA
  have HB0 := Lib.hid hB0
  replace hs0 := Lib.hid hs0
  clear h hA hB0 b0 hin
  rcases bool_two (mayN n) with hm | hm
  · have hc := Lib.hid (chkN_bad hm)
    have hw := Lib.hid (show wrN n = [] by simp [wrN, hm])
    rw [hw.out]
    go_enter Tryz.func64, Tryz.ntmps64
    go_upto_region 1 with fail
    clear hw0
    go_wp2_with fail
    with_reducible refine (checkN_any _ n _ HN.out).mono ?_
    rintro e1 w1 ⟨rfl, hb1⟩
    rw [hc.out]
    have BF := Lib.hid (HB0.out.trans (hb1.mono HB0.out.size))
    clear hb1
    go_wp2_with fail
    go_ret2
    exact ⟨_, ret_two hc.out.symm, rBy_nil_new _ _, BF.out⟩
  have hmay := Lib.hid hm
  have hc := Lib.hid (chkN_ok hm)
  have hwr := Lib.hid (show wrN n = blkN n by simp [wrN, hm])
  rw [hwr.out]
  obtain ⟨⟨s1, s2, s3, _⟩, _⟩ := mayN_of hm
  obtain ⟨m, hmm⟩ : ∃ m, n.2.length = m := ⟨_, rfl⟩
  have hu1 := u8_small s1 (by omega)
  have hu2 := u8_small (l := (n.2.length : Int)) (by omega) (by omega)
  have hhead := Lib.hid (show headN n = [78, UInt8.ofNat n.1.toNat, UInt8.ofNat n.2.length] from rfl)
  rw [Int.toNat_natCast] at hu2
  rw [hmm] at l1 f2 hw0 HN HA s3 hu2 hhead ⊢
  obtain ⟨l, hl⟩ : ∃ l, n.1 = l := ⟨_, rfl⟩
  rw [hl] at f1 hw0 HN s1 s2 hu1 hhead ⊢
  replace hl := Lib.hid hl
  replace hmm := Lib.hid hmm
  clear hm
  go_enter Tryz.func64, Tryz.ntmps64
  go_upto_region 1 with fail
  clear hw0
  go_wp2_with fail
  with_reducible refine (checkN_any _ n _ HN.out).mono ?_
  rintro e1 w1 ⟨rfl, hb1⟩
  rw [hc.out]
  have B1 := Lib.hid (HB0.out.trans (hb1.mono HB0.out.size))
  have p1 := (hb1.cell (p := ⟨w.heap.size, 0, none⟩) lt0).trans f1
  have p2 := (hb1.cell (p := ⟨w.heap.size, 1, none⟩) lt0).trans f2
  have lt1 : w.heap.size < w1.heap.size := Nat.lt_of_lt_of_le lt0 hb1.size
  clear hb1 f1 f2
  obtain ⟨w2, hw2, own2, hb2, hs2⟩ := lit_own3 w1 78 (UInt8.ofNat l.toNat) (UInt8.ofNat m) 78 l m rfl hu1.1 hu2.1
  rw [← hhead.out] at own2
  have q1 := hu1.2
  have q2 := hu2.2
  have B2 := Lib.hid (B1.out.trans (hb2.mono B1.out.size))
  have p3 := (hb2.cell (p := ⟨w.heap.size, 1, none⟩) lt1).trans p2
  have lt2 : w.heap.size < w2.heap.size := Nat.lt_of_lt_of_le lt1 hb2.size
  have h12 := Lib.hid hb2.size
  replace own2 := Lib.hid own2
  replace hu1 := Lib.hid hu1
  replace hu2 := Lib.hid hu2
  replace hs2 := Lib.hid hs2
  have hb2' := Lib.hid hb2
  have p2' := Lib.hid p2
  clear hb2
  go_upto_region 5 with fail
  clear hw2 p1 p2
  go_wp2_with fail
  go_loopw [5, 26] (fun b i wr => ∃ k : Nat, k ≤ m ∧ i = .int .i64 k ∧ wr.ownsRow w1.heap.size 5 1 b (3 + (itsB (n.2.take k)).length) (u8s (headN n ++ itsB (n.2.take k))) ∧ Below w1.heap.size w1 wr) (fun _ i _ => m - (intOf i).toNat)
  case atStart => exact ⟨0, by omega, rfl, by simpa [itsB] using own2.out, hb2'.out⟩
  case round =>
    obtain ⟨k, hk, rfl, hown, hb⟩ := hrel
    replace hb := Lib.hid hb
    have h63 := itsB_take_len hmay.out k
    obtain ⟨B, cb, rfl, c1, c2, hby⟩ := own_byt hown
    have BF := Lib.hid (B1.out.trans (hb.out.mono B1.out.size))
    by_cases hlt : k < m
    case neg =>
      have hkm : Hid (n.2.take k = n.2) := Lib.hid (List.take_of_length_le (by rw [hmm.out]; omega))
      rw [hkm.out] at hby c1 h63 ⊢
      obtain ⟨q, hq⟩ : ∃ q, 3 + (itsB n.2).length = q := ⟨_, rfl⟩
      have hlen := Lib.hid (show (toldN n).length = q by rw [← hq]; simp [toldN, headN]; omega)
      have hse := Lib.hid (show se q = 0 from if_pos (by omega))
      have hsb := Lib.hid (show sb (toldN n) = blkN n from if_pos (by rw [hlen.out]; omega))
      have HY : Hid (Byt wr wr.heap.size B (toldN n)) := Lib.hid hby
      rw [hq] at c1 ⊢
      clear hown hq
      go_wp2_with fail
      with_reducible refine (seal_any B q cb (toldN n) hlen c1 c2 _ HY.out).mono ?_
      rintro e9 w9 ⟨u, rfl, ho, hb9⟩
      rw [hse.out]
      rw [hsb.out] at ho
      have hfin := Lib.hid (stab_by.mono (own_by ho) BF.out.size)
      have B9 := Lib.hid (BF.out.trans (hb9.mono BF.out.size))
      clear hb9 ho
      go_wp2_with fail
      go_ret2
      exact ⟨_, ret_two hc.out.symm, hfin.out, B9.out⟩
    have p4 := (hb.out.cell (p := ⟨w.heap.size, 1, none⟩) lt1).trans p2'.out
    obtain ⟨x, hx⟩ : ∃ x, n.2[k]? = some x := ⟨_, List.getElem?_eq_getElem (by rw [hmm.out]; exact hlt)⟩
    obtain ⟨ad, E, ce, rfl, q1, q2, hinx, FX⟩ := its_old HA.out hx
    obtain ⟨⟨z0, z1, z2, z3, z4⟩, hIx⟩ := FX wr BF.out
    obtain ⟨w3, hw3, r0, r1, r2, r3, r4, hs3, hB3, _⟩ := box_five wr (.int .u8 (x.1.1.toNat : Int)) (.int .u32 x.1.2.1) (.int .u32 x.1.2.2) (.int .i64 x.2.1) (.slice E x.2.2.length ce) 40
    have HI := Lib.hid (hIx.below hB3)
    have B3 := Lib.hid (hb.out.trans (hB3.mono hb.out.size))
    have O3 := Lib.hid (own_below hown hB3)
    have hmx := okP_may (mayN_item hmay.out hx)
    have hcx := Lib.hid (chkI_ok hmx)
    have hwx := Lib.hid (show wrI x = itB x by simp [wrI, hmx])
    have htk := Lib.hid (itsB_take hx)
    have hlx := Lib.hid (show (itB x).length ≤ 24 by have := (mayI_of hmx).2; rw [itB_length]; omega)
    replace hx := Lib.hid hx
    replace hs3 := Lib.hid hs3
    clear FX hB3 hinx hIx hown hby hmx
    unfold itV at *
    go_upto_region 8 with fail
    clear hw3 z0 z1 z2 z3 z4
    go_wp2_with fail
    with_reducible refine (itWrite_any _ x _ HI.out).mono ?_
    rintro e4 w4 ⟨u, rfl, hu, hb4⟩
    rw [hcx.out]
    rw [hwx.out] at hu
    obtain ⟨U, cu, rfl, _, _, hyu⟩ := rBy_byt (B := w4.heap.size) (fun p hp => hp.2.1) hu
    have B4 := B3.out.trans (hb4.mono B3.out.size)
    obtain ⟨v5, w5, hr5, o5, ba5⟩ := app_own_byt _ (3 + (itsB (n.2.take k)).length) (itB x).length cu _ (itB x) U w1.heap.size w4 (own_below O3.out hb4) hyu rfl (by have := hlx.out; omega) B4.size
    have B5 := Lib.hid (B4.trans ba5)
    have H5 := Lib.hid hr5
    have o5' := Lib.hid (show w5.ownsRow w1.heap.size 5 1 v5 (3 + (itsB (n.2.take (k + 1))).length) (u8s (headN n ++ itsB (n.2.take (k + 1)))) by
      rw [htk.out, List.length_append, ← List.append_assoc, ← Nat.add_assoc]
      exact o5)
    clear hu hb4 hyu hr5 o5 ba5 B4
    go_wp2_with (at_builtin; refine wpList_append_run rfl _ _ _ rfl rfl rfl H5.out ?_; clear H5)
    go_roundw
    case rel => exact ⟨k + 1, by omega, by go_num, o5'.out, B5.out⟩
    case measure => simp [intOf]; omega
end Go.Proofs.YtogieepfimpdmaaGreat

/-
  Package node: Read. Conditions: those that each lemma states.
-/
namespace Go.Proofs.YtogieepfimpdmaaGreat
open Go.RowKit

def lvlN (body : List UInt8) : Int := ((body[1]?.getD 0).toNat : Int)
def manyN (body : List UInt8) : Nat := (body[2]?.getD 0).toNat
theorem manyN_lt (body : List UInt8) : manyN body < 256 := (body[2]?.getD 0).toNat_lt
theorem lvlN_in (body : List UInt8) : In64 (lvlN body) := by
  have := (body[1]?.getD 0).toNat_lt
  unfold lvlN
  exact ⟨by omega, by omega⟩
def ndN (body : List UInt8) : Nd := (lvlN body, cutL (body.drop 3) (manyN body))
def rdN (body : List UInt8) : Bool := decide (body[0]?.getD 0 = 78) && ((cutTo (body.drop 3) (manyN body)).isSome && (mayN (ndN body) && noughtsB (cutR (body.drop 3) (manyN body))))
noncomputable def reN (b : List UInt8) : Int := if oe b = 0 then (if rdN (ob b) then 0 else 8) else oe b
noncomputable def reV (b : List UInt8) : Nd := if oe b = 0 then (if rdN (ob b) then ndN (ob b) else zeroN) else zeroN
theorem oe_zeroN {b : List UInt8} (h : oe b = 0) : b.length = 128 ∧ fits b ∧ ob b = b.drop 4 ∧ (ob b).length = 124 := by
  unfold oe at h
  by_cases h1 : b.length = 128
  · rw [if_pos h1] at h
    by_cases h2 : fits b
    · have : ob b = b.drop 4 := by unfold ob; rw [if_pos ⟨h1, h2⟩]
      exact ⟨h1, h2, this, by rw [this]; simp [h1]⟩
    · rw [if_neg h2] at h; cases h
  · rw [if_neg h1] at h; cases h
theorem reN_open {b : List UInt8} (h : oe b ≠ 0) : reN b = oe b ∧ reV b = zeroN := by
  unfold reN reV
  rw [if_neg h, if_neg h]
  exact ⟨rfl, rfl⟩
theorem reN_bad {b : List UInt8} (h : oe b = 0) (h' : rdN (ob b) = false) : reN b = 8 ∧ reV b = zeroN := by
  unfold reN reV
  rw [if_pos h, if_pos h, h']
  exact ⟨rfl, rfl⟩
theorem reN_good {b : List UInt8} (h : oe b = 0) (h' : rdN (ob b) = true) : reN b = 0 ∧ reV b = ndN (ob b) := by
  unfold reN reV
  rw [if_pos h, if_pos h, h']
  exact ⟨rfl, rfl⟩
/-- A node whose items are a row of the call's own. -/
def NodR (lo : Nat) (w : World) (u : Value) (n : Nd) : Prop := ∃ A c, u = .agg #[.int .i64 n.1, .slice A n.2.length c] ∧ In64 n.1 ∧ RowOf rIt 5 40 lo w A c n.2
theorem NodR.nod {lo : Nat} {w : World} {u : Value} {n : Nd} (h : NodR lo w u n) : Nod (New lo w) w u n := by
  obtain ⟨A, c, rfl, h1, h2⟩ := h
  exact ⟨_, rfl, h1, h2.rel stab_it⟩
theorem NodR.zero (lo : Nat) (w : World) : NodR lo w (.agg #[.int .i64 0, .slice none 0 0]) zeroN := ⟨none, 0, rfl, ⟨by decide, by decide⟩, RowOf.nil _ _ _ _ _⟩
theorem NodR.new {lo lo' : Nat} {w w' : World} {u : Value} {n : Nd} (h : NodR lo w u n) (hl : lo' ≤ lo) (hb : Below w.heap.size w w') : NodR lo' w' u n := by
  obtain ⟨A, c, rfl, h1, h2⟩ := h
  exact ⟨A, c, rfl, h1, (h2.below stab_it hb).low stab_it hl⟩
theorem NodR.grown {lo : Nat} {w w' : World} {u : Value} {n : Nd} {row : Option Nat} (h : NodR lo w u n) (hg : w.grownBy w' row) (hr : ∀ q, row = some q → q < lo) : NodR lo w' u n := by
  obtain ⟨A, c, rfl, h1, h2⟩ := h
  exact ⟨A, c, rfl, h1, h2.grown stab_it hg hr⟩

set_option maxRecDepth 100000 in
set_option maxHeartbeats 4000000 in
theorem nodeRead_own (v : Value) (b : List UInt8) (w : World) (h : rBy (Old w) w [v] b) :
    Calls Tryz.prog 32 #[v] w fun e w' => ∃ u, e = .returned (.tuple #[u, .int .i64 (reN b)]) ∧ NodR w.heap.size w' u (reV b) ∧ Below w.heap.size w w' := by
  obtain ⟨A, c, rfl, l1, m1, hy⟩ := rBy_byt (B := w.heap.size) (fun p hp => hp) h
  obtain ⟨n, hn⟩ : ∃ n, b.length = n := ⟨_, rfl⟩
  rw [hn] at l1 ⊢
  replace hn := Lib.hid hn
  obtain ⟨w0, hw0, b0, hs0, hB0⟩ := box_pair' w (.int .i64 0) (.slice none 0 0) 45
  have lt0 : w.heap.size < w0.heap.size := by omega
  have HB0 := Lib.hid hB0
  have HY := Lib.hid ((hy.below hB0).more hB0.size)
  -- a refusal, from whatever later world
  have hzero : Hid (∀ (er : Int) (W : World), reN b = er ∧ reV b = zeroN → Below w0.heap.size w0 W → ∃ W9, (W.setCell ⟨w.heap.size, 0, none⟩ (.int .i64 0)).setCell ⟨w.heap.size, 1, none⟩ (.slice none 0 0) = W9 ∧ W9.cell? ⟨w.heap.size, 0, none⟩ = some (.int .i64 0) ∧ W9.cell? ⟨w.heap.size, 1, none⟩ = some (.slice none 0 0) ∧ (∀ o, W.frozen? ⟨w.heap.size, o, none⟩ = false) ∧ W.cell? ⟨w.heap.size, 0, none⟩ = some (.int .i64 0) ∧ W.cell? ⟨w.heap.size, 1, none⟩ = some (.slice none 0 0) ∧
      (∃ u, Ending.returned (.tuple #[.agg #[.int .i64 0, .slice none 0 0], .int .i64 er]) = .returned (.tuple #[u, .int .i64 (reN b)]) ∧ NodR w.heap.size W9 u (reV b) ∧ Below w.heap.size w W9)) := Lib.hid fun er W hre hW => by
    have bW := (hW.block w.heap.size lt0).trans b0
    obtain ⟨W9, e9, g9, gr9, gs9⟩ := put_two (u := .int .i64 0) (v := .slice none 0 0) bW
    obtain ⟨k0, k1, kf, _⟩ := two_cells g9
    obtain ⟨y0, y1, yf, _⟩ := two_cells bW
    have hBW := HB0.out.trans (hW.mono HB0.out.size)
    exact ⟨W9, e9, k0, k1, yf, y0, y1, _, by rw [hre.1], by rw [hre.2]; exact NodR.zero _ _, hBW.grown gr9 hBW.size (fun q e => by cases e; omega)⟩
  replace b0 := Lib.hid b0
  replace hw0 := Lib.hid hw0
  clear hB0 hs0 h hy
  go_enter Tryz.func32, Tryz.ntmps32
  go_upto_region 1 with fail
  rw [hw0.out]
  clear hw0
  go_wp2_with fail
  with_reducible refine (open_any A n c b hn l1 m1 _ HY.out).mono ?_
  rintro e1 w1 ⟨v1, rfl, ho1, hb1⟩
  have B1 := Lib.hid hb1
  have hBW1 := Lib.hid (show w.heap.size ≤ w1.heap.size from Nat.le_trans (Nat.le_of_lt lt0) hb1.size)
  obtain ⟨er, hoe⟩ : ∃ er, oe b = er := ⟨_, rfl⟩
  rw [hoe]
  by_cases h0 : er = 0
  case neg =>
    have t0 : (er != 0) = true := by simpa using h0
    obtain ⟨W9, e9, k0, k1, yf, y0, y1, hfin⟩ := hzero.out er w1 (by rw [← hoe]; exact reN_open (by rw [hoe]; exact h0)) B1.out
    replace hfin := Lib.hid hfin
    replace h0 := Lib.hid h0
    replace hoe := Lib.hid hoe
    clear ho1 hb1
    go_wp2_with fail
    exact bodyPost_ret (v := .tuple #[.agg #[.int .i64 0, .slice none 0 0], .int .i64 er]) (by simp [results, Tryz.results32, go_sem, k0, k1]) rfl hfin.out
  subst h0
  obtain ⟨hlen, hfits, hob, hl124⟩ := oe_zeroN hoe
  have HZ := Lib.hid (fun W h hW => hzero.out 8 W (reN_bad hoe h) hW)
  have HG := Lib.hid (fun h => reN_good hoe h)
  have hr1 := own_by ho1
  obtain ⟨bd, hbd⟩ : ∃ bd, ob b = bd := ⟨_, rfl⟩
  rw [hbd] at hr1 HZ HG hl124
  replace hbd := Lib.hid hbd
  obtain ⟨Q, cq, rfl, n1, n2, hcell⟩ := rBy_open hr1
  rw [hl124] at n1 hcell hr1 ⊢
  obtain ⟨ad, rfl, hn0, hc0⟩ := hcell 0 (by omega)
  obtain ⟨_, e, hn1', hc1⟩ := hcell 1 (by omega)
  cases e
  obtain ⟨_, e, hn2', hc2⟩ := hcell 2 (by omega)
  cases e
  have z0 : w1.cell? ad = some (.int .u8 ((bd[0]?.getD 0).toNat : Int)) := by simpa [Addr.add] using hc0
  have z1 : w1.cell? ⟨ad.block, ad.off + 1, none⟩ = some (.int .u8 ((bd[1]?.getD 0).toNat : Int)) := by simpa [Addr.add] using hc1
  have z2 : w1.cell? ⟨ad.block, ad.off + 2, none⟩ = some (.int .u8 ((bd[2]?.getD 0).toNat : Int)) := by simpa [Addr.add] using hc2
  have ltb : ad.block < w1.heap.size := World.block_lt_of_cell? _ _ z0
  have hrest := Lib.hid (rBy_rest (stab_by.drop hr1) 3 (by omega))
  have hl := Lib.hid hl124
  replace hoe := Lib.hid hoe
  clear hfits hob hlen hc0 hc1 hc2 hn0 hn1' hn2' ho1 hb1 hcell hl124 hzero
  have hrd : Hid (rdN bd = (decide (bd[0]?.getD 0 = 78) && ((cutTo (bd.drop 3) (manyN bd)).isSome && (mayN (ndN bd) && noughtsB (cutR (bd.drop 3) (manyN bd)))))) := Lib.hid rfl
  obtain ⟨x0, hx0⟩ : ∃ x, bd[0]?.getD 0 = x := ⟨_, rfl⟩
  rw [hx0] at z0 hrd
  replace hx0 := Lib.hid hx0
  by_cases h78 : (x0.toNat : Int) = 78
  case neg =>
    have t0 : ((x0.toNat : Int) != 78) = true := by simpa using h78
    obtain ⟨W9, e9, k0, k1, yf, y0, y1, hfin⟩ := HZ.out w1 (by rw [hrd.out]; simp; intro e; exact absurd (by rw [e]; rfl) h78) B1.out
    replace hfin := Lib.hid hfin
    replace h78 := Lib.hid h78
    clear hr1
    go_wp2_with fail
    exact bodyPost_ret (v := .tuple #[.agg #[.int .i64 0, .slice none 0 0], .int .i64 8]) (by simp [results, Tryz.results32, go_sem, k0, k1]) rfl hfin.out
  have t0 : ((x0.toNat : Int) != 78) = false := by simpa using h78
  have h78' := Lib.hid (show x0 = 78 from UInt8.toNat.inj (by show x0.toNat = 78; omega))
  replace h78 := Lib.hid h78
  obtain ⟨mn, hmn⟩ : ∃ m, manyN bd = m := ⟨_, rfl⟩
  have hmlt := manyN_lt bd
  rw [hmn] at hmlt hrd
  have z2' : w1.cell? ⟨ad.block, ad.off + 2, none⟩ = some (.int .u8 (mn : Int)) := by rw [← hmn]; exact z2
  have hmn' := Lib.hid hmn
  clear z2 hr1 hmn
  have had3 : ad.add 3 = ⟨ad.block, ad.off + 3, none⟩ := by simp [Addr.add]
  rw [had3] at hrest
  have hres := Lib.hid (fun W (hW : Below w1.heap.size w1 W) => nodeCut_own _ (bd.drop 3) mn hmlt W (stab_by.old hrest.out hW))
  go_upto_region 6 with fail
  obtain ⟨L, hL⟩ : ∃ L, cutL (bd.drop 3) mn = L := ⟨_, rfl⟩
  obtain ⟨R, hR⟩ : ∃ R, cutR (bd.drop 3) mn = R := ⟨_, rfl⟩
  obtain ⟨F, hF⟩ : ∃ F, cutF (bd.drop 3) mn = F := ⟨_, rfl⟩
  rw [hL, hR, hF] at hres
  have c3 : ¬ cq = 3 := by omega
  have c4 : (3 : Int) ≤ cq := by omega
  have hwm : IntKind.i64.wrap (mn : Int) = (mn : Int) := IntWalk.i64_in _ (by omega)
  refine wp_region_fx (by kernel_rfl) (fun W => Below w1.heap.size w1 W) (fun i => match i with
      | 6 => some (fun v W => ∃ A c u, v = .tuple #[.slice A L.length c, u, .int .i64 F] ∧ RowOf rIt 5 40 w1.heap.size W A c L ∧ rBy (Old W) W [u] R)
      | 7 => some (fun v W => ∃ A c u, v = .tuple #[.slice A L.length c, u, .int .i64 F] ∧ RowOf rIt 5 40 w1.heap.size W A c L ∧ rBy (Old W) W [u] R)
      | 8 => some (fun v W => ∃ A c, v = .slice A L.length c ∧ RowOf rIt 5 40 w1.heap.size W A c L)
      | 9 => some (fun v W => rBy (Old W) W [v] R)
      | _ => none) (fun i => match i with
      | 10 => some (.int .i64 F)
      | _ => none) (by kernel_rfl) (Below.refl _ _).drew (fun w w' h hb => h.trans (hb.mono h.size)) ?tst ?_
  case tst =>
    intro j φ x W W' hp hx hb
    match j, hp with
    | 6, hp =>
      cases hp
      obtain ⟨A, c, u, e, h1, h2⟩ := hx
      exact ⟨A, c, u, e, h1.below stab_it hb, stab_by.old h2 hb⟩
    | 7, hp =>
      cases hp
      obtain ⟨A, c, u, e, h1, h2⟩ := hx
      exact ⟨A, c, u, e, h1.below stab_it hb, stab_by.old h2 hb⟩
    | 8, hp =>
      cases hp
      obtain ⟨A, c, e, h1⟩ := hx
      exact ⟨A, c, e, h1.below stab_it hb⟩
    | 9, hp => cases hp; exact stab_by.old hx hb
  repeat (first
    | (refine wpAs_skip rfl ?_; simp only [Act.put, List.setIfInBounds_toArray, List.set_cons_zero, List.set_cons_succ])
    | (refine wpAs_pure (v := ?_) rfl rfl ?_ ?_; rotate_left; (intro W hC hE; clear hE; (have y2 := (hC.cell (p := ⟨ad.block, ad.off + 2, none⟩) ltb).trans z2'); clear hC; go_simp; done); simp only [Act.put, List.setIfInBounds_toArray, List.set_cons_zero, List.set_cons_succ])
    | (refine wpAs_pure (v := ?_) rfl rfl ?_ ?_; rotate_left; (intro W hC hE; clear hE; (have y2 := (hC.cell (p := ⟨ad.block, ad.off + 2, none⟩) ltb).trans z2'); clear hC; go_simp; with_reducible rfl); simp only [Act.put, List.setIfInBounds_toArray, List.set_cons_zero, List.set_cons_succ]))
  refine wpAs_act rfl rfl ?_ ?_
  · intro W hC hE
    refine does_enter (f := 55) (args := #[.slice (some ⟨ad.block, ad.off + 3, none⟩) 121 (cq - 3), .int .i64 mn]) ?_ ?_
    · go_simp
    · refine (hres.out W hC).mono ?_
      rintro e W' ⟨A, c, u, rfl, h1, h2, hw⟩
      exact ⟨_, rfl, ⟨A, c, u, rfl, h1.low stab_it hC.size, h2⟩, hw⟩
  simp only [Act.put, List.setIfInBounds_toArray, List.set_cons_zero, List.set_cons_succ, envAdd]
  intro x30
  refine wpAs_act rfl rfl ?_ ?_
  · intro W hC hE
    have hx := hE.1 rfl
    clear hE
    go_simp
    exact ⟨hx, Below.refl _ _⟩
  simp only [Act.put, List.setIfInBounds_toArray, List.set_cons_zero, List.set_cons_succ, envAdd]
  intro x23
  refine wpAs_act rfl rfl ?_ ?_
  · intro W hC hE
    obtain ⟨A, c, u, rfl, h1, h2⟩ := hE.1 rfl
    clear hE
    have H1 := Lib.hid h1
    clear h1 h2
    go_simp
    exact ⟨⟨_, _, rfl, H1.out⟩, Below.refl _ _⟩
  simp only [Act.put, List.setIfInBounds_toArray, List.set_cons_zero, List.set_cons_succ, envAdd]
  intro x31
  refine wpAs_act rfl rfl ?_ ?_
  · intro W hC hE
    obtain ⟨A, c, u, rfl, h1, h2⟩ := hE.2.1 rfl
    clear hE
    have H2 := Lib.hid h2
    clear h1 h2
    go_simp
    exact ⟨H2.out, Below.refl _ _⟩
  simp only [Act.put, List.setIfInBounds_toArray, List.set_cons_zero, List.set_cons_succ, envAdd]
  intro x32
  refine wpAs_fixed rfl rfl rfl ?_ ?_
  · intro W hC hE
    obtain ⟨A, c, u, rfl, h1, h2⟩ := hE.2.2.1 rfl
    clear hE h1 h2
    go_simp
    exact ⟨rfl, Below.refl _ _⟩
  simp only [Act.put, List.setIfInBounds_toArray, List.set_cons_zero, List.set_cons_succ]
  repeat (first
    | (refine wpAs_skip rfl ?_; simp only [Act.put, List.setIfInBounds_toArray, List.set_cons_zero, List.set_cons_succ])
    | (refine wpAs_pure (v := ?_) rfl rfl ?_ ?_; rotate_left; (intro W hC hE; clear hE; skip; clear hC; go_simp; done); simp only [Act.put, List.setIfInBounds_toArray, List.set_cons_zero, List.set_cons_succ])
    | (refine wpAs_pure (v := ?_) rfl rfl ?_ ?_; rotate_left; (intro W hC hE; clear hE; skip; clear hC; go_simp; with_reducible rfl); simp only [Act.put, List.setIfInBounds_toArray, List.set_cons_zero, List.set_cons_succ]))
  refine wpAs_end fun wc hC hE => ?_
  have H31 := hE.2.1
  have H32 := hE.1
  clear hE
  have BC := Lib.hid (B1.out.trans (hC.mono B1.out.size))
  have y1 := (hC.cell (p := ⟨ad.block, ad.off + 1, none⟩) ltb).trans z1
  clear hC
  obtain ⟨X, cx, rfl, R31⟩ := H31
  have H31 := R31.rel stab_it
  obtain ⟨n3, n4, _, _⟩ := R31.form
  replace R31 := Lib.hid R31
  obtain ⟨Y, cy, rfl, n5, n6, hy32⟩ := rBy_byt (B := wc.heap.size) (fun p hp => hp) H32
  cases hct : cutTo (bd.drop 3) mn with
  | none =>
    have hF8 : F = 8 := by rw [← hF]; simp [cutF, hct]
    subst hF8
    obtain ⟨W9, e9, k0, k1, yf, u0, u1, hfin⟩ := HZ.out wc (by rw [hrd.out, hct]; simp) BC.out
    replace hfin := Lib.hid hfin
    replace hct := Lib.hid hct
    replace hF := Lib.hid hF
    clear H31 H32 hy32
    go_wp2_with fail
    exact bodyPost_ret (v := .tuple #[.agg #[.int .i64 0, .slice none 0 0], .int .i64 8]) (by simp [results, Tryz.results32, go_sem, k0, k1]) rfl hfin.out
  | some p =>
    obtain ⟨l', r'⟩ := p
    have hF0 : F = 0 := by rw [← hF]; simp [cutF, hct]
    subst hF0
    have hsome := Lib.hid (show (cutTo (bd.drop 3) mn).isSome = true by rw [hct]; rfl)
    replace hct := Lib.hid hct
    replace hF := Lib.hid hF
    replace hL := Lib.hid hL
    replace hR := Lib.hid hR
    obtain ⟨lv, hlv⟩ : ∃ lv, lvlN bd = lv := ⟨_, rfl⟩
    have hlin := Lib.hid (lvlN_in bd)
    have hnd := Lib.hid (show ndN bd = (lv, L) by rw [ndN, hlv, hmn'.out, hL.out])
    rw [hlv] at hlin
    have y1' : wc.cell? ⟨ad.block, ad.off + 1, none⟩ = some (.int .u8 lv) := by rw [← hlv]; exact y1
    have hlw : IntKind.i64.wrap lv = lv := IntWalk.i64_in _ (by have := hlin.out; exact ⟨this.1, this.2⟩)
    replace hlv := Lib.hid hlv
    clear y1
    obtain ⟨w2, hw2, b2, hs2, hB2⟩ := box_pair' wc (.int .i64 lv) (.slice X L.length cx) 45
    obtain ⟨f1, f2, _, lt2⟩ := two_cells b2
    have N2 : Nod (New w1.heap.size w2) w2 (.agg #[.int .i64 lv, .slice X L.length cx]) (lv, L) := ⟨_, rfl, hlin.out, stab_its.new H31 (Nat.le_refl _) hB2⟩
    have HN2 := Lib.hid N2
    have HR2 := Lib.hid (show NodR w1.heap.size w2 (.agg #[.int .i64 lv, .slice X L.length cx]) (lv, L) from ⟨X, cx, rfl, hlin.out, R31.out.below stab_it hB2⟩)
    have B2 := Lib.hid (BC.out.trans (hB2.mono BC.out.size))
    have HY2 := Lib.hid ((hy32.below hB2).more hB2.size)
    replace hs2 := Lib.hid hs2
    replace b2 := Lib.hid b2
    clear H31 H32 hy32 N2 hB2
    go_upto_region 10 with fail
    clear hw2 y1'
    go_wp2_with fail
    with_reducible refine (checkN_any _ (lv, L) _ HN2.out.drop).mono ?_
    rintro e3 w3 ⟨rfl, hb3⟩
    have B3 := Lib.hid (B2.out.trans (hb3.mono B2.out.size))
    have HN3 := Lib.hid (HR2.out.new (Nat.le_refl _) hb3)
    have g1 := (hb3.cell (p := ⟨wc.heap.size, 0, none⟩) lt2).trans f1
    have g2 := (hb3.cell (p := ⟨wc.heap.size, 1, none⟩) lt2).trans f2
    have HY3 := Lib.hid ((HY2.out.below hb3).more hb3.size)
    have lt3 : wc.heap.size < w3.heap.size := Nat.lt_of_lt_of_le lt2 hb3.size
    clear hb3 f1 f2
    rcases bool_two (mayN (lv, L)) with hm | hm
    · have hc := Lib.hid (chkN_bad hm)
      obtain ⟨W9, e9, k0, k1, yf, u0, u1, hfin⟩ := HZ.out w3 (by rw [hrd.out, hnd.out, hm]; simp) B3.out
      replace hfin := Lib.hid hfin
      replace hm := Lib.hid hm
      rw [hc.out]
      go_wp2_with fail
      exact bodyPost_ret (v := .tuple #[.agg #[.int .i64 0, .slice none 0 0], .int .i64 8]) (by simp [results, Tryz.results32, go_sem, k0, k1]) rfl hfin.out
    have hc := Lib.hid (chkN_ok hm)
    rw [hc.out]
    obtain ⟨rl, hrl⟩ : ∃ n, R.length = n := ⟨_, rfl⟩
    rw [hrl] at n5 ⊢
    replace hrl := Lib.hid hrl
    go_wp2_with fail
    with_reducible refine (noughts_any Y rl cy R hrl n5 n6 _ HY3.out).mono ?_
    rintro e4 w4 ⟨rfl, rfl⟩
    rcases bool_two (noughtsB R) with hz | hz
    · obtain ⟨W9, e9, k0, k1, yf, u0, u1, hfin⟩ := HZ.out w3 (by rw [hrd.out, hnd.out, hR.out, hz]; simp) B3.out
      replace hfin := Lib.hid hfin
      rw [hz]
      replace hz := Lib.hid hz
      replace hm := Lib.hid hm
      go_wp2_with fail
      exact bodyPost_ret (v := .tuple #[.agg #[.int .i64 0, .slice none 0 0], .int .i64 8]) (by simp [results, Tryz.results32, go_sem, k0, k1]) rfl hfin.out
    · have hgood := Lib.hid (HG.out (by rw [hrd.out, hnd.out, hR.out, hz, hm, hsome.out, h78'.out]; rfl))
      have bW := (B3.out.block w.heap.size lt0).trans b0.out
      obtain ⟨W9, e9, g9, gr9, gs9⟩ := put_two (u := .int .i64 lv) (v := .slice X L.length cx) bW
      obtain ⟨k0, k1, kf, _⟩ := two_cells g9
      obtain ⟨u0, u1, yf, _⟩ := two_cells bW
      have hBW := HB0.out.trans (B3.out.mono HB0.out.size)
      have hfin : Hid (NodR w.heap.size W9 (.agg #[.int .i64 lv, .slice X L.length cx]) (reV b) ∧ Below w.heap.size w W9) := Lib.hid ⟨by
        rw [hgood.out.2, hnd.out]
        exact (HN3.out.grown gr9 (fun q e => by cases e; exact Nat.lt_of_lt_of_le lt0 B1.out.size)).new hBW1.out (Below.refl _ _), hBW.grown gr9 hBW.size (fun q e => by cases e; omega)⟩
      rw [hz]
      replace hz := Lib.hid hz
      replace hm := Lib.hid hm
      replace bW := Lib.hid bW
      replace g9 := Lib.hid g9
      clear gr9
      go_wp2_with fail
      exact bodyPost_ret (v := .tuple #[.agg #[.int .i64 lv, .slice X L.length cx], .int .i64 0]) (by simp [results, Tryz.results32, go_sem, k0, k1]) rfl ⟨_, by rw [hgood.out.1], hfin.out.1, hfin.out.2⟩
end Go.Proofs.YtogieepfimpdmaaGreat

/-
  Package node: Place. Conditions: those that each lemma states.
-/
namespace Go.Proofs.YtogieepfimpdmaaGreat
open Go.RowKit

def cntK (l : List It) (k : Ky) : Nat := (l.filter fun x => lessK x.1 k).length
theorem cntK_le (l : List It) (k : Ky) : cntK l k ≤ l.length := List.length_filter_le _ _
theorem cntK_take (l : List It) (k : Ky) (i : Nat) : cntK (l.take i) k ≤ i := Nat.le_trans (cntK_le _ _) (List.length_take_le _ _)
theorem cntK_yes {l : List It} {k : Ky} {i : Nat} {x : It} (hx : l[i]? = some x) (h : lessK x.1 k = true) : cntK (l.take (i + 1)) k = cntK (l.take i) k + 1 := by
  unfold cntK
  rw [List.take_add_one, hx, Option.toList_some, List.filter_append]
  simp [h]
theorem cntK_no {l : List It} {k : Ky} {i : Nat} {x : It} (hx : l[i]? = some x) (h : lessK x.1 k = false) : cntK (l.take (i + 1)) k = cntK (l.take i) k := by
  unfold cntK
  rw [List.take_add_one, hx, Option.toList_some, List.filter_append]
  simp [h]
def placeN (n : Nd) (k : Ky) : Nat := cntK n.2 k
def thereN (n : Nd) (k : Ky) : Bool := match n.2[placeN n k]? with
  | none => false
  | some x => decide (x.1 = k)
theorem thereN_out {n : Nd} {k : Ky} (h : n.2.length ≤ placeN n k) : thereN n k = false := by
  unfold thereN
  rw [List.getElem?_eq_none h]
theorem thereN_at {n : Nd} {k : Ky} {x : It} (h : n.2[placeN n k]? = some x) : thereN n k = decide (x.1 = k) := by
  unfold thereN
  rw [h]
set_option maxRecDepth 100000 in
theorem key_guard : Tryz.prog.eqGuardType Tryz.prog.depth 37 = false := by kernel_rfl
set_option maxRecDepth 100000 in
/-- Two keys held against each other, as the walk spells it. -/
theorem key_eq (a b : Ky) (w : World) : (Op.equalIn 10000 37 (kyV a) (kyV b)).run Tryz.prog w = .ok (decide (a = b)) w := by
  have hS : Tryz.prog.underlying 37 = some (.struct (Tryz.prog.fieldsOf 37)) := by kernel_rfl
  have hp : Tryz.prog.stoodInHeld 37 = false := by kernel_rfl
  have u3 := Tryz.underlying5
  have u4 := Tryz.underlying32
  have a3 := Tryz.isAgg5
  have z3 := Tryz.sizeOf5
  have a4 := Tryz.isAgg32
  have z4 := Tryz.sizeOf32
  obtain ⟨a1, a2, a3⟩ := a
  obtain ⟨b1, b2, b3⟩ := b
  have h : a1 = b1 ↔ (a1.toNat : Int) = b1.toNat := ⟨fun h => by rw [h], fun h => UInt8.toNat.inj (by omega)⟩
  simp only [Prod.mk.injEq, h]
  unfold kyV
  rw [show (10000 : Nat) = 9999 + 1 from rfl, run_equalIn_agg w 9999 37 _ _ hS hp]
  simp only [Program.fieldsOf, Tryz.underlying37]
  go_simp
  by_cases h1 : (a1.toNat : Int) = b1.toNat <;> by_cases h2 : a2 = b2 <;> by_cases h3 : a3 = b3 <;> simp [h1, h2, h3]

set_option maxRecDepth 100000 in
set_option maxHeartbeats 4000000 in
theorem nodePlace_any (v : Value) (n : Nd) (key : Ky) (w : World) (h : Nod (Old w) w v n) :
    Calls Tryz.prog 29 #[v, kyV key] w fun e w' => e = .returned (.tuple #[.int .i64 (placeN n key : Nat), .bool (thereN n key)]) ∧ Below w.heap.size w w' := by
  obtain ⟨A, c, rfl, _, l1, m1, hA⟩ := h.open
  have HA := Lib.hid hA
  clear h hA
  have hout := Lib.hid (fun hh => thereN_out (n := n) (k := key) hh)
  obtain ⟨m, hm⟩ : ∃ m, n.2.length = m := ⟨_, rfl⟩
  obtain ⟨l, hl⟩ : ∃ l, n.1 = l := ⟨_, rfl⟩
  rw [hm] at l1 HA hout ⊢
  rw [hl]
  clear hl
  replace hm := Lib.hid hm
  obtain ⟨w1, hw1, b1, hs1, hB1⟩ := box_pair' w (.int .i64 l) (.slice A m c) 45
  obtain ⟨w0, hw0, g0, g1, g2, hs0, hB2, _⟩ := box_three w1 (.int .u8 (key.1.toNat : Int)) (.int .u32 key.2.1) (.int .u32 key.2.2) 37
  obtain ⟨_, f2', _, lt1⟩ := two_cells b1
  have f2 := (hB2.cell (p := ⟨w.heap.size, 1, none⟩) lt1).trans f2'
  have hB0 := Lib.hid (hB1.trans (hB2.mono hB1.size))
  have lt0 : w.heap.size < w0.heap.size := Nat.lt_of_lt_of_le lt1 hB2.size
  have ltk : w1.heap.size < w0.heap.size := by omega
  have hB := Lib.hid (fun wr (hb : Below w0.heap.size w0 wr) => hB0.out.trans (hb.mono hB0.out.size))
  clear hB1 hB2 b1 f2'
  replace hs1 := Lib.hid hs1
  replace hs0 := Lib.hid hs0
  unfold kyV
  go_enter Tryz.func29, Tryz.ntmps29
  go_upto_region 1 with fail
  clear hw0 hw1
  go_wp2_with fail
  go_loopw [4, 11] (fun a i wr => ∃ k : Nat, k ≤ m ∧ i = .int .i64 k ∧ a = .int .i64 (cntK (n.2.take k) key : Nat) ∧ Below w0.heap.size w0 wr) (fun _ i _ => m - (intOf i).toNat)
  case atStart => exact ⟨0, by omega, rfl, rfl, Below.refl _ _⟩
  case round =>
    obtain ⟨k, hk, rfl, rfl, hb⟩ := hrel
    have hcle := cntK_take n.2 key k
    replace hb := Lib.hid hb
    have p2 := (hb.out.cell (p := ⟨w.heap.size, 1, none⟩) lt0).trans f2
    have y0 := (hb.out.cell (p := ⟨w1.heap.size, 0, none⟩) ltk).trans g0
    have y1 := (hb.out.cell (p := ⟨w1.heap.size, 1, none⟩) ltk).trans g1
    have y2 := (hb.out.cell (p := ⟨w1.heap.size, 2, none⟩) ltk).trans g2
    have BF := Lib.hid (hB.out _ hb.out)
    by_cases hlt : k < m
    case neg =>
      have hkm : Hid (n.2.take k = n.2) := Lib.hid (List.take_of_length_le (by rw [hm.out]; omega))
      have hat := Lib.hid (show cntK (n.2.take k) key = placeN n key by rw [hkm.out]; rfl)
      rw [hat.out] at hcle ⊢
      obtain ⟨p, hp⟩ : ∃ p, placeN n key = p := ⟨_, rfl⟩
      rw [hp] at hcle hout ⊢
      by_cases hpm : p < m
      · obtain ⟨x, hx⟩ : ∃ x, n.2[p]? = some x := ⟨_, List.getElem?_eq_getElem (by rw [hm.out]; exact hpm)⟩
        obtain ⟨ad, E, ce, rfl, _, _, _, FX⟩ := its_old HA.out hx
        obtain ⟨⟨z0, z1, z2, z3, z4⟩, _⟩ := FX wr BF.out
        have hth := Lib.hid (show decide (x.1 = key) = thereN n key from (thereN_at (by rw [hp]; exact hx)).symm)
        have he := key_eq x.1 key
        have hg := key_guard
        unfold kyV at he
        replace hp := Lib.hid hp
        replace hx := Lib.hid hx
        have i1 : (p : Int) < (m : Int) := by omega
        have i0 : (0 : Int) ≤ (p : Int) := by omega
        clear FX
        go_wp2_with fail
        go_quiet (fail)
        go_wp2_with fail
        go_ret2
        exact ⟨by rw [hp.out, hth.out]; rfl, below_drewN BF.out _⟩
      · have hth := Lib.hid (hout.out (by omega))
        have i1 : ¬ (p : Int) < (m : Int) := by omega
        replace hp := Lib.hid hp
        go_wp2_with fail
        go_quiet (fail)
        go_wp2_with fail
        go_ret2
        exact ⟨by rw [hp.out, hth.out]; rfl, below_drewN BF.out _⟩
    obtain ⟨x, hx⟩ : ∃ x, n.2[k]? = some x := ⟨_, List.getElem?_eq_getElem (by rw [hm.out]; exact hlt)⟩
    obtain ⟨ad, E, ce, rfl, q1, q2, hinx, FX⟩ := its_old HA.out hx
    obtain ⟨⟨z0, z1, z2, z3, z4⟩, _⟩ := FX wr BF.out
    obtain ⟨w2, hw2, r0, r1, r2, _, _, hs2, hB2, _⟩ := box_five wr (.int .u8 (x.1.1.toNat : Int)) (.int .u32 x.1.2.1) (.int .u32 x.1.2.2) (.int .i64 x.2.1) (.slice E x.2.2.length ce) 40
    have B2 := Lib.hid (hb.out.trans (hB2.mono hb.out.size))
    have v0 := (B2.out.cell (p := ⟨w1.heap.size, 0, none⟩) ltk).trans g0
    have v1 := (B2.out.cell (p := ⟨w1.heap.size, 1, none⟩) ltk).trans g1
    have v2 := (B2.out.cell (p := ⟨w1.heap.size, 2, none⟩) ltk).trans g2
    have hyes := Lib.hid (fun hh => cntK_yes (k := key) hx hh)
    have hno := Lib.hid (fun hh => cntK_no (k := key) hx hh)
    replace hx := Lib.hid hx
    replace hs2 := Lib.hid hs2
    clear FX hB2 hinx
    go_upto_region 4 with fail
    clear hw2 z0 z1 z2 z3 z4 y0 y1 y2
    go_wp2_with fail
    with_reducible refine (less_any x.1 key _).mono ?_
    rintro e3 w3 ⟨rfl, hb3⟩
    have B3 := Lib.hid (B2.out.trans (hb3.mono B2.out.size))
    clear hb3
    obtain ⟨s, hs⟩ : ∃ s, lessK x.1 key = s := ⟨_, rfl⟩
    rw [hs] at hyes hno ⊢
    replace hs := Lib.hid hs
    obtain ⟨q, hq⟩ : ∃ q, cntK (n.2.take k) key = q := ⟨_, rfl⟩
    rw [hq] at hyes hno hcle ⊢
    replace hq := Lib.hid hq
    cases s with
    | true =>
      have hn := Lib.hid (hyes.out rfl)
      go_wp2_with fail
      go_roundw
      case rel => exact ⟨k + 1, by omega, by go_num, by rw [hn.out]; go_num, B3.out⟩
      case measure => simp [intOf]; omega
    | false =>
      have hn := Lib.hid (hno.out rfl)
      go_wp2_with fail
      go_roundw
      case rel => exact ⟨k + 1, by omega, by go_num, by rw [hn.out], B3.out⟩
      case measure => simp [intOf]; omega
end Go.Proofs.YtogieepfimpdmaaGreat

/-
  What nodes and their blocks tell of one another, plain. Layer 6's law helper alive. Conditions: those that each lemma states.
-/
namespace Go.Proofs.YtogieepfimpdmaaGreat
open Go.RowKit

structure InN (n : Nd) : Prop where
  lv : In64 n.1
  it : ∀ x ∈ n.2, InI x
theorem Nod.inN {ok : Addr → Prop} {w : World} {v : Value} {n : Nd} (h : Nod ok w v n) : InN n := by
  obtain ⟨A, c, _, h1, _, _, h2⟩ := h.open
  refine ⟨h1, fun x hx => ?_⟩
  obtain ⟨k, hk⟩ := List.mem_iff_getElem?.1 hx
  obtain ⟨_, _, _, _, _, _, _, _, _, hi⟩ := its_at h2 hk
  exact hi
theorem cutTo_its (l : List It) (xs : List UInt8) (h : ∀ x ∈ l, mayI x = true ∧ InI x) : ∀ k, k ≤ l.length → cutTo (itsB l ++ xs) k = some (l.take k, itsB (l.drop k) ++ xs)
  | 0, _ => by simp [cutTo]
  | k + 1, hk => by
    have hx : l[k]? = some l[k] := List.getElem?_eq_getElem hk
    obtain ⟨h1, h2⟩ := h l[k] (List.getElem_mem hk)
    have hd : itsB (l.drop k) ++ xs = itB l[k] ++ (itsB (l.drop (k + 1)) ++ xs) := by
      rw [List.drop_eq_getElem_cons hk, show itsB (l[k] :: l.drop (k + 1)) = itB l[k] ++ itsB (l.drop (k + 1)) from rfl, List.append_assoc]
    have ih := cutTo_its l xs h k (by omega)
    rw [hd] at ih
    obtain ⟨q0, q1, q2, _⟩ := itB_read l[k] (itsB (l.drop (k + 1)) ++ xs) h2 h1
    rw [cutTo_yes ih q0, q1, q2, List.take_add_one, hx]
    simp
theorem zeros_noughts (k : Nat) : noughtsB (zeros k) = true := by simp [noughtsB, zeros]
theorem noughts_zeros {b : List UInt8} (h : noughtsB b = true) : b = zeros b.length := by
  simp only [noughtsB, List.all_eq_true, beq_iff_eq] at h
  exact List.eq_replicate_iff.2 ⟨rfl, h⟩
theorem told_parts (n : Nd) : toldN n = [78, UInt8.ofNat n.1.toNat, UInt8.ofNat n.2.length] ++ itsB n.2 := rfl
/-- What is written is read. -/
theorem read_blkN {n : Nd} (h : mayN n = true) (hi : InN n) : reN (blkN n) = 0 ∧ reV (blkN n) = n := by
  have hl := toldN_len h
  obtain ⟨⟨s1, s2, s3, _⟩, _⟩ := mayN_of h
  have hob : ob (blkN n) = padN (toldN n) := by
    unfold ob
    rw [if_pos ⟨blkN_length h, fits_seal _⟩]
    exact seal_drop _
  have hoe : oe (blkN n) = 0 := by
    unfold oe
    rw [if_pos (blkN_length h), if_pos (show fits (blkN n) from fits_seal _)]
  obtain ⟨z, hz⟩ : ∃ z, 124 - (toldN n).length = z := ⟨_, rfl⟩
  have hp : padN (toldN n) = 78 :: UInt8.ofNat n.1.toNat :: UInt8.ofNat n.2.length :: (itsB n.2 ++ zeros z) := by
    rw [padN, hz, told_parts]
    simp
  have h0 : (ob (blkN n))[0]?.getD 0 = 78 := by rw [hob, hp]; rfl
  have h1 : lvlN (ob (blkN n)) = n.1 := by
    rw [hob, hp]
    show ((UInt8.ofNat n.1.toNat).toNat : Int) = n.1
    rw [UInt8.toNat_ofNat']
    omega
  have h2 : manyN (ob (blkN n)) = n.2.length := by
    rw [hob, hp]
    show (UInt8.ofNat n.2.length).toNat = n.2.length
    rw [UInt8.toNat_ofNat']
    omega
  have h3 : (ob (blkN n)).drop 3 = itsB n.2 ++ zeros z := by rw [hob, hp]; rfl
  have hc : cutTo ((ob (blkN n)).drop 3) (manyN (ob (blkN n))) = some (n.2, zeros z) := by
    rw [h2, h3, cutTo_its n.2 (zeros z) (fun x hx => ⟨mayN_all h x hx, hi.it x hx⟩) n.2.length (Nat.le_refl _)]
    simp [itsB]
  have hnd : ndN (ob (blkN n)) = n := by
    unfold ndN cutL
    rw [hc, h1]
    rfl
  have hr : rdN (ob (blkN n)) = true := by
    unfold rdN cutR
    rw [h0, hc, hnd, h]
    simp [zeros_noughts]
  obtain ⟨e1, e2⟩ := reN_good hoe hr
  exact ⟨e1, by rw [e2, hnd]⟩
/-- What is read is written so. -/
theorem blkN_read {b : List UInt8} (h : reN b = 0) : mayN (reV b) = true ∧ blkN (reV b) = b ∧ InN (reV b) := by
  have hoe : oe b = 0 := by
    unfold reN at h
    by_cases e : oe b = 0
    · exact e
    · rw [if_neg e] at h; exact absurd h e
  have hrd : rdN (ob b) = true := by
    unfold reN at h
    rw [if_pos hoe] at h
    cases e : rdN (ob b) with
    | true => rfl
    | false => rw [e] at h; cases h
  obtain ⟨e1, e2⟩ := reN_good hoe hrd
  obtain ⟨hlen, hfits, hob, h124⟩ := oe_zeroN hoe
  rw [e2]
  obtain ⟨bd, hbd⟩ : ∃ bd, ob b = bd := ⟨_, rfl⟩
  rw [hbd] at hrd h124 ⊢
  unfold rdN at hrd
  simp only [Bool.and_eq_true, decide_eq_true_eq] at hrd
  obtain ⟨h78, hs, hm, hn⟩ := hrd
  cases hc : cutTo (bd.drop 3) (manyN bd) with
  | none => rw [hc] at hs; cases hs
  | some p =>
    obtain ⟨l, r⟩ := p
    have hL : cutL (bd.drop 3) (manyN bd) = l := by simp [cutL, hc]
    have hR : cutR (bd.drop 3) (manyN bd) = r := by simp [cutR, hc]
    obtain ⟨c1, c2, c3⟩ := cutTo_bytes hc
    rw [hR] at hn
    have hnd : ndN bd = (lvlN bd, l) := by rw [ndN, hL]
    have hin : InN (ndN bd) := by
      rw [hnd]
      exact ⟨lvlN_in bd, fun x hx => (c3 x hx).2⟩
    refine ⟨hm, ?_, hin⟩
    have hsplit : bd = [78, bd[1]?.getD 0, bd[2]?.getD 0] ++ bd.drop 3 := by
      match bd, h124, h78 with
      | x :: y :: z :: q, _, h78 =>
        simp at h78
        simp [h78]
    have hT : toldN (ndN bd) = [78, bd[1]?.getD 0, bd[2]?.getD 0] ++ itsB l := by
      rw [hnd, told_parts, c2]
      have e1 : UInt8.ofNat (lvlN bd).toNat = bd[1]?.getD 0 := by simp [lvlN]
      have e2 : UInt8.ofNat (manyN bd) = bd[2]?.getD 0 := by simp [manyN]
      show [78, UInt8.ofNat (lvlN bd).toNat, UInt8.ofNat (manyN bd)] ++ itsB l = _
      rw [e1, e2]
    have hbody : bd = toldN (ndN bd) ++ r := by
      rw [hT, List.append_assoc, ← c1]
      exact hsplit
    have hpad : padN (toldN (ndN bd)) = bd := by
      have hl2 : (toldN (ndN bd)).length + r.length = 124 := by
        have := congrArg List.length hbody
        rw [List.length_append, h124] at this
        omega
      rw [padN, show 124 - (toldN (ndN bd)).length = r.length by omega, ← noughts_zeros hn]
      exact hbody.symm
    show sealN (toldN (ndN bd)) = b
    have hs : sealN (toldN (ndN bd)) = sealN bd := by
      unfold sealN
      rw [hpad, padN_full h124]
    rw [hs, ← hbd, hob]
    exact seal_back hlen hfits
/-! ### alive -/
end Go.Proofs.YtogieepfimpdmaaGreat

/-
  Package node: Twin. Conditions: those that each lemma states.
-/
namespace Go.Proofs.YtogieepfimpdmaaGreat
open Go.RowKit

theorem iv_one {ok : Addr → Prop} {w : World} {d : Value} {xs : List UInt8} (h : rBy ok w [d] xs) : d.oneCell' = true := by
  obtain ⟨_, _, rfl, _⟩ := rBy_open h
  rfl

end Go.Proofs.YtogieepfimpdmaaGreat

/-
  'copy' and 'append' at rows of items whose block is known whole. Conditions: those that each lemma states.
-/
namespace Go.Proofs.YtogieepfimpdmaaGreat
open Go.RowKit

/-- 'copy(dst, src)' at elements of five cells, dst in a block that is known whole. -/
theorem run_copy5 {P : Program} {w : World} (dT sT ty elem : TypeId) (g o dLen dCap : Nat) (a : Addr) (sLen sCap : Nat) (C : List Value) (t : TypeId) (cs : List Value) (k : Nat)
    (hu : P.underlying dT = some (.slice elem)) (hs : (P.info? elem).map (·.size) = some 5)
    (hg : w.heap[g]? = some (.cells C.toArray t (0, 0))) (hk : Nat.min sLen dLen = k) (hn : cs.length = k * 5)
    (hsrc : ∀ j v, cs[j]? = some v → w.cell? (a.add j) = some v) (hfit : o + cs.length ≤ C.length) (h1 : ∀ v ∈ cs, v.oneCell' = true) :
    (Builtin.copy_ #[dT, sT] ty #[.slice (some ⟨g, o, none⟩) dLen dCap, .slice (some a) sLen sCap]).run P w = .ok (goInt k) (w.setRow g (splice C o cs).toArray) := by
  have hl := run_loadCells_list (P := P) w a cs hsrc
  have hst := run_storeCells_at P g o t cs 0 C.toArray w hg (by simpa using hfit) h1
  have hf : (Builtin.firstCells 5 k (.slice (some a) sLen sCap)).run P w = .ok cs.toArray w := by
    have := run_firstCells_some (P := P) w 5 k a sLen sCap cs (by omega) hsrc
    exact this
  cases hq : P.info? elem with
  | none => simp [hq] at hs
  | some i =>
    have hi : i.size = 5 := by simpa [hq] using hs
    simp only [Nat.add_zero] at hst
    simp [Builtin.copy_, run_underlying hu, Builtin.lenOf, sizeOf, typeInfo, hq, hi, hk, hf, hst, splice]

theorem setRow_grown {w : World} {g : Nat} (cs : Array Value) : w.grownBy (w.setRow g cs) (some g) :=
  ⟨rfl, rfl, rfl, by simp [World.setRow], fun k _ hne => setRow_other w g k cs (fun e => hne (by rw [e]))⟩

theorem grown_dN (w : World) (n : Nat) (row : Option Nat) : w.grownBy (w.drewN n) row := ⟨rfl, rfl, rfl, Nat.le_refl _, fun _ _ _ => rfl⟩
theorem grown_undN {w w2 : World} {n : Nat} {r : Option Nat} (h : (w.drewN n).grownBy w2 r) : w.grownBy w2 r := ⟨h.os, h.tape, h.output, h.size, h.block⟩
theorem grown_drew {w w2 : World} {r : Option Nat} (h : w.drew.grownBy w2 r) : w.grownBy w2 r := ⟨h.os, h.tape, h.output, h.size, h.block⟩

theorem wpList_copy5 {P : Program} {w : World} {ops : Array Oper} {rest : List Oper} {o : Oper} {a : Act} {Q : Exit → Act → World → Prop} (hgd : o.guard = none) (d s : Operand) (dT sT : TypeId)
    (ho : o.op = .call { callee := .builtin .copy, args := #[d, s], argTypes := #[dT, sT] }) (elem : TypeId) (hu : P.underlying dT = some (.slice elem)) (hsz : (P.info? elem).map (·.size) = some 5)
    (dp sp : Option Addr) (dLen dCap sLen sCap : Nat) (hd : a.eval d = .slice dp dLen dCap) (hs : a.eval s = .slice sp sLen sCap)
    (g off : Nat) (C : List Value) (t : TypeId) (hg : w.heap[g]? = some (.cells C.toArray t (0, 0))) (cs : List Value) (k : Nat) (hk : Nat.min sLen dLen = k) (hn : cs.length = k * 5)
    (hdp : dp = some ⟨g, off, none⟩) (ad : Addr) (hsp : sp = some ad) (hsrc : ∀ j v, cs[j]? = some v → w.cell? (ad.add j) = some v)
    (hfit : off + cs.length ≤ C.length) (h1 : ∀ v ∈ cs, v.oneCell' = true)
    (h : ∀ w', Hid (w'.heap[g]? = some (.cells (splice C off cs).toArray t (0, 0))) → Hid (w.grownBy w' (some g)) → wpList P ops Q rest (a.put o.dst (goInt k)) w') :
    wpList P ops Q (o :: rest) a w := by
  subst hdp
  subst hsp
  refine wpList_plain hgd fun K hK => ?_
  have hrun := run_copy5 (P := P) dT sT o.type elem g off dLen dCap ad sLen sCap C t cs k hu hsz hg hk hn hsrc hfit h1
  unfold Oper.wp
  simp [execOp, ho, resolve, invoke, builtin, hd, hs, hrun, Result.andThen]
  exact hK _ _ (h _ (show _ = _ by simpa using setRow_heap w g _ _ t _ hg) (setRow_grown _))

/-- 'clear' of no element. -/
theorem wpList_clear0 {P : Program} {w : World} {ops : Array Oper} {rest : List Oper} {o : Oper} {a : Act} {Q : Exit → Act → World → Prop} (hgd : o.guard = none) (x : Operand) (t : TypeId)
    (ho : o.op = .call { callee := .builtin .clear, args := #[x], argTypes := #[t] }) (elem : TypeId) (hu : P.underlying t = some (.slice elem)) (A : Option Addr) (c : Nat) (hx : a.eval x = .slice A 0 c)
    (h : wpList P ops Q rest (a.put o.dst (.tuple #[])) w) : wpList P ops Q (o :: rest) a w := by
  refine wpList_plain hgd fun K hK => ?_
  have hrun : (Builtin.clear_ #[t] o.type #[.slice A 0 c]).run P w = .ok (.tuple #[]) w := by
    cases A <;> simp [Builtin.clear_, run_underlying hu]
  unfold Oper.wp
  simp [execOp, ho, resolve, invoke, builtin, hx, hrun, Result.andThen]
  exact hK _ _ h

/-! ### Plain -/
theorem splice_ahead {C Y : List Value} {a : Nat} (h : a ≤ C.length) : (splice C a Y).take (a + Y.length) = C.take a ++ Y := by
  unfold splice
  rw [← List.append_assoc, List.take_append_of_le_length (by simp; omega)]
  exact List.take_of_length_le (by simp; omega)
theorem splice_past {C Y : List Value} {a k : Nat} (h : a + Y.length ≤ C.length) (hk : a + Y.length ≤ k) : (splice C a Y)[k]? = C[k]? := by
  unfold splice
  rw [List.getElem?_append_right (by rw [List.length_take]; omega), List.length_take, Nat.min_eq_left (by omega), List.getElem?_append_right (by omega), List.getElem?_drop]
  congr 1
  omega
theorem cell_block5 {w : World} {b k : Nat} {C : List Value} {t : TypeId} (h : w.heap[b]? = some (.cells C.toArray t (0, 0))) : w.cell? ⟨b, k, none⟩ = C[k]? := by
  rw [cell_of_row w b k _ _ _ h]
  simp
/-- Two parts laid, the one ahead first. -/
theorem splice_two {C Y X : List Value} {a b : Nat} (hb : b = a + Y.length) (h : b + X.length ≤ C.length) : (splice (splice C a Y) b X).take (b + X.length) = C.take a ++ (Y ++ X) := by
  subst hb
  have hl : (splice C a Y).length = C.length := length_splice C a Y (by omega)
  rw [splice_ahead (by rw [hl]; omega), splice_ahead (by omega), List.append_assoc]
/-- Two parts laid, the one behind first. -/
theorem splice_back {C Y X : List Value} {a b : Nat} (hb : b = a + Y.length) (h : b + X.length ≤ C.length) : (splice (splice C b X) a Y).take (b + X.length) = C.take a ++ (Y ++ X) := by
  subst hb
  have hl : (splice C (a + Y.length) X).length = C.length := length_splice C _ X (by omega)
  have e1 : (splice C (a + Y.length) X).take a = C.take a := by
    unfold splice
    rw [List.take_append_of_le_length (by simp; omega), List.take_take, Nat.min_eq_left (by omega)]
  have e2 : ((splice C (a + Y.length) X).drop (a + Y.length)).take X.length = X := by
    unfold splice
    rw [List.drop_append, List.drop_of_length_le (by rw [List.length_take]; exact Nat.min_le_left _ _), List.length_take, Nat.min_eq_left (by omega), Nat.sub_self, List.drop_zero, List.nil_append, List.take_append_of_le_length (by simp), List.take_of_length_le (by simp)]
  generalize splice C (a + Y.length) X = S at *
  unfold splice
  rw [e1, ← List.append_assoc, List.take_append, List.take_of_length_le (by simp; omega), List.append_assoc]
  congr 2
  rw [show a + Y.length + X.length - (C.take a ++ Y).length = X.length by simp; omega]
  exact e2
theorem cells5_app : ∀ (a b : List Iv), cells5 (a ++ b) = cells5 a ++ cells5 b
  | [], _ => rfl
  | x :: r, b => by
    show cell5 x ++ cells5 (r ++ b) = (cell5 x ++ cells5 r) ++ cells5 b
    rw [cells5_app r b, List.append_assoc]
theorem cells5_cons (x : Iv) (r : List Iv) : cells5 (x :: r) = cell5 x ++ cells5 r := rfl
theorem cells5_take : ∀ (ps : List Iv) (k : Nat), cells5 (ps.take k) = (cells5 ps).take (k * 5)
  | [], k => by
    rw [List.take_nil]
    exact List.take_nil.symm
  | x :: r, 0 => by
    rw [Nat.zero_mul, List.take_zero, List.take_zero]
    rfl
  | x :: r, k + 1 => by
    rw [List.take_succ_cons, cells5_cons, cells5_cons, cells5_take r k, List.take_append, show (cell5 x).length = 5 from rfl, show (k + 1) * 5 - 5 = k * 5 by omega, List.take_of_length_le (show (cell5 x).length ≤ (k + 1) * 5 by show 5 ≤ _; omega)]
theorem cells5_drop : ∀ (ps : List Iv) (k : Nat), cells5 (ps.drop k) = (cells5 ps).drop (k * 5)
  | [], k => by
    rw [List.drop_nil]
    exact List.drop_nil.symm
  | x :: r, 0 => by
    rw [Nat.zero_mul, List.drop_zero, List.drop_zero]
  | x :: r, k + 1 => by
    rw [List.drop_succ_cons, cells5_cons, cells5_drop r k, List.drop_append, show (cell5 x).length = 5 from rfl, show (k + 1) * 5 - 5 = k * 5 by omega, List.drop_of_length_le (show (cell5 x).length ≤ (k + 1) * 5 by show 5 ≤ _; omega), List.nil_append]

/-! ### Rows of items, told to the cell -/
/-- A row of the call's own that is no nil slice: its block. -/
theorem own_block5 {w : World} {lo n c : Nat} {ad : Addr} {t : TypeId} {xs : List Value} (h : w.ownsRow lo t 5 (.slice (some ad) n c) n xs) :
    ∃ b C, ad = ⟨b, 0, none⟩ ∧ lo ≤ b ∧ b < w.heap.size ∧ w.heap[b]? = some (.cells (List.toArray C) t (0, 0)) ∧ n ≤ c ∧ c ≤ maxLen ∧ C.length = c * 5 ∧ C.take (n * 5) = xs := by
  rcases h.2 with ⟨e, _⟩ | ⟨g, cap, cur, e, hb, hg, h1, h2, h3, h4⟩
  · cases e
  · cases e
    exact ⟨g, cur.toList, rfl, hb, (Array.getElem?_eq_some_iff.1 hg).1, by simpa using hg, h1, h2, by simpa using h3, h4⟩
theorem own_from5 {w : World} {lo b n c : Nat} {t : TypeId} {C xs : List Value} (hb : lo ≤ b) (hg : w.heap[b]? = some (.cells C.toArray t (0, 0))) (h1 : n ≤ c) (h2 : c ≤ maxLen) (h3 : C.length = c * 5) (h4 : C.take (n * 5) = xs) : w.ownsRow lo t 5 (.slice (some ⟨b, 0, none⟩) n c) n xs :=
  ⟨by rw [← h4, List.length_take, h3]; omega, .inr ⟨b, c, C.toArray, rfl, hb, hg, h1, h2, by simpa using h3, by simpa using h4⟩⟩
/-- The first ones of a row. -/
theorem own_less5 {w : World} {lo n c k : Nat} {ad : Addr} {t : TypeId} {xs : List Value} (h : w.ownsRow lo t 5 (.slice (some ad) n c) n xs) (hk : k ≤ n) : w.ownsRow lo t 5 (.slice (some ad) k c) k (xs.take (k * 5)) := by
  obtain ⟨b, C, rfl, hb, _, hg, h1, h2, h3, h4⟩ := own_block5 h
  refine own_from5 hb hg (by omega) h2 h3 ?_
  rw [← h4, List.take_take, Nat.min_eq_left (by omega)]
/-- The cells of a part of a row. -/
theorem own_part5 {w : World} {lo n c : Nat} {b : Nat} {t : TypeId} {ps : List Iv} (h : w.ownsRow lo t 5 (.slice (some ⟨b, 0, none⟩) n c) n (cells5 ps)) (k : Nat) : ∀ j v, (cells5 (ps.drop k))[j]? = some v → w.cell? ((⟨b, k * 5, none⟩ : Addr).add j) = some v := fun j v hj => by
  rw [cells5_drop, List.getElem?_drop] at hj
  have := h.cells (g := b) rfl _ _ hj
  rw [add_off] at this ⊢
  rwa [Nat.zero_add] at this
theorem iv_len5 {ps : List Iv} {n : Nat} {w : World} {lo : Nat} {t : TypeId} {v : Value} (h : w.ownsRow lo t 5 v n (cells5 ps)) : ps.length = n := by
  have := h.1
  rw [cells5_length] at this
  omega
end Go.Proofs.YtogieepfimpdmaaGreat

/-
  slices.Insert at rows of items of the call's own. Conditions: those that each lemma states.
-/
namespace Go.Proofs.YtogieepfimpdmaaGreat
open Go.RowKit

theorem item_size : (Tryz.prog.info? 40).map (·.size) = some 5 := by kernel_rfl
theorem copy_min {a b k : Nat} (h : (a ≤ b ∧ k = a) ∨ (b ≤ a ∧ k = b)) : Nat.min a b = k := by
  rcases h with ⟨h1, rfl⟩ | ⟨h1, rfl⟩
  · exact Nat.min_eq_left h1
  · exact Nat.min_eq_right h1
/-- Two blocks don't overlap. -/
theorem overlaps_no {w : World} {a b oa ob la ca lb cb : Nat} {Ca Cb : List Value} {ta tb : TypeId} (ha : w.heap[a]? = some (.cells Ca.toArray ta (0, 0))) (hb : w.heap[b]? = some (.cells Cb.toArray tb (0, 0))) (hne : a ≠ b) (h0 : Cb.length ≠ 0) :
    (callFunc 93 #[.slice (some ⟨a, oa, none⟩) la ca, .slice (some ⟨b, ob, none⟩) lb cb]).run Tryz.prog w = .ok (.value (.bool false)) w := by
  obtain ⟨i0, hi, hz0, hz1, hz2⟩ := info_parts item_info0
  rw [run_callFunc_extern Tryz.func93 (by kernel_rfl) (by kernel_rfl) (by kernel_rfl) (e := Extern.SlicesOverlaps.overlaps #[43, 43] #[4]) (by kernel_rfl),
    Lib.run_overlaps_apart w 43 4 40 Tryz.underlying43 5 (fun w => by simp [sizeOf, typeInfo, hi, hz1]) ⟨a, oa, none⟩ ⟨b, ob, none⟩ la ca lb cb hne ta tb Ca.length Cb.length (by simp [World.shape?, ha]) (by simp [World.shape?, hb]) h0 (by simp [World.frozen?, ha]) (by simp [World.frozen?, ha])]
  rfl

/-- 'append(s[:i], make([]api.Item, k)...)', where there is no room: a new row. -/
theorem app_zeros {w : World} {lo n c i k : Nat} {ad : Addr} {ps : List Iv} (h : w.ownsRow lo 40 5 (.slice (some ad) n c) n (cells5 ps)) (hi : i ≤ n) (hk : 0 < k) (hc : c < i + k) (hb : i + k ≤ 1000) :
    ∃ c' w1 Z, (Builtin.append_ #[43, 3] 43 #[.slice (some ad) i c, .int .i64 (k : Int)]).run Tryz.prog w = .ok (.slice (some ⟨w.heap.size, 0, none⟩) (i + k) c') w1 ∧
      w1.heap[w.heap.size]? = some (.cells (List.toArray Z) 40 (0, 0)) ∧ Z.length = c' * 5 ∧ i + k ≤ c' ∧ c' ≤ maxLen ∧ Z.take (i * 5) = cells5 (ps.take i) ∧ Below w.heap.size w w1 ∧ w1.heap.size = w.heap.size + 1 := by
  obtain ⟨i0, hi0, hz0, hz1, hz2⟩ := info_parts item_info0
  have hl := own_less5 h hi
  obtain ⟨b, C, rfl, _, hbs, hg, _, _, h3, h4⟩ := own_block5 hl
  have hc1 : ∀ j v, ((cells5 ps).take (i * 5))[j]? = some v → w.drew.cell? ((⟨b, 0, none⟩ : Addr).add j) = some v := fun j v hj => hl.cells (g := b) rfl j v hj
  have hlen : ((cells5 ps).take (i * 5)).length = i * i0.size := by rw [hz1]; exact hl.1
  have hold := run_firstCells_some (P := Tryz.prog) w.drew i0.size i ⟨b, 0, none⟩ i c _ hlen hc1
  have hn := nextslicecap_le (need := i + k) (old := c) hc
  have hr := Lib.run_append_grow_zeros (P := Tryz.prog) w 43 3 43 40 i0 (.agg #[.int .u8 0, .int .u32 0, .int .u32 0, .int .i64 0, .slice none 0 0]) .i64 .i64 Tryz.underlying43 Tryz.underlying3 hi0 hz0
    (some ⟨b, 0, none⟩) i c _ hold k hk (by omega) hc (by omega) (by rw [hz2]; omega) (by rw [hz2]; omega)
  have hge := grownCap_ge w (i + k) c 40
  have s1 := size_zeroCells (Value.agg #[.int .u8 0, .int .u32 0, .int .u32 0, .int .i64 0, .slice none 0 0]).cells k
  have s2 := size_zeroCells (Value.agg #[.int .u8 0, .int .u32 0, .int .u32 0, .int .i64 0, .slice none 0 0]).cells (grownCap w (i + k) c 40 - (i + k))
  rw [show (Value.agg #[Value.int .u8 0, Value.int .u32 0, Value.int .u32 0, Value.int .i64 0, Value.slice none 0 0]).cells.size = 5 from rfl] at s1 s2
  generalize Builtin.zeroCells (Value.agg #[.int .u8 0, .int .u32 0, .int .u32 0, .int .i64 0, .slice none 0 0]).cells k = z1 at *
  generalize Builtin.zeroCells (Value.agg #[.int .u8 0, .int .u32 0, .int .u32 0, .int .i64 0, .slice none 0 0]).cells (grownCap w (i + k) c 40 - (i + k)) = z2 at *
  have hcm := grownCap_le_maxLen w (i + k) c 40 (by unfold maxLen; omega)
  have h5 : ((cells5 ps).take (i * 5)).length = i * 5 := by rw [hlen, hz1]
  generalize hX : (cells5 ps).take (i * 5) = X at *
  refine ⟨_, _, X ++ z1.toList ++ z2.toList, hr, ?_, ?_, hge, hcm, ?_, ((Below.refl _ w).drew).alloc (Nat.le_refl _) _, by simp⟩
  · have := heap_alloc_new w.drew (.cells (X.toArray ++ z1 ++ z2) 40)
    refine this.trans ?_
    rw [show (X ++ z1.toList ++ z2.toList).toArray = X.toArray ++ z1 ++ z2 from Array.ext' (by simp)]
  · rw [List.length_append, List.length_append, h5, Array.length_toList, Array.length_toList, s1, s2]
    omega
  · rw [List.append_assoc, List.take_append_of_le_length (by omega), List.take_of_length_le (by omega), cells5_take, hX]
end Go.Proofs.YtogieepfimpdmaaGreat

/-
  slices.Insert at rows of items of the call's own, walked. Conditions: those that each lemma states.
-/
namespace Go.Proofs.YtogieepfimpdmaaGreat
open Go.RowKit

/-- What such a call comes to: a row of the call's own, in the old block or in a new one. -/
def InsP (lo : Nat) (w : World) (A : Option Addr) (L : List Iv) (e : Ending) (w' : World) : Prop := ∃ A' c', e = .returned (.slice A' L.length c') ∧ w'.ownsRow lo 40 5 (.slice A' L.length c') L.length (cells5 L) ∧ w.grownBy w' (A.map (·.block))

set_option maxRecDepth 100000 in
set_option maxHeartbeats 8000000 in
theorem insert_any (A : Option Addr) (lo lf n c fb m fc i : Nat) (ps qs : List Iv) (w : World) (h : w.ownsRow lo 40 5 (.slice A n c) n (cells5 ps)) (hf : w.ownsRow lf 40 5 (.slice (some ⟨fb, 0, none⟩) m fc) m (cells5 qs))
    (hne : A.map (·.block) ≠ some fb) (hi : i ≤ n) (hm : 0 < m) (hbig : n + m ≤ 1000) (hp1 : ∀ p ∈ ps, p.2.oneCell' = true) (hq1 : ∀ p ∈ qs, p.2.oneCell' = true) (hlo : lo ≤ w.heap.size) :
    Calls Tryz.prog 71 #[.slice A n c, .int .i64 i, .slice (some ⟨fb, 0, none⟩) m fc] w (InsP lo w A (ps.take i ++ (qs ++ ps.drop i))) := by
  have hpl := iv_len5 h
  have hql := iv_len5 hf
  obtain ⟨i0, hi0, hz0, hz1, hz2⟩ := info_parts item_info0
  have hqc : ∀ j v, (cells5 qs)[j]? = some v → w.cell? ((⟨fb, 0, none⟩ : Addr).add j) = some v := fun j v hj => hf.cells (g := fb) rfl j v hj
  have hq5 : (cells5 qs).length = m * 5 := hf.1
  have hone := cells5_one hp1
  have honq := cells5_one hq1
  have ec : ∃ A1 c1, Value.slice A n c = .slice A1 n c1 ∧ n ≤ c1 ∧ c1 ≤ 9223372036854775807 := by
    obtain ⟨A1, c1, e, h1, h2, _⟩ := own_any h
    exact ⟨A1, c1, e, h1, h2⟩
  obtain ⟨A1, c1, e, hnc, hcm⟩ := ec
  cases e
  have hm0 : ¬ ((m : Int) = 0) := by omega
  have hin : (i : Int) ≤ n := by omega
  have hic : (i : Int) ≤ c := by omega
  by_cases hie : i = n
  · subst hie
    obtain ⟨v', w', hr, o1, g1, b1, k1⟩ := app_own (P := Tryz.prog) (w := w) lo 43 43 40 i0 (.agg #[.int .u8 0, .int .u32 0, .int .u32 0, .int .i64 0, .slice none 0 0]) 5 48 Tryz.underlying43 hi0 hz0 hz1 hz2 rfl (by decide) _ _ (cells5 ps) h ⟨fb, 0, none⟩ m fc (cells5 qs) hq5 hqc honq (by unfold maxLen; omega) (by omega) hlo
    obtain ⟨A2, c2, rfl, _⟩ := own_any o1
    have eL : ps.take i ++ (qs ++ ps.drop i) = ps ++ qs := by rw [List.take_of_length_le (by omega), List.drop_of_length_le (by omega), List.append_nil]
    have hfin : Hid (InsP lo w A (ps.take i ++ (qs ++ ps.drop i)) (.returned (.slice A2 (i + m) c2)) w') := Lib.hid (by
      rw [eL]
      refine ⟨A2, c2, by rw [List.length_append, hpl, hql], ?_, ?_⟩
      · rw [cells5_app, List.length_append, hpl, hql]
        exact o1
      · have e4 : (Value.slice A i c).ownBlock = A.map (·.block) := by cases A <;> rfl
        rw [← e4]
        exact g1)
    have H := Lib.hid hr
    clear hr o1 g1 b1 k1 h hf hqc hone honq hp1 hq1 hne
    by_cases hcc : i = c
    · subst hcc
      go_enter Tryz.func71, Tryz.ntmps71
      go_wp2_with (at_builtin; refine wpList_append_run rfl _ _ _ rfl rfl rfl H.out ?_; clear H)
      go_ret
      exact hfin.out
    · have hcc' : ¬ c = i := fun e => hcc e.symm
      cases A with
      | none =>
        go_enter Tryz.func71, Tryz.ntmps71
        go_wp2_with (at_builtin; refine wpList_append_run rfl _ _ _ rfl rfl rfl H.out ?_; clear H)
        go_ret
        exact hfin.out
      | some ad =>
        go_enter Tryz.func71, Tryz.ntmps71
        go_wp2_with (at_builtin; refine wpList_append_run rfl _ _ _ rfl rfl rfl H.out ?_; clear H)
        go_ret
        exact hfin.out
  have hin' : i < n := by omega
  obtain ⟨ad, rfl⟩ : ∃ ad, A = some ad := by
    obtain ⟨_, _, e, _, _, _, h5⟩ := own_any h
    cases e
    exact h5 (by omega)
  obtain ⟨b, C, rfl, hbl, hbs, hg, _, hcM, hC5, hC⟩ := own_block5 h
  have hbf : b ≠ fb := fun e => hne (by rw [e]; rfl)
  obtain ⟨fb', Cf, e, _, hfs, hgf, _, _, hCf5, hCf⟩ := own_block5 hf
  obtain rfl : fb = fb' := by cases e; rfl
  have hni : ¬ ((i : Int) = (n : Int)) := by omega
  have hw1 : IntKind.i64.wrap ((n : Int) + (m : Int)) = (n : Int) + (m : Int) := by rw [IntKind.wrap_i64]; omega
  have hw2 : IntKind.i64.wrap ((n : Int) + (m : Int) - (i : Int)) = (n : Int) + (m : Int) - (i : Int) := by rw [IntKind.wrap_i64]; omega
  have hw3 : IntKind.i64.wrap ((i : Int) + (m : Int)) = (i : Int) + (m : Int) := by rw [IntKind.wrap_i64]; omega
  have hic' : ¬ c = i := by omega
  have hcn : c ≤ 9223372036854775807 := hcm
  by_cases hroom : n + m ≤ c
  · have hgt : ¬ ((c : Int) < (n : Int) + (m : Int)) := by omega
    have hov : ∀ lb cb ob, (callFunc 93 #[.slice (some ⟨fb, 0, none⟩) m fc, .slice (some ⟨b, ob, none⟩) lb cb]).run Tryz.prog w = .ok (.value (.bool false)) w := fun lb cb ob => overlaps_no hgf hg (fun e => hbf e.symm) (by omega)
    have r1 : (n : Int) + (m : Int) ≤ c := by omega
    have r2 : ¬ c = i + m := by omega
    have r3 : (i : Int) + (m : Int) ≤ (n : Int) + (m : Int) := by omega
    have r6 : (i : Int) ≤ (n : Int) + (m : Int) := by omega
    have r7 : (0 : Int) ≤ (i : Int) + (m : Int) := by omega
    have HO := Lib.hid (cells5_one (ps := ps.drop i) fun p hp => hp1 p (List.mem_of_mem_drop hp))
    have HQ := Lib.hid honq
    have r4 : ((i : Int) + (m : Int)).toNat = i + m := by omega
    have r5 : ((n : Int) + (m : Int)).toNat = n + m := by omega
    replace hov := Lib.hid hov
    replace hgf := Lib.hid hgf
    replace hg := Lib.hid hg
    replace hC := Lib.hid hC
    replace hCf := Lib.hid hCf
    replace hpl := Lib.hid hpl
    replace hql := Lib.hid hql
    replace hC5 := Lib.hid hC5
    replace hCf5 := Lib.hid hCf5
    clear hqc hone honq hp1 hq1 hne
    go_enter Tryz.func71, Tryz.ntmps71
    go_upto_region 15 with (simp only [hov.out])
    go_still_tail 8, (by kernel_rfl)
    change wpList _ _ _ _ _ w.drew
    refine wpList_copy5 rfl _ _ 43 43 rfl 40 Tryz.underlying43 item_size _ _ _ _ _ _ rfl rfl b ((i + m) * 5) C 40 hg.out (cells5 (ps.drop i)) (n - i) (copy_min (by omega)) (by rw [cells5_length, List.length_drop, hpl.out]) rfl ⟨b, i * 5, none⟩ rfl (own_part5 (w := w) h i) (by rw [cells5_length, List.length_drop, hpl.out, hC5.out]; omega) HO.out ?_
    intro w2 hg2 hb2
    have S1 := Lib.hid (length_splice C ((i + m) * 5) (cells5 (ps.drop i)) (by rw [cells5_length, List.length_drop, hpl.out, hC5.out]; omega))
    have Q2 : Hid (∀ j v, (cells5 qs)[j]? = some v → w2.cell? ((⟨fb, 0, none⟩ : Addr).add j) = some v) := Lib.hid fun j v hj => by
      have hc := hf.cells (g := fb) rfl j v hj
      refine (World.cell?_of_block ?_).trans hc
      rw [add_block]
      exact hb2.out.block fb hfs (fun e => hbf (by cases e; rfl))
    have hfin : ∀ W, W.heap[b]? = some (.cells (splice (splice C ((i + m) * 5) (cells5 (ps.drop i))) (i * 5) (cells5 qs)).toArray 40 (0, 0)) → w2.grownBy W (some b) → InsP lo w (some ⟨b, 0, none⟩) (ps.take i ++ (qs ++ ps.drop i)) (.returned (.slice (some ⟨b, 0, none⟩) (n + m) c)) W := fun W h1 h2 => by
      have el : (ps.take i ++ (qs ++ ps.drop i)).length = n + m := by rw [List.length_append, List.length_append, List.length_take, List.length_drop, hpl.out, hql.out]; omega
      refine ⟨_, c, by rw [el], ?_, grow_trans (grown_drew hb2.out) h2⟩
      rw [el]
      refine own_from5 hbl h1 hroom hcM (by rw [length_splice _ _ _ (by rw [S1.out, hq5, hC5.out]; omega), S1.out, hC5.out]) ?_
      rw [cells5_app, cells5_app, cells5_take, ← hC.out, List.take_take, Nat.min_eq_left (by omega)]
      have hd : (cells5 (ps.drop i)).length = (n - i) * 5 := by rw [cells5_length, List.length_drop, hpl.out]
      have := splice_back (C := C) (Y := cells5 qs) (X := cells5 (ps.drop i)) (a := i * 5) (b := (i + m) * 5) (by rw [hq5]; omega) (by rw [hd, hC5.out]; omega)
      rw [hd, show (i + m) * 5 + (n - i) * 5 = (n + m) * 5 by omega] at this
      exact this
    replace hfin := Lib.hid hfin
    have hroom' := Lib.hid hroom
    clear h hf hC hCf hCf5 hpl hql
    go_wp2_with (refine wpList_copy5 rfl _ _ 43 43 rfl 40 Tryz.underlying43 item_size _ _ _ _ _ _ rfl rfl b (i * 5) _ 40 hg2.out (cells5 qs) m (copy_min (by omega)) hq5 rfl ⟨fb, 0, none⟩ rfl Q2.out (by rw [S1.out, hq5, hC5.out]; have := hroom'.out; omega) HQ.out ?_; intro w3 hg3 hb3)
    go_ret
    exact hfin.out _ hg3.out hb3.out
  · have hgt : ((c : Int) < (n : Int) + (m : Int)) := by omega
    obtain ⟨c', w1, Z, hr, hg1, hZ5, hZc, hZm, hZt, hB1, hs1⟩ := app_zeros (i := i) (k := n + m - i) h hi (by omega) (by omega) (by omega)
    rw [show i + (n + m - i) = n + m by omega] at hr hZc
    rw [show ((n + m - i : Nat) : Int) = (n : Int) + (m : Int) - (i : Int) by omega] at hr
    have r1 : (0 : Int) ≤ (i : Int) + (m : Int) := by omega
    have r2 : ¬ c' = i + m := by omega
    have r3 : (i : Int) + (m : Int) ≤ (n : Int) + (m : Int) := by omega
    have r4 : ((i : Int) + (m : Int)).toNat = i + m := by omega
    have r5 : ¬ c' = i := by omega
    have r6 : (i : Int) ≤ (n : Int) + (m : Int) := by omega
    have HO := Lib.hid (cells5_one (ps := ps.drop i) fun p hp => hp1 p (List.mem_of_mem_drop hp))
    have HQ := Lib.hid honq
    have Q1 : Hid (∀ j v, (cells5 qs)[j]? = some v → w1.cell? ((⟨fb, 0, none⟩ : Addr).add j) = some v) := Lib.hid fun j v hj => (hB1.cell (by rw [add_block]; exact hfs)).trans (hf.cells (g := fb) rfl j v hj)
    have S1 := Lib.hid (length_splice Z (i * 5) (cells5 qs) (by rw [hq5, hZ5]; omega))
    have G1 := Lib.hid hg1
    have HR := Lib.hid hr
    have hd : Hid ((cells5 (ps.drop i)).length = (n - i) * 5) := Lib.hid (by rw [cells5_length, List.length_drop, hpl])
    have hz5 := Lib.hid hZ5
    have P2 : Hid (∀ w2, w1.grownBy w2 (some w.heap.size) → ∀ j v, (cells5 (ps.drop i))[j]? = some v → w2.cell? ((⟨b, i * 5, none⟩ : Addr).add j) = some v) := Lib.hid fun w2 hb2 j v hj => by
      refine (World.cell?_of_block ?_).trans ((hB1.cell (by rw [add_block]; exact hbs)).trans (own_part5 h i j v hj))
      rw [add_block]
      exact hb2.block b (by omega) (fun e => by cases e; omega)
    have hfin : ∀ W w2, w1.grownBy w2 (some w.heap.size) → W.heap[w.heap.size]? = some (.cells (splice (splice Z (i * 5) (cells5 qs)) ((i + m) * 5) (cells5 (ps.drop i))).toArray 40 (0, 0)) → w2.grownBy W (some w.heap.size) → InsP lo w (some ⟨b, 0, none⟩) (ps.take i ++ (qs ++ ps.drop i)) (.returned (.slice (some ⟨w.heap.size, 0, none⟩) (n + m) c')) W := fun W w2 h0 h1 h2 => by
      have el : (ps.take i ++ (qs ++ ps.drop i)).length = n + m := by rw [List.length_append, List.length_append, List.length_take, List.length_drop, hpl, hql]; omega
      have hB : Below w.heap.size w W := (hB1.grown h0 hB1.size (fun k e => by cases e; exact Nat.le_refl _)).grown h2 (by have := h0.size; omega) (fun k e => by cases e; exact Nat.le_refl _)
      refine ⟨_, c', by rw [el], ?_, ⟨hB.os, hB.tape, hB.output, hB.size, fun k hk _ => hB.block k hk⟩⟩
      rw [el]
      refine own_from5 hlo h1 hZc hZm (by rw [length_splice _ _ _ (by rw [S1.out, hd.out, hZ5]; omega), S1.out, hZ5]) ?_
      rw [cells5_app, cells5_app, ← hZt]
      have := splice_two (C := Z) (Y := cells5 qs) (X := cells5 (ps.drop i)) (a := i * 5) (b := (i + m) * 5) (by rw [hq5]; omega) (by rw [hd.out, hZ5]; omega)
      rw [hd.out, show (i + m) * 5 + (n - i) * 5 = (n + m) * 5 by omega] at this
      exact this
    replace hfin := Lib.hid hfin
    replace hZc := Lib.hid hZc
    replace hs1 := Lib.hid hs1
    clear hqc hone honq hp1 hq1 hne h hf hC hC5 hCf hCf5 hpl hql hr hg1 hZ5 hZt hB1 hg hgf
    go_enter Tryz.func71, Tryz.ntmps71
    go_upto_region 11 with (first | (at_builtin; refine wpList_append_run2 rfl _ _ _ _ rfl rfl rfl HR.out ?_) | (refine wpList_copy5 rfl _ _ 43 43 rfl 40 Tryz.underlying43 item_size _ _ _ _ _ _ rfl rfl w.heap.size (i * 5) _ 40 G1.out (cells5 qs) m (copy_min (by omega)) hq5 rfl ⟨fb, 0, none⟩ rfl Q1.out (by rw [hz5.out, hq5]; have := hZc.out; omega) HQ.out ?_; intro w2 hg2 hb2))
    go_still_tail 8, (by kernel_rfl)
    refine wpList_copy5 rfl _ _ 43 43 rfl 40 Tryz.underlying43 item_size _ _ _ _ _ _ rfl rfl w.heap.size ((i + m) * 5) _ 40 hg2.out (cells5 (ps.drop i)) (n - i) (copy_min (by omega)) hd.out rfl ⟨b, i * 5, none⟩ rfl (P2.out w2 hb2.out) (by rw [S1.out, hd.out, hz5.out]; have := hZc.out; omega) HO.out ?_
    intro w3 hg3 hb3
    go_wp2_with fail
    go_ret
    exact hfin.out _ _ hb2.out hg3.out (grown_drew hb3.out)
end Go.Proofs.YtogieepfimpdmaaGreat

/-
  slices.Replace of one item, at rows of items of the call's own, walked. Conditions: those that each lemma states.
-/
namespace Go.Proofs.YtogieepfimpdmaaGreat
open Go.RowKit

set_option maxRecDepth 100000 in
set_option maxHeartbeats 8000000 in
theorem replace_any (A : Option Addr) (lo lf n c fb m fc i j : Nat) (ps qs : List Iv) (w : World) (h : w.ownsRow lo 40 5 (.slice A n c) n (cells5 ps)) (hf : w.ownsRow lf 40 5 (.slice (some ⟨fb, 0, none⟩) m fc) m (cells5 qs))
    (hne : A.map (·.block) ≠ some fb) (hj : j = i + 1) (hi : j ≤ n) (hm : 0 < m) (hbig : n + m ≤ 1000) (hp1 : ∀ p ∈ ps, p.2.oneCell' = true) (hq1 : ∀ p ∈ qs, p.2.oneCell' = true) (hlo : lo ≤ w.heap.size) :
    Calls Tryz.prog 70 #[.slice A n c, .int .i64 i, .int .i64 j, .slice (some ⟨fb, 0, none⟩) m fc] w (InsP lo w A (ps.take i ++ (qs ++ ps.drop j))) := by
  have hpl := iv_len5 h
  have hql := iv_len5 hf
  obtain ⟨i0, hi0, hz0, hz1, hz2⟩ := info_parts item_info0
  have hqc : ∀ j v, (cells5 qs)[j]? = some v → w.cell? ((⟨fb, 0, none⟩ : Addr).add j) = some v := fun j v hj => hf.cells (g := fb) rfl j v hj
  have hq5 : (cells5 qs).length = m * 5 := hf.1
  have hone := cells5_one hp1
  have honq := cells5_one hq1
  obtain ⟨ad, rfl⟩ : ∃ ad, A = some ad := by
    obtain ⟨_, _, e, _, _, _, h5⟩ := own_any h
    cases e
    exact h5 (by omega)
  obtain ⟨b, C, rfl, hbl, hbs, hg, hnc, hcM, hC5, hC⟩ := own_block5 h
  have hcm : c ≤ 9223372036854775807 := by unfold maxLen at hcM; exact hcM
  have hbf : b ≠ fb := fun e => hne (by rw [e]; rfl)
  obtain ⟨fb', Cf, e, _, hfs, hgf, _, _, hCf5, hCf⟩ := own_block5 hf
  obtain rfl : fb = fb' := by cases e; rfl
  have a1 : ¬ ((i : Int) = (j : Int)) := by omega
  have a2 : (i : Int) ≤ (j : Int) := by omega
  have a3 : (j : Int) ≤ (n : Int) := by omega
  have a4 : (j : Int) ≤ (c : Int) := by omega
  have a5 : (i : Int) ≤ (n : Int) := by omega
  have a6 : (i : Int) ≤ (c : Int) := by omega
  have a7 : ¬ c = i := by omega
  by_cases hjn : j = n
  · have hjn' : ((j : Int) = (n : Int)) := by omega
    have hln : ¬ ((i : Int) + (m : Int) < (n : Int)) := by omega
    have hln2 : ¬ (i + m < n) := by omega
    obtain ⟨v', w', hr, o1, g1, b1, k1⟩ := app_own (P := Tryz.prog) (w := w) lo 43 43 40 i0 (.agg #[.int .u8 0, .int .u32 0, .int .u32 0, .int .i64 0, .slice none 0 0]) 5 48 Tryz.underlying43 hi0 hz0 hz1 hz2 rfl (by decide) _ _ _ (own_less5 h (show i ≤ n by omega)) ⟨fb, 0, none⟩ m fc (cells5 qs) hq5 hqc honq (by unfold maxLen; omega) (by omega) hlo
    obtain ⟨A2, c2, rfl, _⟩ := own_any o1
    have eL : ps.take i ++ (qs ++ ps.drop j) = ps.take i ++ qs := by rw [List.drop_of_length_le (by omega), List.append_nil]
    have hfin : Hid (InsP lo w (some ⟨b, 0, none⟩) (ps.take i ++ (qs ++ ps.drop j)) (.returned (.slice A2 (i + m) c2)) w') := Lib.hid (by
      rw [eL]
      have el : (ps.take i ++ qs).length = i + m := by rw [List.length_append, List.length_take]; omega
      refine ⟨A2, c2, by rw [el], ?_, g1⟩
      rw [cells5_app, el, cells5_take]
      exact o1)
    have H := Lib.hid hr
    replace hj := Lib.hid hj
    replace hjn := Lib.hid hjn
    clear eL hr o1 g1 b1 k1 h hf hqc hone honq hp1 hq1 hne hg hgf hC hC5 hCf hCf5 hpl hql
    go_enter Tryz.func70, Tryz.ntmps70
    go_wp2_with (at_builtin; refine wpList_append_run rfl _ _ _ rfl rfl rfl H.out ?_; clear H)
    go_ret
    exact hfin.out
  have hjn' : ¬ ((j : Int) = (n : Int)) := by omega
  have a8 : ¬ c = j := by omega
  have hw1 : IntKind.i64.wrap ((i : Int) + (m : Int)) = (i : Int) + (m : Int) := by rw [IntKind.wrap_i64]; omega
  have hw2 : IntKind.i64.wrap ((i : Int) + (m : Int) + ((n : Int) - (j : Int))) = (i : Int) + (m : Int) + ((n : Int) - (j : Int)) := by rw [IntKind.wrap_i64]; omega
  obtain ⟨tot, htot⟩ : ∃ tot, tot = i + m + (n - j) := ⟨_, rfl⟩
  have hw3 : IntKind.i64.wrap ((i : Int) + (m : Int) + ((n - j : Nat) : Int)) = (tot : Int) := by rw [IntKind.wrap_i64]; omega
  have hd : Hid ((cells5 (ps.drop j)).length = (n - j) * 5) := Lib.hid (by rw [cells5_length, List.length_drop, hpl])
  have HO := Lib.hid (cells5_one (ps := ps.drop j) fun p hp => hp1 p (List.mem_of_mem_drop hp))
  have HQ := Lib.hid honq
  have el : (ps.take i ++ (qs ++ ps.drop j)).length = tot := by rw [List.length_append, List.length_append, List.length_take, List.length_drop, hpl, hql]; omega
  have r1 : (0 : Int) ≤ (i : Int) + (m : Int) := by omega
  have r3 : (i : Int) + (m : Int) ≤ (tot : Int) := by omega
  have r4 : ((i : Int) + (m : Int)).toNat = i + m := by omega
  have r6 : (i : Int) ≤ (tot : Int) := by omega
  have hw4 : IntKind.i64.wrap ((tot : Int) - (i : Int)) = (tot : Int) - (i : Int) := by rw [IntKind.wrap_i64]; omega
  replace hj := Lib.hid hj
  by_cases hroom : tot ≤ c
  · have hgt : ¬ ((c : Int) < (tot : Int)) := by omega
    have r2 : ¬ c = i + m := by have := hj.out; omega
    have r7 : (tot : Int) ≤ (c : Int) := by omega
    have S1 : Hid ((splice C (i * 5) (cells5 qs)).length = C.length) := Lib.hid (length_splice _ _ _ (by rw [hq5, hC5]; omega))
    have S2 : Hid ((splice C ((i + m) * 5) (cells5 (ps.drop j))).length = C.length) := Lib.hid (length_splice _ _ _ (by rw [hd.out, hC5]; omega))
    have Q2 : Hid (∀ w2 : World, w.grownBy w2 (some b) → ∀ j v, (cells5 qs)[j]? = some v → w2.cell? ((⟨fb, 0, none⟩ : Addr).add j) = some v) := Lib.hid fun w2 hb2 j v hj => by
      refine (World.cell?_of_block ?_).trans (hqc j v hj)
      rw [add_block]
      exact hb2.block fb hfs (fun e => hbf (by cases e; rfl))
    have P0 : Hid (∀ j' v, (cells5 (ps.drop j))[j']? = some v → w.cell? ((⟨b, j * 5, none⟩ : Addr).add j') = some v) := Lib.hid (own_part5 h j)
    have hC5h := Lib.hid hC5
    have hgh := Lib.hid hg
    by_cases hmj : m = 1
    · have hle : (i : Int) + (m : Int) ≤ (j : Int) := by have := hj.out; omega
      have htn : tot = n := by have := hj.out; omega
      have P2 : Hid (∀ w2 : World, w2.heap[b]? = some (.cells (splice C (i * 5) (cells5 qs)).toArray 40 (0, 0)) → ∀ j' v, (cells5 (ps.drop j))[j']? = some v → w2.cell? ((⟨b, j * 5, none⟩ : Addr).add j') = some v) := Lib.hid fun w2 h2 j' v hj' => by
        have h0 := own_part5 h j j' v hj'
        have e : ((⟨b, j * 5, none⟩ : Addr).add j') = ⟨b, j * 5 + j', none⟩ := add_off _ _ _
        rw [e] at h0 ⊢
        rw [cell_block5 hg] at h0
        rw [cell_block5 h2, splice_past (by rw [hq5, hC5]; omega) (by rw [hq5]; have := hj.out; omega)]
        exact h0
      have hfin : ∀ (W w2 : World), w.grownBy w2 (some b) → W.heap[b]? = some (.cells (splice (splice C (i * 5) (cells5 qs)) ((i + m) * 5) (cells5 (ps.drop j))).toArray 40 (0, 0)) → w2.grownBy W (some b) → InsP lo w (some ⟨b, 0, none⟩) (ps.take i ++ (qs ++ ps.drop j)) (.returned (.slice (some ⟨b, 0, none⟩) tot c)) W := fun W w2 h0 h1 h2 => by
        refine ⟨_, c, by rw [el], ?_, grow_trans h0 h2⟩
        rw [el]
        refine own_from5 hbl h1 hroom hcM (by rw [length_splice _ _ _ (by rw [S1.out, hd.out, hC5]; omega), S1.out, hC5]) ?_
        rw [cells5_app, cells5_app, cells5_take, ← hC, List.take_take, Nat.min_eq_left (by omega)]
        have := splice_two (C := C) (Y := cells5 qs) (X := cells5 (ps.drop j)) (a := i * 5) (b := (i + m) * 5) (by rw [hq5]; omega) (by rw [hd.out, hC5]; omega)
        rw [hd.out, show (i + m) * 5 + (n - j) * 5 = tot * 5 by omega] at this
        exact this
      replace hfin := Lib.hid hfin
      have hroom' := Lib.hid (show i + m + (n - j) ≤ c by omega)
      have hmin := Lib.hid (copy_min (a := m) (b := tot - i) (k := m) (by omega))
      have hmin2 := Lib.hid (copy_min (a := n - j) (b := tot - (i + m)) (k := n - j) (by omega))
      have htn' : (tot : Int) ≤ (n : Int) := by omega
      have htz : n - tot = 0 := by omega
      replace htot := Lib.hid htot
      replace hmj := Lib.hid hmj
      replace htn := Lib.hid htn
      clear hqc hone honq hp1 hq1 hne h hf hC hC5 hCf hCf5 hpl hql hg hgf el
      go_enter Tryz.func70, Tryz.ntmps70
      go_upto_region 9 with fail
      go_quiet (fail)
      go_upto_region 18 with (refine wpList_copy5 rfl _ _ 43 43 rfl 40 Tryz.underlying43 item_size _ _ _ _ _ _ rfl rfl b (i * 5) _ 40 hgh.out (cells5 qs) m hmin.out hq5 rfl ⟨fb, 0, none⟩ rfl (Q2.out _ (grown_dN _ _ _)) (by rw [hq5, hC5h.out]; have := hroom'.out; omega) HQ.out ?_; intro w2 hg2 hb2)
      go_still_tail 9, (by kernel_rfl)
      refine wpList_copy5 rfl _ _ 43 43 rfl 40 Tryz.underlying43 item_size _ _ _ _ _ _ rfl rfl b ((i + m) * 5) _ 40 hg2.out (cells5 (ps.drop j)) (n - j) hmin2.out hd.out rfl ⟨b, j * 5, none⟩ rfl (P2.out w2 hg2.out) (by rw [S1.out, hd.out, hC5h.out]; have := hroom'.out; omega) HO.out ?_
      intro w3 hg3 hb3
      by_cases hcn : c = tot
      · subst hcn
        go_wp2_with (refine wpList_clear0 rfl _ 43 rfl 40 Tryz.underlying43 _ _ rfl ?_)
        go_ret
        exact hfin.out _ _ (grown_undN hb2.out) hg3.out (grown_drew hb3.out)
      · go_wp2_with (refine wpList_clear0 rfl _ 43 rfl 40 Tryz.underlying43 _ _ rfl ?_)
        go_ret
        exact hfin.out _ _ (grown_undN hb2.out) hg3.out (grown_drew hb3.out)
    · have hle : ¬ ((i : Int) + (m : Int) ≤ (j : Int)) := by have := hj.out; omega
      have hov : Hid (∀ la ca lb cb ob nq, (callFunc 93 #[.slice (some ⟨b, ob, none⟩) la ca, .slice (some ⟨fb, 0, none⟩) lb cb]).run Tryz.prog (w.drewN nq) = .ok (.value (.bool false)) (w.drewN nq)) := Lib.hid fun la ca lb cb ob nq => overlaps_no (w := w.drewN nq) hg hgf hbf (by omega)
      have hfin : ∀ (W w2 : World), w.grownBy w2 (some b) → W.heap[b]? = some (.cells (splice (splice C ((i + m) * 5) (cells5 (ps.drop j))) (i * 5) (cells5 qs)).toArray 40 (0, 0)) → w2.grownBy W (some b) → InsP lo w (some ⟨b, 0, none⟩) (ps.take i ++ (qs ++ ps.drop j)) (.returned (.slice (some ⟨b, 0, none⟩) tot c)) W := fun W w2 h0 h1 h2 => by
        refine ⟨_, c, by rw [el], ?_, grow_trans h0 h2⟩
        rw [el]
        refine own_from5 hbl h1 hroom hcM (by rw [length_splice _ _ _ (by rw [S2.out, hq5, hC5]; omega), S2.out, hC5]) ?_
        rw [cells5_app, cells5_app, cells5_take, ← hC, List.take_take, Nat.min_eq_left (by omega)]
        have := splice_back (C := C) (Y := cells5 qs) (X := cells5 (ps.drop j)) (a := i * 5) (b := (i + m) * 5) (by rw [hq5]; omega) (by rw [hd.out, hC5]; omega)
        rw [hd.out, show (i + m) * 5 + (n - j) * 5 = tot * 5 by omega] at this
        exact this
      replace hfin := Lib.hid hfin
      have hroom' := Lib.hid (show i + m + (n - j) ≤ c by omega)
      have hmin := Lib.hid (copy_min (a := m) (b := tot - i) (k := m) (by omega))
      have hmin2 := Lib.hid (copy_min (a := n - j) (b := tot - (i + m)) (k := n - j) (by omega))
      replace htot := Lib.hid htot
      clear hqc hone honq hp1 hq1 hne h hf hC hC5 hCf hCf5 hpl hql hg hgf el
      go_enter Tryz.func70, Tryz.ntmps70
      go_upto_region 9 with fail
      go_quiet (fail)
      go_upto_region 22 with (simp only [hov.out])
      go_still_tail 9, (by kernel_rfl)
      refine wpList_copy5 rfl _ _ 43 43 rfl 40 Tryz.underlying43 item_size _ _ _ _ _ _ rfl rfl b ((i + m) * 5) _ 40 hgh.out (cells5 (ps.drop j)) (n - j) hmin2.out hd.out rfl ⟨b, j * 5, none⟩ rfl P0.out (by rw [hd.out, hC5h.out]; have := hroom'.out; omega) HO.out ?_
      intro w2 hg2 hb2
      have hb2' : Hid (w.grownBy w2 (some b)) := Lib.hid ⟨hb2.out.os, hb2.out.tape, hb2.out.output, hb2.out.size, hb2.out.block⟩
      clear hb2
      go_wp2_with (refine wpList_copy5 rfl _ _ 43 43 rfl 40 Tryz.underlying43 item_size _ _ _ _ _ _ rfl rfl b (i * 5) _ 40 hg2.out (cells5 qs) m hmin.out hq5 rfl ⟨fb, 0, none⟩ rfl (Q2.out _ hb2'.out) (by rw [S2.out, hq5, hC5h.out]; have := hroom'.out; omega) HQ.out ?_; intro w3 hg3 hb3)
      go_ret
      exact hfin.out _ _ hb2'.out hg3.out hb3.out
  · have hgt : ((c : Int) < (tot : Int)) := by omega
    have hz : Hid (∀ nq, ∃ c' w1 Z, (Builtin.append_ #[43, 3] 43 #[.slice (some ⟨b, 0, none⟩) i c, .int .i64 ((tot : Int) - (i : Int))]).run Tryz.prog (w.drewN nq) = .ok (.slice (some ⟨w.heap.size, 0, none⟩) tot c') w1 ∧
        w1.heap[w.heap.size]? = some (.cells (List.toArray Z) 40 (0, 0)) ∧ Z.length = c' * 5 ∧ tot ≤ c' ∧ c' ≤ maxLen ∧ Z.take (i * 5) = cells5 (ps.take i) ∧ Below w.heap.size w w1 ∧ w1.heap.size = w.heap.size + 1) := Lib.hid fun nq => by
      obtain ⟨c', w1, Z, e1, e2, e3, e4, e5, e6, e7, e8⟩ := app_zeros (w := w.drewN nq) (i := i) (k := tot - i) h (by have := hj.out; omega) (by omega) (by omega) (by omega)
      rw [show i + (tot - i) = tot by omega] at e1 e4
      rw [show ((tot - i : Nat) : Int) = (tot : Int) - (i : Int) by omega] at e1
      exact ⟨c', w1, Z, e1, e2, e3, e4, e5, e6, ⟨e7.os, e7.tape, e7.output, e7.size, e7.block⟩, e8⟩
    replace htot := Lib.hid htot
    go_enter Tryz.func70, Tryz.ntmps70
    go_upto_region 9 with fail
    go_quiet (fail)
    obtain ⟨c', w1, Z, hr, hg1, hZ5, hZc, hZm, hZt, hB1, hs1⟩ := hz.out nq
    clear hz
    have r2 : ¬ c' = i + m := by have := hj.out; have := htot.out; omega
    have r5 : ¬ c' = i := by omega
    have Q1 : Hid (∀ j v, (cells5 qs)[j]? = some v → w1.cell? ((⟨fb, 0, none⟩ : Addr).add j) = some v) := Lib.hid fun j v hj => (hB1.cell (by rw [add_block]; exact hfs)).trans (hqc j v hj)
    have S1 := Lib.hid (length_splice Z (i * 5) (cells5 qs) (by rw [hq5, hZ5]; have := htot.out; omega))
    have G1 := Lib.hid hg1
    have HR := Lib.hid hr
    have hz5 := Lib.hid hZ5
    have P2 : Hid (∀ w2 : World, w1.grownBy w2 (some w.heap.size) → ∀ j' v, (cells5 (ps.drop j))[j']? = some v → w2.cell? ((⟨b, j * 5, none⟩ : Addr).add j') = some v) := Lib.hid fun w2 hb2 j' v hj' => by
      refine (World.cell?_of_block ?_).trans ((hB1.cell (by rw [add_block]; exact hbs)).trans (own_part5 h j j' v hj'))
      rw [add_block]
      exact hb2.block b (by omega) (fun e => by cases e; omega)
    have hfin : ∀ W w2 : World, w1.grownBy w2 (some w.heap.size) → W.heap[w.heap.size]? = some (.cells (splice (splice Z (i * 5) (cells5 qs)) ((i + m) * 5) (cells5 (ps.drop j))).toArray 40 (0, 0)) → w2.grownBy W (some w.heap.size) → InsP lo w (some ⟨b, 0, none⟩) (ps.take i ++ (qs ++ ps.drop j)) (.returned (.slice (some ⟨w.heap.size, 0, none⟩) tot c')) W := fun W w2 h0 h1 h2 => by
      have hB : Below w.heap.size w W := (hB1.grown h0 hB1.size (fun k e => by cases e; exact Nat.le_refl _)).grown h2 (by have := h0.size; omega) (fun k e => by cases e; exact Nat.le_refl _)
      refine ⟨_, c', by rw [el], ?_, ⟨hB.os, hB.tape, hB.output, hB.size, fun k hk _ => hB.block k hk⟩⟩
      rw [el]
      refine own_from5 hlo h1 hZc hZm (by rw [length_splice _ _ _ (by rw [S1.out, hd.out, hZ5]; have := htot.out; omega), S1.out, hZ5]) ?_
      rw [cells5_app, cells5_app, ← hZt]
      have := splice_two (C := Z) (Y := cells5 qs) (X := cells5 (ps.drop j)) (a := i * 5) (b := (i + m) * 5) (by rw [hq5]; omega) (by rw [hd.out, hZ5]; have := htot.out; omega)
      rw [hd.out, show (i + m) * 5 + (n - j) * 5 = tot * 5 by have := htot.out; omega] at this
      exact this
    have hmin := Lib.hid (copy_min (a := m) (b := tot - i) (k := m) (by have := htot.out; omega))
    have hmin2 := Lib.hid (copy_min (a := n - j) (b := tot - (i + m)) (k := n - j) (by have := htot.out; omega))
    have hroom' := Lib.hid (show i + m + (n - j) ≤ c' by have := htot.out; omega)
    replace hfin := Lib.hid hfin
    replace hs1 := Lib.hid hs1
    clear hqc hone honq hp1 hq1 hne h hf hC hC5 hCf hCf5 hpl hql hr hg1 hZ5 hZt hB1 hg hgf el
    go_upto_region 13 with (first | (at_builtin; refine wpList_append_run2 rfl _ _ _ _ rfl rfl rfl HR.out ?_) | (refine wpList_copy5 rfl _ _ 43 43 rfl 40 Tryz.underlying43 item_size _ _ _ _ _ _ rfl rfl w.heap.size (i * 5) _ 40 G1.out (cells5 qs) m hmin.out hq5 rfl ⟨fb, 0, none⟩ rfl Q1.out (by rw [hz5.out, hq5]; have := hroom'.out; omega) HQ.out ?_; intro w2 hg2 hb2))
    go_still_tail 9, (by kernel_rfl)
    refine wpList_copy5 rfl _ _ 43 43 rfl 40 Tryz.underlying43 item_size _ _ _ _ _ _ rfl rfl w.heap.size ((i + m) * 5) _ 40 hg2.out (cells5 (ps.drop j)) (n - j) hmin2.out hd.out rfl ⟨b, j * 5, none⟩ rfl (P2.out w2 hb2.out) (by rw [S1.out, hd.out, hz5.out]; have := hroom'.out; omega) HO.out ?_
    intro w3 hg3 hb3
    go_wp2_with fail
    go_ret
    exact hfin.out _ _ hb2.out hg3.out (grown_drew hb3.out)
end Go.Proofs.YtogieepfimpdmaaGreat

/-
  Package count: tables, which may be: Check, and the document's May and Check. Conditions: those that each lemma states.
-/
namespace Go.Proofs.YtogieepfimpdmaaGreat
open Go.RowKit

/-! ### Tables that may be -/
def mayT (t : List UInt8) : Bool := decide (t.length = 256) && (t.take 8).all (· == 0)
def chkT (t : List UInt8) : Int := if mayT t then 0 else 8
theorem chkT_ok {t : List UInt8} (h : mayT t = true) : chkT t = 0 := by simp [chkT, h]
theorem chkT_bad {t : List UInt8} (h : mayT t = false) : chkT t = 8 := by simp [chkT, h]
theorem mayT_len {t : List UInt8} (h : mayT t = true) : t.length = 256 := by
  simp only [mayT, Bool.and_eq_true, decide_eq_true_eq] at h
  exact h.1
theorem mayT_short {t : List UInt8} (h : t.length ≠ 256) : mayT t = false := by simp [mayT, h]
theorem mayT_yes {t : List UInt8} (h : t.length = 256) (ha : ∀ j, j < 8 → t[j]?.getD 0 = 0) : mayT t = true := by
  simp only [mayT, Bool.and_eq_true, decide_eq_true_eq, List.all_eq_true]
  refine ⟨h, fun x hx => ?_⟩
  obtain ⟨j, hj, rfl⟩ := List.mem_iff_getElem.1 hx
  have hj8 : j < 8 := by simp at hj; omega
  have := ha j hj8
  rw [List.getElem?_eq_getElem (by omega)] at this
  simpa using this
theorem mayT_at {t : List UInt8} (h : mayT t = true) {j : Nat} (hj : j < 8) : t[j]?.getD 0 = 0 := by
  have hl := mayT_len h
  simp only [mayT, Bool.and_eq_true, List.all_eq_true] at h
  have := h.2 (t[j]'(by omega)) (List.mem_iff_getElem.2 ⟨j, by simp; omega, by simp⟩)
  rw [List.getElem?_eq_getElem (by omega)]
  simpa using this
theorem mayT_no {t : List UInt8} {k : Nat} (hk : k < 8) (h : t[k]?.getD 0 ≠ 0) : mayT t = false := by
  cases hm : mayT t with
  | false => rfl
  | true => exact absurd (mayT_at hm hk) h
theorem byte_ne {x : UInt8} (h : ¬ (x.toNat : Int) = 0) : x ≠ 0 := fun e => h (by rw [e]; rfl)
theorem byte_eq {x : UInt8} (h : (x.toNat : Int) = 0) : x = 0 := UInt8.toNat.inj (by simpa using h)
theorem below8_snoc {b : List UInt8} {k : Nat} (ha : ∀ j, j < k → b[j]?.getD 0 = 0) (h : b[k]?.getD 0 = 0) : ∀ j, j < k + 1 → b[j]?.getD 0 = 0 := fun j hj => by
  rcases Nat.lt_or_ge j k with h1 | h1
  · exact ha j h1
  · obtain rfl : j = k := by omega
    exact h

set_option maxRecDepth 100000 in
set_option maxHeartbeats 2000000 in
theorem checkT_any (A : Option Addr) (n c : Nat) (t : List UInt8) (hn : Hid (t.length = n)) (l1 : n ≤ c) (m1 : c ≤ 9223372036854775807) (w : World) (h : Byt w w.heap.size A t) :
    Calls Tryz.prog 76 #[.slice A n c] w fun e w' => e = .returned (.int .i64 (chkT t)) ∧ w = w' := by
  have HY := Lib.hid h
  clear h
  by_cases h256 : n = 256
  · obtain ⟨ad, rfl, _, hc⟩ := HY.out (by rw [hn.out]; omega)
    subst h256
    replace hc := Lib.hid hc
    go_enter Tryz.func76, Tryz.ntmps76
    go_wp2_with fail
    go_loop [11] (fun i => ∃ k : Nat, k ≤ 8 ∧ i = .int .i64 k ∧ ∀ j, j < k → t[j]?.getD 0 = 0) (fun i => 8 - (intOf i).toNat)
    case atStart => exact ⟨0, by omega, rfl, fun j hj => by omega⟩
    case round =>
      obtain ⟨k, hk, rfl, ha⟩ := hrel
      replace ha := Lib.hid ha
      by_cases hlt : k < 8
      · have hcell := hc.out k (by rw [hn.out]; omega)
        have hyes := Lib.hid (fun h => mayT_no (t := t) hlt h)
        have hno := Lib.hid (fun h => below8_snoc (b := t) (k := k) ha.out h)
        obtain ⟨x, hx⟩ : ∃ x, t[k]?.getD 0 = x := ⟨_, rfl⟩
        rw [hx] at hcell hyes hno
        replace hx := Lib.hid hx
        by_cases h0 : (x.toNat : Int) = 0
        · have t0 : ((x.toNat : Int) != 0) = false := by simpa using h0
          have hall := Lib.hid (hno.out (byte_eq h0))
          replace h0 := Lib.hid h0
          go_wp2_with fail
          go_round
          case rel => exact ⟨k + 1, by omega, by go_num, hall.out⟩
          case measure => simp [intOf]; omega
        · have t0 : ((x.toNat : Int) != 0) = true := by simpa using h0
          have hr := Lib.hid (chkT_bad (hyes.out (byte_ne h0)))
          replace h0 := Lib.hid h0
          go_wp2_with fail
          go_ret
          exact ⟨ret_int hr.out.symm, rfl⟩
      · have hr := Lib.hid (chkT_ok (mayT_yes (t := t) hn.out fun j hj => ha.out j (by omega)))
        go_wp2_with fail
        go_ret
        exact ⟨ret_int hr.out.symm, rfl⟩
  · have hr := Lib.hid (chkT_bad (mayT_short (t := t) (by rw [hn.out]; exact h256)))
    have i1 : ((n : Int) != 256) = true := by simp; omega
    go_enter Tryz.func76, Tryz.ntmps76
    go_wp2_with fail
    go_ret
    exact ⟨ret_int hr.out.symm, rfl⟩

/-! ### Tables of noughts -/
theorem may_zeros : mayT (zeros 256) = true := by decide +kernel
set_option maxHeartbeats 1000000 in
theorem cntNew_any (w : World) : Calls Tryz.prog 43 #[] w fun e w' => e = .returned (.slice (some ⟨w.heap.size, 0, none⟩) 256 256) ∧ w' = w.alloc (.cells (rowA (zeros 256)) 5) := by
  have hmk : (Instr.makeSlice 27 (.int .i64 256) (.int .i64 256)).run Tryz.prog w = .ok (.slice (some ⟨w.heap.size, 0, none⟩) 256 256) (w.alloc (.cells (rowA (zeros 256)) 5)) := make_bytes 256 (by omega) w
  go_enter Tryz.func43, Tryz.ntmps43
  go_wp2
  go_ret
  exact ⟨rfl, rfl⟩
end Go.Proofs.YtogieepfimpdmaaGreat

/-
  Package count: Up, Down, Sum, and the document's. Conditions: those that each lemma states.
-/
namespace Go.Proofs.YtogieepfimpdmaaGreat
open Go.RowKit

/-! ### Counts that are turned -/
def inT (n : Int) : Bool := decide (8 ≤ n) && decide (n < 256)
def turnE (t : List UInt8) (n : Int) (x : UInt8) : Int := if mayT t then (if inT n then (if t[n.toNat]?.getD 0 = x then 70 else 0) else 2) else 8
def upE (t : List UInt8) (n : Int) : Int := turnE t n 255
def upV (t : List UInt8) (n : Int) : List UInt8 := if upE t n = 0 then t.set n.toNat (t[n.toNat]?.getD 0 + 1) else []
theorem turnE_bad {t : List UInt8} {n : Int} {x : UInt8} (h : mayT t = false) : turnE t n x = 8 := by simp [turnE, h]
theorem turnE_out {t : List UInt8} {n : Int} {x : UInt8} (h : mayT t = true) (h' : inT n = false) : turnE t n x = 2 := by simp [turnE, h, h']
theorem turnE_end {t : List UInt8} {n : Int} {x : UInt8} (h : mayT t = true) (h' : inT n = true) (h2 : t[n.toNat]?.getD 0 = x) : turnE t n x = 70 := by simp [turnE, h, h', h2]
theorem turnE_ok {t : List UInt8} {n : Int} {x : UInt8} (h : mayT t = true) (h' : inT n = true) (h2 : t[n.toNat]?.getD 0 ≠ x) : turnE t n x = 0 := by simp [turnE, h, h', h2]
theorem inT_nat {n : Int} (h : inT n = true) : ∃ k : Nat, n = k ∧ 8 ≤ k ∧ k < 256 := by
  simp only [inT, Bool.and_eq_true, decide_eq_true_eq] at h
  exact ⟨n.toNat, by omega, by omega, by omega⟩
theorem inT_of {k : Nat} (h : 8 ≤ k) (h' : k < 256) : inT (k : Int) = true := by
  simp only [inT, Bool.and_eq_true, decide_eq_true_eq]
  omega
theorem inT_no {n : Int} (h : inT n = false) : n < 8 ∨ 256 ≤ n := by
  simp only [inT, Bool.and_eq_false_iff, decide_eq_false_iff_not] at h
  omega
/-- The four ways of a turn. -/
theorem turn_ways (t : List UInt8) (n : Int) (x : UInt8) : (mayT t = false ∧ turnE t n x = 8) ∨ (mayT t = true ∧ (n < 8 ∨ 256 ≤ n) ∧ turnE t n x = 2) ∨ (∃ k : Nat, mayT t = true ∧ n = k ∧ 8 ≤ k ∧ k < 256 ∧ t[k]?.getD 0 = x ∧ turnE t n x = 70) ∨
    (∃ k : Nat, mayT t = true ∧ n = k ∧ 8 ≤ k ∧ k < 256 ∧ t[k]?.getD 0 ≠ x ∧ turnE t n x = 0) := by
  cases hm : mayT t with
  | false => exact .inl ⟨rfl, turnE_bad hm⟩
  | true =>
    cases hi : inT n with
    | false => exact .inr (.inl ⟨rfl, inT_no hi, turnE_out hm hi⟩)
    | true =>
      obtain ⟨k, rfl, h1, h2⟩ := inT_nat hi
      by_cases hx : t[k]?.getD 0 = x
      · exact .inr (.inr (.inl ⟨k, rfl, rfl, h1, h2, hx, turnE_end hm hi hx⟩))
      · exact .inr (.inr (.inr ⟨k, rfl, rfl, h1, h2, hx, turnE_ok hm hi hx⟩))
theorem byte_same {x y : UInt8} {q : Int} (hy : (y.toNat : Int) = q) (h : x = y) : ((x.toNat : Int) == q) = true := by subst h; simpa using hy
theorem byte_unlike {x y : UInt8} {q : Int} (hy : (y.toNat : Int) = q) (h : x ≠ y) : ((x.toNat : Int) == q) = false := by
  cases he : (x.toNat : Int) == q with
  | false => rfl
  | true => exact absurd (UInt8.toNat.inj (by have := beq_iff_eq.1 he; omega)) h

set_option maxRecDepth 100000 in
set_option maxHeartbeats 2000000 in
theorem checkTurn_any (v : Value) (t : List UInt8) (n : Int) (x : UInt8) (q : Int) (hx : (x.toNat : Int) = q) (w : World) (h : rBy (Old w) w [v] t) :
    Calls Tryz.prog 112 #[v, .int .i64 n, .int .u8 q] w fun e w' => e = .returned (.int .i64 (turnE t n x)) ∧ w = w' := by
  obtain ⟨A, c, rfl, l1, m1, hb⟩ := rBy_byt (B := w.heap.size) (fun _ h => h) h
  replace hb := Lib.hid hb
  clear h
  rcases turn_ways t n x with ⟨hm, he⟩ | ⟨hm, hn, he⟩ | ⟨k, hm, rfl, h8, h256, hk, he⟩ | ⟨k, hm, rfl, h8, h256, hk, he⟩
  · replace he := Lib.hid he
    have hc := Lib.hid (chkT_bad hm)
    replace hm := Lib.hid hm
    clear hx
    go_enter Tryz.func112, Tryz.ntmps112
    go_wp2_with fail
    with_reducible refine (checkT_any A t.length c t (Lib.hid rfl) l1 m1 _ hb.out).mono ?_
    rintro e w1 ⟨rfl, rfl⟩
    rw [hc.out]
    go_wp2_with fail
    go_ret
    exact ⟨ret_int he.out.symm, rfl⟩
  · replace he := Lib.hid he
    have hc := Lib.hid (chkT_ok hm)
    replace hm := Lib.hid hm
    clear hx
    by_cases h8 : n < 8
    · go_enter Tryz.func112, Tryz.ntmps112
      go_wp2_with fail
      with_reducible refine (checkT_any A t.length c t (Lib.hid rfl) l1 m1 _ hb.out).mono ?_
      rintro e w1 ⟨rfl, rfl⟩
      rw [hc.out]
      go_wp2_with fail
      go_ret
      exact ⟨ret_int he.out.symm, rfl⟩
    · have h9 : 256 ≤ n := by omega
      clear hn
      go_enter Tryz.func112, Tryz.ntmps112
      go_wp2_with fail
      with_reducible refine (checkT_any A t.length c t (Lib.hid rfl) l1 m1 _ hb.out).mono ?_
      rintro e w1 ⟨rfl, rfl⟩
      rw [hc.out]
      go_wp2_with fail
      go_ret
      exact ⟨ret_int he.out.symm, rfl⟩
  · replace he := Lib.hid he
    have hl := Lib.hid (mayT_len hm)
    have hc := Lib.hid (chkT_ok hm)
    replace hm := Lib.hid hm
    obtain ⟨ad, rfl, _, hcc⟩ := hb.out (by rw [hl.out]; omega)
    have hcell := hcc k (by rw [hl.out]; omega)
    obtain ⟨y, hy⟩ : ∃ y, t[k]?.getD 0 = y := ⟨_, rfl⟩
    rw [hy] at hcell hk
    have t0 := byte_same hx hk
    replace hy := Lib.hid hy
    have i1 : ¬ (k : Int) < 8 := by omega
    have i2 : ¬ 256 ≤ (k : Int) := by omega
    have i3 : k < t.length := by rw [hl.out]; exact h256
    clear hcc hk hx
    go_enter Tryz.func112, Tryz.ntmps112
    go_wp2_with fail
    with_reducible refine (checkT_any (some ad) t.length c t (Lib.hid rfl) l1 m1 _ hb.out).mono ?_
    rintro e w1 ⟨rfl, rfl⟩
    rw [hc.out]
    go_wp2_with fail
    go_ret
    exact ⟨ret_int he.out.symm, rfl⟩
  · replace he := Lib.hid he
    have hl := Lib.hid (mayT_len hm)
    have hc := Lib.hid (chkT_ok hm)
    replace hm := Lib.hid hm
    obtain ⟨ad, rfl, _, hcc⟩ := hb.out (by rw [hl.out]; omega)
    have hcell := hcc k (by rw [hl.out]; omega)
    obtain ⟨y, hy⟩ : ∃ y, t[k]?.getD 0 = y := ⟨_, rfl⟩
    rw [hy] at hcell hk
    have t0 := byte_unlike hx hk
    replace hy := Lib.hid hy
    have i1 : ¬ (k : Int) < 8 := by omega
    have i2 : ¬ 256 ≤ (k : Int) := by omega
    have i3 : k < t.length := by rw [hl.out]; exact h256
    clear hcc hk hx
    go_enter Tryz.func112, Tryz.ntmps112
    go_wp2_with fail
    with_reducible refine (checkT_any (some ad) t.length c t (Lib.hid rfl) l1 m1 _ hb.out).mono ?_
    rintro e w1 ⟨rfl, rfl⟩
    rw [hc.out]
    go_wp2_with fail
    go_ret
    exact ⟨ret_int he.out.symm, rfl⟩

theorem up_byte {x : UInt8} (h : x ≠ 255) : ((x.toNat : Int) + 1 = ((x + 1).toNat : Int)) ∧ (x.toNat : Int) + 1 ≤ 255 ∧ 0 ≤ (x.toNat : Int) := by
  have h2 : x.toNat ≠ 255 := fun e => h (UInt8.toNat.inj e)
  have h3 := x.toNat_lt
  have : (x + 1).toNat = x.toNat + 1 := by rw [UInt8.toNat_add]; simp; omega
  omega
theorem dn_byte {x : UInt8} (h : x ≠ 0) : ((x.toNat : Int) - 1 = ((x - 1).toNat : Int)) ∧ (x.toNat : Int) ≤ 255 ∧ 0 ≤ (x.toNat : Int) - 1 := by
  have h2 : x.toNat ≠ 0 := fun e => h (UInt8.toNat.inj e)
  have h3 := x.toNat_lt
  have : (x - 1).toNat = x.toNat - 1 := by rw [UInt8.toNat_sub_of_le]; rfl; exact UInt8.le_iff_toNat_le.2 (by show 1 ≤ x.toNat; omega)
  omega

set_option maxRecDepth 100000 in
set_option maxHeartbeats 2000000 in
theorem up_any (v : Value) (t : List UInt8) (n : Int) (w : World) (h : rBy (Old w) w [v] t) :
    Calls Tryz.prog 92 #[v, .int .i64 n] w fun e w' => ∃ u, e = .returned (.tuple #[u, .int .i64 (upE t n)]) ∧ rBy (New w.heap.size w') w' [u] (upV t n) ∧ Below w.heap.size w w' := by
  have h' := Lib.hid h
  by_cases he : upE t n = 0
  · obtain ⟨k, hm, rfl, h8, h256, hk⟩ : ∃ k : Nat, mayT t = true ∧ n = k ∧ 8 ≤ k ∧ k < 256 ∧ t[k]?.getD 0 ≠ 255 := by
      rcases turn_ways t n 255 with ⟨_, h2⟩ | ⟨_, _, h2⟩ | ⟨k, _, _, _, _, _, h2⟩ | ⟨k, hm, hn, h8, h256, hk, h2⟩
      · rw [upE, h2] at he; cases he
      · rw [upE, h2] at he; cases he
      · rw [upE, h2] at he; cases he
      · exact ⟨k, hm, hn, h8, h256, hk⟩
    have hl := mayT_len hm
    have hr : Hid (upV t (k : Int) = t.set k (t[k]?.getD 0 + 1)) := Lib.hid (by simp [upV, he])
    obtain ⟨A, c, rfl, l1, m1, hb⟩ := rBy_byt (B := w.heap.size) (fun _ h => h) h
    obtain ⟨hu, hu1, hu2⟩ := up_byte hk
    replace hb := Lib.hid hb
    replace hl := Lib.hid hl
    replace he := Lib.hid he
    replace hu := Lib.hid hu
    clear hk h
    go_enter Tryz.func92, Tryz.ntmps92
    go_wp2_with fail
    with_reducible refine (checkTurn_any _ t (k : Int) 255 255 rfl _ h'.out).mono ?_
    rintro e w1 ⟨rfl, rfl⟩
    rw [show turnE t (k : Int) 255 = 0 from he.out]
    go_wp2_with fail
    with_reducible refine (clone_any A t.length c t (Lib.hid rfl) (by rw [hl.out]; omega) _ hb.out).mono ?_
    rintro e w2 ⟨u, rfl, hu3, hb2⟩
    obtain ⟨g, c2, rfl, hg1, hg2, hg3, hg4⟩ := own_head hu3 (by rw [hl.out]; omega)
    have hcell := own_cell hu3 (j := k) (by rw [hl.out]; exact h256)
    have hfr : w2.frozen? ⟨g, k, none⟩ = false := by
      have := own_free hu3 k
      rwa [show (⟨g, 0, none⟩ : Addr).add k = ⟨g, k, none⟩ by simp [add_off]] at this
    have hset := Lib.hid (own_set hu3 k (t[k]?.getD 0 + 1))
    have i3 : k < t.length := by rw [hl.out]; exact h256
    generalize t[k]?.getD 0 = x at *
    replace hu3 := Lib.hid hu3
    go_wp2_with fail
    go_ret2
    rw [hr.out, he.out]
    rw [hu.out]
    exact ⟨_, rfl, own_by hset.out, hb2.setCell hg1 _⟩
  · have hr : Hid (upV t n = []) := Lib.hid (by simp [upV, he])
    obtain ⟨q, hq⟩ : ∃ q, upE t n = q := ⟨_, rfl⟩
    have hq0 : (q != 0) = true := by rw [← hq]; simpa using he
    replace hq := Lib.hid hq
    clear h he
    go_enter Tryz.func92, Tryz.ntmps92
    go_wp2_with fail
    with_reducible refine (checkTurn_any _ t n 255 255 rfl _ h'.out).mono ?_
    rintro e w1 ⟨rfl, rfl⟩
    rw [show turnE t n 255 = q from hq.out]
    go_wp2_with fail
    go_ret2
    rw [hr.out, hq.out]
    exact ⟨_, rfl, rBy_none_new _ _, Below.refl _ _⟩
/-! ### Sums -/
end Go.Proofs.YtogieepfimpdmaaGreat

/-
  The statements' own example of layer 7: a count goes up, and down. Conditions: none.
-/
namespace Go.Proofs.YtogieepfimpdmaaGreat
open Go.RowKit

theorem new_by (w : World) : rBy (New w.heap.size (w.alloc (.cells (rowA (zeros 256)) 5))) (w.alloc (.cells (rowA (zeros 256)) 5)) [.slice (some ⟨w.heap.size, 0, none⟩) 256 256] (zeros 256) := by
  have := row_by w (zeros 256) (by rw [zeros_length]; omega)
  rwa [zeros_length] at this
/-- A new table, as a contract. -/
theorem cntNew_by (w : World) : Calls Tryz.prog 43 #[] w fun e w' => ∃ g, e = .returned (.slice (some ⟨g, 0, none⟩) 256 256) ∧ rBy (New w.heap.size w') w' [.slice (some ⟨g, 0, none⟩) 256 256] (zeros 256) ∧ Below w.heap.size w w' := by
  refine (cntNew_any w).mono ?_
  rintro e w' ⟨rfl, rfl⟩
  exact ⟨_, rfl, new_by w, balloc (Below.refl _ _) _⟩
/-- What a call of Up on a table that is opened tells. -/
theorem up_open (v : Value) (t : List UInt8) (n : Int) (w : World) (h : rBy (Old w) w [v] t) :
    Calls Tryz.prog 92 #[v, .int .i64 n] w fun e w' => ∃ E c, e = .returned (.tuple #[.slice E (upV t n).length c, .int .i64 (upE t n)]) ∧ rBy (New w.heap.size w') w' [.slice E (upV t n).length c] (upV t n) ∧ Below w.heap.size w w' := by
  refine (up_any v t n w h).mono ?_
  rintro e w' ⟨u, rfl, hu, hb⟩
  obtain ⟨E, c, rfl, _⟩ := id (rBy_open hu)
  exact ⟨E, c, rfl, hu, hb⟩
end Go.Proofs.YtogieepfimpdmaaGreat

/-
  Tables, plain: what turns leave. Conditions: those that each lemma states.
-/
namespace Go.Proofs.YtogieepfimpdmaaGreat
open Go.RowKit

theorem set_get {t : List UInt8} {k : Nat} {x : UInt8} (h : k < t.length) : (t.set k x)[k]?.getD 0 = x := by simp [h]
theorem set_other {t : List UInt8} {k j : Nat} {x : UInt8} (h : j ≠ k) : (t.set k x)[j]?.getD 0 = t[j]?.getD 0 := by simp [List.getElem?_set_ne (Ne.symm h)]
theorem mayT_set {t : List UInt8} {k : Nat} {x : UInt8} (h : mayT t = true) (hk : 8 ≤ k) : mayT (t.set k x) = true :=
  mayT_yes (by rw [List.length_set]; exact mayT_len h) fun j hj => by rw [set_other (by omega)]; exact mayT_at h hj
theorem up_ok {t : List UInt8} {k : Nat} (hm : mayT t = true) (h8 : 8 ≤ k) (h : k < 256) (hx : t[k]?.getD 0 ≠ 255) : upE t k = 0 ∧ upV t k = t.set k (t[k]?.getD 0 + 1) := by
  have h1 : upE t k = 0 := turnE_ok hm (inT_of h8 h) (by simpa using hx)
  exact ⟨h1, by simp [upV, h1]⟩
theorem byte_back {x : UInt8} : x + 1 - 1 = x ∧ x - 1 + 1 = x := ⟨UInt8.add_sub_cancel x 1, UInt8.sub_add_cancel x 1⟩
theorem byte_dn_ne {x : UInt8} (h : x ≠ 0) : x - 1 ≠ 255 := fun e => by
  have := dn_byte h
  rw [e] at this
  have h0 : ((255 : UInt8).toNat : Int) = 255 := rfl
  omega
theorem in_ways (a : Int) : (a < 8 ∧ inT a = false) ∨ (8 ≤ a ∧ a < 256 ∧ inT a = true) ∨ (8 ≤ a ∧ 256 ≤ a ∧ inT a = false) := by
  cases h : inT a with
  | true =>
    obtain ⟨k, rfl, h1, h2⟩ := inT_nat h
    exact .inr (.inl ⟨by omega, by omega, rfl⟩)
  | false =>
    rcases inT_no h with h1 | h1
    · exact .inl ⟨h1, rfl⟩
    · exact .inr (.inr ⟨by omega, h1, rfl⟩)
end Go.Proofs.YtogieepfimpdmaaGreat

/-
  Stores, plain: which blocks are free, what is taken, shared, and what follows. Conditions: those that each lemma states.
-/
namespace Go.Proofs.YtogieepfimpdmaaGreat
open Go.RowKit

/-- A store: its disk, the counts now, and those of the last commit. -/
abbrev Rm := Dk × List UInt8 × List UInt8
def emptyR : Rm := (emptyD, [], [])
def mayR (s : Rm) : Bool := mayB s.1 && mayT s.2.1 && mayT s.2.2
def chkR (s : Rm) : Int := if mayR s then 0 else 8
theorem mayR_of {s : Rm} (h : mayR s = true) : mayB s.1 = true ∧ mayT s.2.1 = true ∧ mayT s.2.2 = true := by
  unfold mayR at h
  simp only [Bool.and_eq_true] at h
  exact ⟨h.1.1, h.1.2, h.2⟩
theorem mayR_mk {s : Rm} (h1 : mayB s.1 = true) (h2 : mayT s.2.1 = true) (h3 : mayT s.2.2 = true) : mayR s = true := by simp [mayR, h1, h2, h3]
theorem chkR_ok {s : Rm} (h : mayR s = true) : chkR s = 0 := by simp [chkR, h]
theorem chkR_bad {s : Rm} (h : mayR s = false) : chkR s = 8 := by simp [chkR, h]

/-! ### Free blocks -/
def freeAt (s : Rm) (i : Nat) : Bool := decide (s.2.1[i]?.getD 0 = 0) && decide (s.2.2[i]?.getD 0 = 0)
/-- Those among the first k behind the fixed ones. -/
def freeK (s : Rm) (k : Nat) : List Nat := (List.range' 8 k).filter (freeAt s)
def freeL (s : Rm) : List Nat := freeK s 248
theorem freeK_succ (s : Rm) (k : Nat) : freeK s (k + 1) = freeK s k ++ (if freeAt s (8 + k) then [8 + k] else []) := by
  unfold freeK
  rw [List.range'_concat, List.filter_append]
  simp [List.filter_cons]
theorem freeK_len (s : Rm) (k : Nat) : (freeK s k).length ≤ k := by
  have := List.length_filter_le (freeAt s) (List.range' 8 k)
  simpa [freeK] using this
theorem free_in {s : Rm} {i : Nat} (h : i ∈ freeL s) : 8 ≤ i ∧ i < 256 ∧ s.2.1[i]?.getD 0 = 0 ∧ s.2.2[i]?.getD 0 = 0 := by
  unfold freeL freeK at h
  rw [List.mem_filter, List.mem_range'_1] at h
  obtain ⟨⟨h1, h2⟩, h3⟩ := h
  simp only [freeAt, Bool.and_eq_true, decide_eq_true_eq] at h3
  exact ⟨h1, h2, h3.1, h3.2⟩
/-! ### Take -/
def tkE (s : Rm) (b : List UInt8) : Int := if mayR s then (if b.length = 128 then (if (freeL s).isEmpty || decide (4096 ≤ s.1.2.length) then 9 else 0) else 3) else 8
def tkK (s : Rm) : Nat := (freeL s)[0]?.getD 0
def tkN (s : Rm) (b : List UInt8) : Int := if tkE s b = 0 then (tkK s : Int) else 0
def tkV (s : Rm) (b : List UInt8) : Rm := if tkE s b = 0 then (wrD s.1 (tkK s) b, s.2.1.set (tkK s) 1, s.2.2) else emptyR
theorem tk_ok {s : Rm} {b : List UInt8} (h : tkE s b = 0) : mayR s = true ∧ b.length = 128 ∧ s.1.2.length < 4096 ∧ freeL s = tkK s :: (freeL s).tail ∧ 8 ≤ tkK s ∧ tkK s < 256 ∧ s.2.1[tkK s]?.getD 0 = 0 ∧ s.2.2[tkK s]?.getD 0 = 0 ∧
    tkN s b = (tkK s : Int) ∧ tkV s b = (wrD s.1 (tkK s) b, s.2.1.set (tkK s) 1, s.2.2) := by
  have hN : tkN s b = (tkK s : Int) := by rw [tkN, if_pos h]
  have hV : tkV s b = (wrD s.1 (tkK s) b, s.2.1.set (tkK s) 1, s.2.2) := by rw [tkV, if_pos h]
  unfold tkE at h
  cases hm : mayR s with
  | false => rw [hm] at h; simp at h
  | true =>
    rw [hm, if_pos rfl] at h
    by_cases hb : b.length = 128
    · rw [if_pos hb] at h
      cases hl : freeL s with
      | nil => rw [hl] at h; simp at h
      | cons k m =>
        have hk : tkK s = k := by simp [tkK, hl]
        obtain ⟨h1, h2, h3, h4⟩ := free_in (s := s) (i := k) (by rw [hl]; exact List.mem_cons_self)
        have hw : s.1.2.length < 4096 := by
          rw [hl] at h
          by_cases hw : 4096 ≤ s.1.2.length
          · simp [hw] at h
          · omega
        rw [hk] at hN hV ⊢
        exact ⟨rfl, hb, hw, rfl, h1, h2, h3, h4, hN, hV⟩
    · rw [if_neg hb] at h
      simp at h
theorem tk_yes {s : Rm} {b : List UInt8} (hm : mayR s = true) (hb : b.length = 128) (hl : freeL s ≠ []) (hw : s.1.2.length < 4096) : tkE s b = 0 := by
  have h1 : (freeL s).isEmpty = false := by cases h : freeL s with
    | nil => exact absurd h hl
    | cons k m => rfl
  have h2 : decide (4096 ≤ s.1.2.length) = false := by simp; omega
  simp [tkE, hm, hb, h1, h2]
theorem tk_ways (s : Rm) (b : List UInt8) : (mayR s = false ∧ tkE s b = 8) ∨ (mayR s = true ∧ b.length ≠ 128 ∧ tkE s b = 3) ∨ (mayR s = true ∧ b.length = 128 ∧ freeL s = [] ∧ tkE s b = 9) ∨ (mayR s = true ∧ b.length = 128 ∧ freeL s ≠ [] ∧ 4096 ≤ s.1.2.length ∧ tkE s b = 9) ∨
    (mayR s = true ∧ b.length = 128 ∧ freeL s ≠ [] ∧ s.1.2.length < 4096 ∧ tkE s b = 0) := by
  cases hm : mayR s with
  | false => exact .inl ⟨rfl, by simp [tkE, hm]⟩
  | true =>
    by_cases hb : b.length = 128
    · cases hl : freeL s with
      | nil => exact .inr (.inr (.inl ⟨rfl, hb, rfl, by simp [tkE, hm, hb, hl]⟩))
      | cons k m =>
        by_cases hw : s.1.2.length < 4096
        · exact .inr (.inr (.inr (.inr ⟨rfl, hb, by simp, hw, tk_yes hm hb (by rw [hl]; simp) hw⟩)))
        · exact .inr (.inr (.inr (.inl ⟨rfl, hb, by simp, by omega, by simp [tkE, hm, hb, hl]; omega⟩)))
    · exact .inr (.inl ⟨rfl, hb, by simp [tkE, hm, hb]⟩)
theorem tk_no {s : Rm} {b : List UInt8} (h : tkE s b ≠ 0) : tkN s b = 0 ∧ tkV s b = emptyR := ⟨by rw [tkN, if_neg h], by rw [tkV, if_neg h]⟩
/-- What follows, where a block is taken. -/
theorem tk_may {s : Rm} {b : List UInt8} (h : tkE s b = 0) : mayR (tkV s b) = true := by
  obtain ⟨hm, hb, hw, _, h8, h256, _, _, _, hV⟩ := tk_ok h
  obtain ⟨m1, m2, m3⟩ := mayR_of hm
  rw [hV]
  exact mayR_mk (may_write m1 h256 hb hw) (mayT_set m2 h8) m3
/-! ### Share -/
def asE (s : Rm) (n : Int) : Int := if mayR s then (if inT n then (if s.2.1[n.toNat]?.getD 0 = 0 then 6 else 0) else 2) else 8
theorem as_ways (s : Rm) (n : Int) : (mayR s = false ∧ asE s n = 8) ∨ (mayR s = true ∧ (n < 8 ∨ 256 ≤ n) ∧ asE s n = 2) ∨ (∃ k : Nat, mayR s = true ∧ n = k ∧ 8 ≤ k ∧ k < 256 ∧ s.2.1[k]?.getD 0 = 0 ∧ asE s n = 6) ∨
    (∃ k : Nat, mayR s = true ∧ n = k ∧ 8 ≤ k ∧ k < 256 ∧ s.2.1[k]?.getD 0 ≠ 0 ∧ asE s n = 0) := by
  cases hm : mayR s with
  | false => exact .inl ⟨rfl, by simp [asE, hm]⟩
  | true =>
    cases hi : inT n with
    | false => exact .inr (.inl ⟨rfl, inT_no hi, by simp [asE, hm, hi]⟩)
    | true =>
      obtain ⟨k, rfl, h8, h256⟩ := inT_nat hi
      by_cases hx : s.2.1[k]?.getD 0 = 0
      · exact .inr (.inr (.inl ⟨k, rfl, rfl, h8, h256, hx, by simp [asE, hm, hi, hx]⟩))
      · exact .inr (.inr (.inr ⟨k, rfl, rfl, h8, h256, hx, by simp [asE, hm, hi, hx]⟩))
end Go.Proofs.YtogieepfimpdmaaGreat

/-
  Stores (api.Store): how they read; boxes of four; stores as arguments. Conditions: those that each lemma states.
-/
namespace Go.Proofs.YtogieepfimpdmaaGreat
open Go.ChangeShapes Go.WideShapes Go.RowKit

/-- A value that reads as a store. -/
def Sto (ok : Addr → Prop) (w : World) (v : Value) (s : Rm) : Prop := ∃ a b n l, v = .agg #[a, b, n, l] ∧ Dsk ok w (.agg #[a, b]) s.1 ∧ rBy ok w [n] s.2.1 ∧ rBy ok w [l] s.2.2
section
variable {ok ok' : Addr → Prop} {w w' : World} {v : Value} {s : Rm} {lo lo' : Nat}
theorem Sto.map (hk : ∀ p v, ok p → w.cell? p = some v → ok' p ∧ w'.cell? p = some v) (h : Sto ok w v s) : Sto ok' w' v s := by
  obtain ⟨a, b, n, l, e, h1, h2, h3⟩ := h
  exact ⟨a, b, n, l, e, h1.map hk, stab_by _ _ _ _ _ _ hk h2, stab_by _ _ _ _ _ _ hk h3⟩
theorem Sto.below (h : Sto (Old w) w v s) (hb : Below w.heap.size w w') : Sto (Old w') w' v s :=
  h.map fun _ _ hp hc => ⟨Nat.lt_of_lt_of_le hp hb.size, (hb.cell hp).trans hc⟩
theorem Sto.drop (h : Sto (New lo w) w v s) : Sto (Old w) w v s := h.map fun _ _ hp hc => ⟨hp.2.1, hc⟩
theorem Sto.new (h : Sto (New lo w) w v s) (hl : lo' ≤ lo) (hb : Below w.heap.size w w') : Sto (New lo' w') w' v s :=
  h.map fun _ _ hp hc => ⟨⟨Nat.le_trans hl hp.1, Nat.lt_of_lt_of_le hp.2.1 hb.size, (hb.frozen hp.2.1).trans hp.2.2⟩, (hb.cell hp.2.1).trans hc⟩
theorem Sto.grown {row : Option Nat} (h : Sto (New lo w) w v s) (hg : w.grownBy w' row) (hr : ∀ q, row = some q → q < lo) : Sto (New lo w') w' v s := by
  obtain ⟨a, b, n, l, e, h1, h2, h3⟩ := h
  exact ⟨a, b, n, l, e, h1.grown hg hr, stab_by.grown h2 hg hr, stab_by.grown h3 hg hr⟩
/-- A store, opened. -/
theorem Sto.open (h : Sto ok w v s) : ∃ A ca B cb N cn L cl, v = .agg #[.slice A s.1.1.length ca, .slice B s.1.2.length cb, .slice N s.2.1.length cn, .slice L s.2.2.length cl] ∧ Dsk ok w (.agg #[.slice A s.1.1.length ca, .slice B s.1.2.length cb]) s.1 ∧
    rBy ok w [.slice N s.2.1.length cn] s.2.1 ∧ rBy ok w [.slice L s.2.2.length cl] s.2.2 := by
  obtain ⟨a, b, n, l, rfl, h1, h2, h3⟩ := h
  obtain ⟨A, ca, B, cb, e, _⟩ := h1.open
  cases e
  obtain ⟨N, cn, rfl, _⟩ := rBy_open h2
  obtain ⟨L, cl, rfl, _⟩ := rBy_open h3
  exact ⟨A, ca, B, cb, N, cn, L, cl, rfl, h1, h2, h3⟩
theorem Sto.parts {a b n l : Value} (h : Sto ok w (.agg #[a, b, n, l]) s) : Dsk ok w (.agg #[a, b]) s.1 ∧ rBy ok w [n] s.2.1 ∧ rBy ok w [l] s.2.2 := by
  obtain ⟨_, _, _, _, e, h1, h2, h3⟩ := h
  cases e
  exact ⟨h1, h2, h3⟩
theorem Sto.mk {a b n l : Value} (h1 : Dsk ok w (.agg #[a, b]) s.1) (h2 : rBy ok w [n] s.2.1) (h3 : rBy ok w [l] s.2.2) : Sto ok w (.agg #[a, b, n, l]) s := ⟨a, b, n, l, rfl, h1, h2, h3⟩
end
theorem sto_empty (ok : Addr → Prop) (w : World) : Sto ok w (.agg #[.slice none 0 0, .slice none 0 0, .slice none 0 0, .slice none 0 0]) emptyR :=
  ⟨_, _, _, _, rfl, ⟨_, _, rfl, ⟨none, 0, rfl, by simp [emptyR, emptyD], by omega, fun i x h => by simp [emptyR, emptyD] at h⟩, ⟨none, 0, rfl, by simp [emptyR, emptyD], by omega, fun i x h => by simp [emptyR, emptyD] at h⟩⟩,
    ⟨none, 0, rfl, by simp [emptyR], by omega, fun i x h => by simp [emptyR] at h⟩, ⟨none, 0, rfl, by simp [emptyR], by omega, fun i x h => by simp [emptyR] at h⟩⟩

/-! ### A box of four -/
theorem box_4 (w : World) (a b c d : Value) (t : TypeId) : ∃ w1, w.alloc (.cells #[a, b, c, d] t) = w1 ∧ w1.heap[w.heap.size]? = some (.cells #[a, b, c, d] t (0, 0)) ∧ w1.heap.size = w.heap.size + 1 ∧ Below w.heap.size w w1 :=
  ⟨_, rfl, heap_alloc_new _ _, by simp, (Below.refl _ _).alloc (Nat.le_refl _) _⟩
theorem four_cells {W : World} {g : Nat} {a b c d : Value} {t : TypeId} (h : W.heap[g]? = some (.cells #[a, b, c, d] t (0, 0))) : W.cell? ⟨g, 0, none⟩ = some a ∧ W.cell? ⟨g, 1, none⟩ = some b ∧ W.cell? ⟨g, 2, none⟩ = some c ∧ W.cell? ⟨g, 3, none⟩ = some d ∧ (∀ o, W.frozen? ⟨g, o, none⟩ = false) ∧ g < W.heap.size :=
  ⟨by simp [World.cell?, h], by simp [World.cell?, h], by simp [World.cell?, h], by simp [World.cell?, h], fun o => by simp [World.frozen?, h], (Array.getElem?_eq_some_iff.1 h).1⟩
/-- A block of four cells, all stored. -/
theorem put_four {W : World} {g : Nat} {a b c d a' b' c' d' : Value} {t : TypeId} (h : W.heap[g]? = some (.cells #[a, b, c, d] t (0, 0))) : ∃ W1, (((W.setCell ⟨g, 0, none⟩ a').setCell ⟨g, 1, none⟩ b').setCell ⟨g, 2, none⟩ c').setCell ⟨g, 3, none⟩ d' = W1 ∧
    W1.heap[g]? = some (.cells #[a', b', c', d'] t (0, 0)) ∧ W.grownBy W1 (some g) ∧ W1.heap.size = W.heap.size :=
  ⟨_, rfl, by simp [World.setCell, Array.getElem?_modify, h], grow_put (p := ⟨g, 3, none⟩) (grow_put (p := ⟨g, 2, none⟩) (grow_put (p := ⟨g, 1, none⟩) (grow_put (p := ⟨g, 0, none⟩) (grow_refl W (some g)) rfl a') rfl b') rfl c') rfl d', by simp⟩
/-- Four cells that are a box, as a fact of a bag. -/
def Box4 (g : Nat) (a b c d : Value) : World → Prop := fun w => w.cell? ⟨g, 0, none⟩ = some a ∧ w.cell? ⟨g, 1, none⟩ = some b ∧ w.cell? ⟨g, 2, none⟩ = some c ∧ w.cell? ⟨g, 3, none⟩ = some d ∧ g < w.heap.size
theorem lasts_box4 (g : Nat) (a b c d : Value) : Lasts (Box4 g a b c d) := fun _ _ h hb => ⟨(hb.cell (p := ⟨g, 0, none⟩) h.2.2.2.2).trans h.1, (hb.cell (p := ⟨g, 1, none⟩) h.2.2.2.2).trans h.2.1, (hb.cell (p := ⟨g, 2, none⟩) h.2.2.2.2).trans h.2.2.1, (hb.cell (p := ⟨g, 3, none⟩) h.2.2.2.2).trans h.2.2.2.1, Nat.lt_of_lt_of_le h.2.2.2.2 hb.size⟩
theorem bag_four {w w1 : World} {Fs : List (World → Prop)} (h : Bag w Fs) (hb : Below w.heap.size w w1) (a b c d : Value) (t : TypeId) : ∃ w', w1.alloc (.cells #[a, b, c, d] t) = w' ∧ Bag w' (Box4 w1.heap.size a b c d :: Fs) ∧ Below w.heap.size w w' ∧ Below w1.heap.size w1 w' ∧ w1.heap.size < w'.heap.size := by
  obtain ⟨w2, e2, b2, k4, k5⟩ := box_4 w1 a b c d t
  obtain ⟨k0, k1, k2, k3, _, k6⟩ := four_cells b2
  exact ⟨w2, e2, ((h.below hb).below k5).add ⟨k0, k1, k2, k3, k6⟩ (lasts_box4 _ _ _ _ _), hb.trans (k5.mono hb.size), k5, by omega⟩
def OldR (v : Value) (s : Rm) : World → Prop := fun w => Sto (Old w) w v s
theorem lasts_oldR (v : Value) (s : Rm) : Lasts (OldR v s) := fun _ _ h hb => h.below hb
/-! ### Arguments -/
end Go.Proofs.YtogieepfimpdmaaGreat

/-
  Package room: Check, takable, checkTaken; the document's Great. Conditions: those that each lemma states.
-/
namespace Go.Proofs.YtogieepfimpdmaaGreat
open Go.RowKit

theorem checkT_by (v : Value) (t : List UInt8) (w : World) (h : rBy (Old w) w [v] t) : Calls Tryz.prog 76 #[v] w fun e w' => e = .returned (.int .i64 (chkT t)) ∧ w = w' := by
  obtain ⟨A, c, rfl, l1, m1, hb⟩ := rBy_byt (B := w.heap.size) (fun _ h => h) h
  exact checkT_any A t.length c t (Lib.hid rfl) l1 m1 w hb

/-- A store in its box. -/
theorem box_sto {w : World} {v : Value} {s : Rm} (h : Sto (Old w) w v s) : ∃ A ca B cb N cn L cl w1, v = .agg #[.slice A s.1.1.length ca, .slice B s.1.2.length cb, .slice N s.2.1.length cn, .slice L s.2.2.length cl] ∧
    w.alloc (.cells #[.slice A s.1.1.length ca, .slice B s.1.2.length cb, .slice N s.2.1.length cn, .slice L s.2.2.length cl] 29) = w1 ∧ w1.heap[w.heap.size]? = some (.cells #[.slice A s.1.1.length ca, .slice B s.1.2.length cb, .slice N s.2.1.length cn, .slice L s.2.2.length cl] 29 (0, 0)) ∧ w1.heap.size = w.heap.size + 1 ∧ Below w.heap.size w w1 ∧
    Hid (Dsk (Old w1) w1 (.agg #[.slice A s.1.1.length ca, .slice B s.1.2.length cb]) s.1) ∧ Hid (rBy (Old w1) w1 [.slice N s.2.1.length cn] s.2.1) ∧ Hid (rBy (Old w1) w1 [.slice L s.2.2.length cl] s.2.2) := by
  obtain ⟨A, ca, B, cb, N, cn, L, cl, rfl, hd, hN, hL⟩ := h.open
  obtain ⟨w1, hw1, f, hs, hB⟩ := box_4 w (.slice A s.1.1.length ca) (.slice B s.1.2.length cb) (.slice N s.2.1.length cn) (.slice L s.2.2.length cl) 29
  exact ⟨A, ca, B, cb, N, cn, L, cl, w1, rfl, hw1, f, hs, hB, Lib.hid (hd.below hB), Lib.hid (stab_by.old hN hB), Lib.hid (stab_by.old hL hB)⟩

set_option maxRecDepth 100000 in
set_option maxHeartbeats 2000000 in
theorem checkR_any (v : Value) (s : Rm) (w : World) (h : Sto (Old w) w v s) : Calls Tryz.prog 49 #[v] w fun e w' => e = .returned (.int .i64 (chkR s)) ∧ Below w.heap.size w w' := by
  obtain ⟨A, ca, B, cb, N, cn, L, cl, w1, rfl, hw1, f, hsz, hB, D, NN, LL⟩ := box_sto h
  clear h
  obtain ⟨k0, k1, k2, k3, _, kg⟩ := four_cells f
  replace hsz := Lib.hid hsz
  cases h1 : mayB s.1 with
  | false =>
    have hr : Hid (chkR s = 8) := Lib.hid (chkR_bad (by simp [mayR, h1]))
    have e1 := chk_bad h1
    go_enter Tryz.func49, Tryz.ntmps49
    go_upto_region 1 with fail
    clear hw1
    go_wp2_with fail
    with_reducible refine (check_any _ s.1 _ D.out).mono ?_
    rintro e w2 ⟨rfl, hb2⟩
    rw [e1]
    go_wp2_with fail
    go_ret
    exact ⟨ret_int hr.out.symm, hB.trans (hb2.mono hB.size)⟩
  | true =>
    have e1 := chk_ok h1
    cases h2 : mayT s.2.1 with
    | false =>
      have hr : Hid (chkR s = 8) := Lib.hid (chkR_bad (by simp [mayR, h2]))
      have e2 := chkT_bad h2
      go_enter Tryz.func49, Tryz.ntmps49
      go_upto_region 1 with fail
      clear hw1
      go_wp2_with fail
      with_reducible refine (check_any _ s.1 _ D.out).mono ?_
      rintro e w2 ⟨rfl, hb2⟩
      rw [e1]
      replace k2 := (hb2.cell (p := ⟨w.heap.size, 2, none⟩) kg).trans k2
      have N2 := Lib.hid (stab_by.old NN.out hb2)
      replace hb2 := Lib.hid (hB.trans (hb2.mono hB.size))
      go_wp2_with fail
      with_reducible refine (checkT_by _ s.2.1 _ N2.out).mono ?_
      rintro e w3 ⟨rfl, rfl⟩
      rw [e2]
      go_wp2_with fail
      go_ret
      exact ⟨ret_int hr.out.symm, hb2.out⟩
    | true =>
      have e2 := chkT_ok h2
      obtain ⟨q, hq, hr⟩ : ∃ q, chkT s.2.2 = q ∧ Hid (chkR s = q) := ⟨_, rfl, Lib.hid (by simp [chkR, chkT, mayR, h1, h2])⟩
      obtain ⟨p, hp1, hp2⟩ : ∃ p, (q != 0) = p ∧ (p = true → q = 8) ∧ (p = false → q = 0) := ⟨_, rfl, by
        rw [← hq]
        unfold chkT
        split <;> simp⟩
      go_enter Tryz.func49, Tryz.ntmps49
      go_upto_region 1 with fail
      clear hw1
      go_wp2_with fail
      with_reducible refine (check_any _ s.1 _ D.out).mono ?_
      rintro e w2 ⟨rfl, hb2⟩
      rw [e1]
      replace k2 := (hb2.cell (p := ⟨w.heap.size, 2, none⟩) kg).trans k2
      replace k3 := (hb2.cell (p := ⟨w.heap.size, 3, none⟩) kg).trans k3
      have N2 := Lib.hid (stab_by.old NN.out hb2)
      have L2 := Lib.hid (stab_by.old LL.out hb2)
      replace hb2 := Lib.hid (hB.trans (hb2.mono hB.size))
      go_wp2_with fail
      with_reducible refine (checkT_by _ s.2.1 _ N2.out).mono ?_
      rintro e w3 ⟨rfl, rfl⟩
      rw [e2]
      go_wp2_with fail
      with_reducible refine (checkT_by _ s.2.2 _ L2.out).mono ?_
      rintro e w3 ⟨rfl, rfl⟩
      rw [hq]
      replace hq := Lib.hid hq
      cases p with
      | true =>
        have h8 := Lib.hid (hp2.1 rfl)
        clear hp2
        go_wp2_with fail
        go_ret
        exact ⟨ret_int (by rw [hr.out, h8.out]), hb2.out⟩
      | false =>
        have h0 := Lib.hid (hp2.2 rfl)
        clear hp2
        go_wp2_with fail
        go_ret
        exact ⟨ret_int (by rw [hr.out, h0.out]), hb2.out⟩

set_option maxHeartbeats 1000000 in
theorem takableR_any (n : Int) (w : World) : Calls Tryz.prog 50 #[.int .i64 n] w fun e w' => e = .returned (.bool (inT n)) ∧ w = w' := by
  rcases in_ways n with ⟨h, hr⟩ | ⟨h, h2, hr⟩ | ⟨h, h2, hr⟩
  all_goals
    replace hr := Lib.hid hr
    go_enter Tryz.func50, Tryz.ntmps50
    go_wp2_with fail
    go_ret
    exact ⟨ret_bool (by first | exact hr.out.symm | (rw [hr.out]; simp; omega)), rfl⟩

set_option maxRecDepth 100000 in
set_option maxHeartbeats 2000000 in
theorem checkTakenR_any (v : Value) (s : Rm) (n : Int) (w : World) (h : Sto (Old w) w v s) : Calls Tryz.prog 30 #[v, .int .i64 n] w fun e w' => e = .returned (.int .i64 (asE s n)) ∧ Below w.heap.size w w' := by
  have H0 := Lib.hid h
  obtain ⟨A, ca, B, cb, N, cn, L, cl, w1, rfl, hw1, f, hsz, hB, _, NN, _⟩ := box_sto h
  have H := Lib.hid (h.below hB)
  clear h H0
  obtain ⟨k0, k1, k2, k3, _, kg⟩ := four_cells f
  replace hsz := Lib.hid hsz
  rcases as_ways s n with ⟨hm, he⟩ | ⟨hm, hn, he⟩ | ⟨k, hm, rfl, h8, h256, hx, he⟩ | ⟨k, hm, rfl, h8, h256, hx, he⟩
  · replace he := Lib.hid he
    have e1 := chkR_bad hm
    go_enter Tryz.func30, Tryz.ntmps30
    go_upto_region 1 with fail
    clear hw1
    go_wp2_with fail
    with_reducible refine (checkR_any _ s _ H.out).mono ?_
    rintro e w2 ⟨rfl, hb2⟩
    rw [e1]
    replace hb2 := Lib.hid (hB.trans (hb2.mono hB.size))
    go_wp2_with fail
    go_ret
    exact ⟨ret_int he.out.symm, hb2.out⟩
  · replace he := Lib.hid he
    have e1 := chkR_ok hm
    have hi : inT n = false := by
      cases hi : inT n with
      | false => rfl
      | true => obtain ⟨k, rfl, h8, h256⟩ := inT_nat hi; omega
    go_enter Tryz.func30, Tryz.ntmps30
    go_upto_region 1 with fail
    clear hw1
    go_wp2_with fail
    with_reducible refine (checkR_any _ s _ H.out).mono ?_
    rintro e w2 ⟨rfl, hb2⟩
    rw [e1]
    replace hb2 := Lib.hid (hB.trans (hb2.mono hB.size))
    go_wp2_with fail
    with_reducible refine (takableR_any n _).mono ?_
    rintro e w3 ⟨rfl, rfl⟩
    rw [hi]
    go_wp2_with fail
    go_ret
    exact ⟨ret_int he.out.symm, hb2.out⟩
  all_goals
    replace he := Lib.hid he
    have e1 := chkR_ok hm
    have hi := inT_of h8 h256
    have hlen := mayT_len (mayR_of hm).2.1
    obtain ⟨A', c', e2, l1, m1, hby⟩ := rBy_byt (B := w1.heap.size) (fun _ h => h) NN.out
    cases e2
    obtain ⟨ad, rfl, hbk, hc⟩ := hby (by omega)
    have hcell := hc k (by omega)
    replace hbk : (ad.add k).block < w1.heap.size := by rw [add_block]; exact hbk
    obtain ⟨x, hx2⟩ : ∃ x, s.2.1[k]?.getD 0 = x := ⟨_, rfl⟩
    rw [hx2] at hcell hx
    have hlt : k < s.2.1.length := by omega
    first
      | have t0 := byte_same (y := 0) (q := 0) rfl hx
      | have t0 := byte_unlike (y := 0) (q := 0) rfl hx
    replace hx2 := Lib.hid hx2
    replace hx := Lib.hid hx
    replace hlen := Lib.hid hlen
    clear hc hby
    go_enter Tryz.func30, Tryz.ntmps30
    go_upto_region 1 with fail
    clear hw1
    go_wp2_with fail
    with_reducible refine (checkR_any _ s _ H.out).mono ?_
    rintro e w2 ⟨rfl, hb2⟩
    rw [e1]
    replace k2 := (hb2.cell (p := ⟨w.heap.size, 2, none⟩) kg).trans k2
    replace hcell := (hb2.cell hbk).trans hcell
    replace hb2 := Lib.hid (hB.trans (hb2.mono hB.size))
    go_wp2_with fail
    with_reducible refine (takableR_any (k : Int) _).mono ?_
    rintro e w3 ⟨rfl, rfl⟩
    rw [hi]
    go_wp2_with fail
    go_ret
    exact ⟨ret_int he.out.symm, hb2.out⟩
end Go.Proofs.YtogieepfimpdmaaGreat

/-
  Package room: free, which is ranged over; first. Conditions: those that each lemma states.
-/
namespace Go.Proofs.YtogieepfimpdmaaGreat
open Go.RowKit Go.Shelf
attribute [local go_sem] Oper.semAt_some

theorem freeK_add (s : Rm) (k j : Nat) : ∃ r, freeK s (k + j) = freeK s k ++ r := by
  induction j with
  | zero => exact ⟨[], by simp⟩
  | succ j ih =>
    obtain ⟨r, hr⟩ := ih
    exact ⟨r ++ (if freeAt s (8 + (k + j)) then [8 + (k + j)] else []), by rw [← Nat.add_assoc, freeK_succ, hr, List.append_assoc]⟩
theorem freeK_yes {s : Rm} {k : Nat} (h : freeAt s (8 + k) = true) : freeK s (k + 1) = freeK s k ++ [8 + k] := by rw [freeK_succ, h]; rfl
theorem freeK_no {s : Rm} {k : Nat} (h : freeAt s (8 + k) = false) : freeK s (k + 1) = freeK s k := by rw [freeK_succ, h]; simp
theorem freeL_at {s : Rm} {k : Nat} (hk : k < 248) (h : freeAt s (8 + k) = true) : ∃ r, freeL s = freeK s k ++ (8 + k) :: r := by
  obtain ⟨r, hr⟩ := freeK_add s (k + 1) (247 - k)
  refine ⟨r, ?_⟩
  rw [freeL, show 248 = k + 1 + (247 - k) by omega, hr, freeK_yes h]
  simp
theorem freeAt_no1 {s : Rm} {i : Nat} (h : s.2.1[i]?.getD 0 ≠ 0) : freeAt s i = false := by simp [freeAt, h]
theorem freeAt_no2 {s : Rm} {i : Nat} (h : s.2.2[i]?.getD 0 ≠ 0) : freeAt s i = false := by simp [freeAt, h]
theorem freeAt_yes {s : Rm} {i : Nat} (h : s.2.1[i]?.getD 0 = 0) (h' : s.2.2[i]?.getD 0 = 0) : freeAt s i = true := by simp [freeAt, h, h']

set_option maxRecDepth 100000 in
set_option maxHeartbeats 4000000 in
/-- The closure of free, for every loop body that keeps what lay below n₀. -/
theorem freeC_in (F : Fence) (n : Nat) (hf : F.fn 126) (hro : F.round = none) (hn : 1 ≤ n) (l Bs n₀ : Nat) (s : Rm) (ad bd : Addr) (cn cl : Nat) (_cn1 : 256 ≤ cn) (_cl1 : 256 ≤ cl) (hBn : Bs < n₀) (hab : ad.block < n₀) (hbb : bd.block < n₀) (J Jx : List Nat → World → Prop)
    (hY : ∀ (pre : List Nat) (x : Nat) (W1 : World), J pre W1 → pre.length < 248 → YieldAt F (n - 1) Tryz.prog l #[.int .i64 (x : Int)] W1 fun e W' =>
      (e = .returned (.bool true) ∧ J (pre ++ [x]) W' ∧ Below n₀ W1 W') ∨ (e = .returned (.bool false) ∧ Jx (pre ++ [x]) W'))
    (W : World) (hb2 : W.cell? ⟨Bs, 2, none⟩ = some (.slice (some ad) 256 cn)) (hb3 : W.cell? ⟨Bs, 3, none⟩ = some (.slice (some bd) 256 cl))
    (hc : ∀ j, j < 256 → W.cell? (ad.add j) = some (.int .u8 ((s.2.1[j]?.getD 0).toNat : Int)) ∧ W.cell? (bd.add j) = some (.int .u8 ((s.2.2[j]?.getD 0).toNat : Int))) (h0 : J [] W) :
    CallsIn F n Tryz.prog 126 #[.func (.yield l) #[] #[], .pointer (some ⟨Bs, 0, none⟩)] W fun e W' => (∃ v, e = .returned v) ∧
      ((∃ ys, ys = freeL s ∧ J ys W') ∨ (∃ pre, (∃ k, k < 248 ∧ freeAt s (8 + k) = true ∧ pre = freeK s k ++ [8 + k]) ∧ Jx pre W')) := by
  refine callsIn_of_wp Tryz.func126 rfl hf ?_ hro
  simp only [Tryz.ntmps126, List.size_toArray, List.length_cons, List.length_nil, Nat.reduceAdd, Nat.reduceSub, Array.replicate_succ, Array.replicate_zero, List.push_toArray, List.append_toArray, List.nil_append, List.cons_append]
  have HC := Lib.hid hc
  clear hc
  gi_wp2
  gi_loopw [3] (fun i wr => ∃ k : Nat, k ≤ 248 ∧ i = .int .i64 ((8 + k : Nat) : Int) ∧ J (freeK s k) wr ∧ Below n₀ W wr) (fun i _ => (256 - intOf i).toNat)
  case atStart => exact ⟨0, Nat.zero_le _, by simp, h0, Below.refl _ _⟩
  case round =>
    obtain ⟨k, hk, rfl, hJs, hnx⟩ := hrel
    have b2 := (hnx.cell (p := ⟨Bs, 2, none⟩) hBn).trans hb2
    have b3 := (hnx.cell (p := ⟨Bs, 3, none⟩) hBn).trans hb3
    by_cases hlt : k < 248
    · have hx := HC.out (8 + k) (by omega)
      have c1 := (hnx.cell (p := ad.add (8 + k)) (by rw [add_block]; exact hab)).trans hx.1
      have c2 := (hnx.cell (p := bd.add (8 + k)) (by rw [add_block]; exact hbb)).trans hx.2
      clear hx
      have hlen := freeK_len s k
      have hi : 8 + k < 256 := by omega
      have hno1 := Lib.hid (fun h => freeK_no (freeAt_no1 (s := s) (i := 8 + k) h))
      have hno2 := Lib.hid (fun h => freeK_no (freeAt_no2 (s := s) (i := 8 + k) h))
      have hyes := Lib.hid (fun h h' => freeAt_yes (s := s) (i := 8 + k) h h')
      obtain ⟨x, hx⟩ : ∃ x, s.2.1[8 + k]?.getD 0 = x := ⟨_, rfl⟩
      obtain ⟨y, hy⟩ : ∃ y, s.2.2[8 + k]?.getD 0 = y := ⟨_, rfl⟩
      rw [hx] at c1 hno1 hyes
      rw [hy] at c2 hno2 hyes
      replace hx := Lib.hid hx
      replace hy := Lib.hid hy
      obtain ⟨i, hi2⟩ : ∃ i, 8 + k = i := ⟨_, rfl⟩
      have hi3 : Hid (8 + k = i) := Lib.hid hi2
      rw [hi2] at c1 c2 hi hyes ⊢
      clear hi2
      by_cases h0 : x = 0
      · by_cases h1 : y = 0
        · have t0 := byte_same (y := 0) (q := 0) rfl h0
          have t1 := byte_same (y := 0) (q := 0) rfl h1
          have hfr := Lib.hid (hyes.out h0 h1)
          have hfk := Lib.hid (freeK_yes (s := s) (k := k) (by rw [hi3.out]; exact hfr.out))
          replace h0 := Lib.hid h0
          replace h1 := Lib.hid h1
          obtain ⟨fn, tmps, assign, body, hyy, hR⟩ := hY _ i wr hJs (by omega)
          try dsimp only at hyy
          gi_wp2
          refine hR.mono ?_
          rintro e W3 (⟨rfl, hJ3, hk3⟩ | ⟨rfl, hJx3⟩)
          · gi_wp2
            go_roundw
            case rel => exact ⟨k + 1, by omega, by have := hi3.out; go_num, by rw [hfk.out, hi3.out]; exact hJ3, hnx.trans hk3⟩
            case measure => simp [intOf]; omega
          · gi_wp2
            refine bodyPost_ret (results_none rfl _ _ _) rfl ?_
            exact ⟨⟨_, rfl⟩, .inr ⟨_, ⟨k, hlt, by rw [hi3.out]; exact hfr.out, rfl⟩, by rw [hi3.out]; exact hJx3⟩⟩
        · have t0 := byte_same (y := 0) (q := 0) rfl h0
          have t1 := byte_unlike (y := 0) (q := 0) rfl h1
          have hfk := Lib.hid (hno2.out h1)
          replace h0 := Lib.hid h0
          replace h1 := Lib.hid h1
          gi_wp2
          try (refine ⟨fun _ h => (by cases h), ?_⟩; gi_wp2)
          go_roundw
          case rel => exact ⟨k + 1, by omega, by have := hi3.out; go_num, by rw [hfk.out]; exact hJs, hnx⟩
          case measure => simp [intOf]; omega
      · have t0 := byte_unlike (y := 0) (q := 0) rfl h0
        have hfk := Lib.hid (hno1.out h0)
        replace h0 := Lib.hid h0
        gi_wp2
        try (refine ⟨fun _ h => (by cases h), ?_⟩; gi_wp2)
        go_roundw
        case rel => exact ⟨k + 1, by omega, by have := hi3.out; go_num, by rw [hfk.out]; exact hJs, hnx⟩
        case measure => simp [intOf]; omega
    · obtain rfl : k = 248 := by omega
      gi_wp2
      go_end0
      exact ⟨⟨_, rfl⟩, .inl ⟨_, rfl, hJs⟩⟩

set_option maxHeartbeats 1000000 in
/-- free(s): the store is boxed; the function value captures the box. -/
theorem freeF_in (F : Fence) (n : Nat) (hf : F.fn 111) (hro : F.round = none) (a b c d : Value) (w : World) :
    CallsIn F n Tryz.prog 111 #[.agg #[a, b, c, d]] w fun e w' => e = .returned (.func (.func 126) #[] #[.pointer (some ⟨w.heap.size, 0, none⟩)]) ∧ w' = w.alloc (.cells #[a, b, c, d] 29) := by
  refine callsIn_of_wp Tryz.func111 rfl hf ?_ hro
  simp only [Tryz.ntmps111, List.size_toArray, List.length_cons, List.length_nil, Nat.reduceAdd, Nat.reduceSub, Array.replicate_succ, Array.replicate_zero, List.push_toArray, List.append_toArray, List.nil_append, List.cons_append]
  gi_wp2
  go_ret
  exact ⟨rfl, rfl⟩

/-- What free hands back gives the free blocks: all, or those up to one of them. -/
theorem freeC_stops (F : Fence) (n : Nat) (hf : F.fn 126) (hro : F.round = none) (hn : 1 ≤ n) (Bs n₀ : Nat) (s : Rm) (ad bd : Addr) (cn cl : Nat) (cn1 : 256 ≤ cn) (cl1 : 256 ≤ cl) (hBn : Bs < n₀) (hab : ad.block < n₀) (hbb : bd.block < n₀)
    (w : World) (hn₀ : n₀ ≤ w.heap.size) (hb2 : w.cell? ⟨Bs, 2, none⟩ = some (.slice (some ad) 256 cn)) (hb3 : w.cell? ⟨Bs, 3, none⟩ = some (.slice (some bd) 256 cl))
    (hc : ∀ j, j < 256 → w.cell? (ad.add j) = some (.int .u8 ((s.2.1[j]?.getD 0).toNat : Int)) ∧ w.cell? (bd.add j) = some (.int .u8 ((s.2.2[j]?.getD 0).toNat : Int))) :
    SeqStopsK F n Tryz.prog 126 #[.pointer (some ⟨Bs, 0, none⟩)] (fun x : Nat => #[Value.int .i64 (x : Int)]) (Below n₀) (fun ys => ys = freeL s) (fun pre => ∃ k, k < 248 ∧ freeAt s (8 + k) = true ∧ pre = freeK s k ++ [8 + k]) 248 w := fun l J Jx W hW _ _ hY h0 =>
  freeC_in F n hf hro hn l Bs n₀ s ad bd cn cl cn1 cl1 hBn hab hbb J Jx hY W ((hW.cell (p := ⟨Bs, 2, none⟩) (by show Bs < _; omega)).trans hb2) ((hW.cell (p := ⟨Bs, 3, none⟩) (by show Bs < _; omega)).trans hb3)
    (fun j hj => ⟨(hW.cell (p := ad.add j) (by rw [add_block]; omega)).trans (hc j hj).1, (hW.cell (p := bd.add j) (by rw [add_block]; omega)).trans (hc j hj).2⟩) h0

/-- The tables of a store that may be, cell by cell. -/
theorem tables_at {w : World} {s : Rm} {N L : Option Addr} {cn cl : Nat} (hm : mayR s = true) (hN : rBy (Old w) w [.slice N s.2.1.length cn] s.2.1) (hL : rBy (Old w) w [.slice L s.2.2.length cl] s.2.2) :
    ∃ ad bd, N = some ad ∧ L = some bd ∧ s.2.1.length = 256 ∧ s.2.2.length = 256 ∧ 256 ≤ cn ∧ 256 ≤ cl ∧ ad.block < w.heap.size ∧ bd.block < w.heap.size ∧ (∀ j, j < 256 → w.cell? (ad.add j) = some (.int .u8 ((s.2.1[j]?.getD 0).toNat : Int)) ∧ w.cell? (bd.add j) = some (.int .u8 ((s.2.2[j]?.getD 0).toNat : Int))) := by
  have hl1 := mayT_len (mayR_of hm).2.1
  have hl2 := mayT_len (mayR_of hm).2.2
  obtain ⟨N', cn', e1, l1, _, hb1⟩ := rBy_byt (B := w.heap.size) (fun _ h => h) hN
  obtain ⟨L', cl', e2, l2, _, hb2⟩ := rBy_byt (B := w.heap.size) (fun _ h => h) hL
  cases e1
  cases e2
  obtain ⟨ad, rfl, h1, h2⟩ := hb1 (by omega)
  obtain ⟨bd, rfl, h3, h4⟩ := hb2 (by omega)
  exact ⟨ad, bd, rfl, rfl, hl1, hl2, by omega, by omega, h1, h3, fun j hj => ⟨h2 j (by omega), h4 j (by omega)⟩⟩

set_option maxRecDepth 100000 in
set_option maxHeartbeats 4000000 in
theorem firstR_in (F : Fence) (n : Nat) (h3 : F.fn 90) (h5 : F.fn 111) (h7 : F.fn 126) (hro : F.round = none) (hn : 3 ≤ n)
    (v : Value) (s : Rm) (hm : mayR s = true) (w : World) (h : Sto (Old w) w v s) :
    CallsIn F n Tryz.prog 90 #[v] w fun e W' => e = .returned (.tuple #[.int .i64 (tkK s : Int), .bool (!(freeL s).isEmpty)]) ∧ Below w.heap.size w W' := by
  have h1 : 1 ≤ n := by omega
  obtain ⟨A, ca, B, cb, N, cn, L, cl, rfl, hd, hN, hL⟩ := h.open
  obtain ⟨ad, bd, rfl, rfl, hl1, hl2, l1, l2, had, hbd, hc⟩ := tables_at hm hN hL
  rw [hl1, hl2]
  clear hd hN hL h
  obtain ⟨n1, hn1⟩ : ∃ n1, s.1.1.length = n1 := ⟨_, rfl⟩
  obtain ⟨n2, hn2⟩ : ∃ n2, s.1.2.length = n2 := ⟨_, rfl⟩
  rw [hn1, hn2]
  clear hn1 hn2
  replace hl1 := Lib.hid hl1
  replace hl2 := Lib.hid hl2
  replace hc := Lib.hid hc
  refine callsIn_of_wp_marks Tryz.func90 rfl h3 ?_ hro
  simp only [Tryz.ntmps90, List.size_toArray, List.length_cons, List.length_nil, Nat.reduceAdd, Nat.reduceSub, Array.replicate_succ, Array.replicate_zero, List.push_toArray, List.append_toArray, List.nil_append, List.cons_append]
  gi_wp2_with (gi_at_call 111; refine (freeF_in F (n - 1) h5 hro _ _ _ _ _).mono ?_; rintro e w' ⟨rfl, rfl⟩)
  obtain ⟨W0, hW0, hB0, hs0, b1, b1f, b2, b2f, k2, k3⟩ : ∃ W0, (((w.alloc (.cells #[.slice A n1 ca, .slice B n2 cb, .slice (some ad) 256 cn, .slice (some bd) 256 cl] 29)).alloc (.cells #[.int .i64 0] 3)).alloc (.cells #[.bool false] 4)).alloc (.cells #[.slice A n1 ca, .slice B n2 cb, .slice (some ad) 256 cn, .slice (some bd) 256 cl] 29) = W0 ∧ Below w.heap.size w W0 ∧ W0.heap.size = w.heap.size + 4 ∧
      W0.cell? ⟨w.heap.size + 1, 0, none⟩ = some (.int .i64 0) ∧ W0.frozen? ⟨w.heap.size + 1, 0, none⟩ = false ∧ W0.cell? ⟨w.heap.size + 1 + 1, 0, none⟩ = some (.bool false) ∧ W0.frozen? ⟨w.heap.size + 1 + 1, 0, none⟩ = false ∧ W0.cell? ⟨w.heap.size + 1 + 1 + 1, 2, none⟩ = some (.slice (some ad) 256 cn) ∧ W0.cell? ⟨w.heap.size + 1 + 1 + 1, 3, none⟩ = some (.slice (some bd) 256 cl) :=
    ⟨_, rfl, ((((Below.refl _ w).alloc (Nat.le_refl _) _).alloc (by simp) _).alloc (by simp; omega) _).alloc (by simp; omega) _, by simp, by go_simp, by go_simp, by go_simp, by go_simp, by go_simp, by go_simp⟩
  rw [hW0]
  clear hW0
  have hlo : w.heap.size ≤ W0.heap.size := hB0.size
  refine wpIn_rangeFunc_ownF hro h1 (gf := 126) (lb := #[.pointer (some ⟨w.heap.size + 1 + 1 + 1, 0, none⟩)]) rfl h7 (enters_of Tryz.func126 (by kernel_rfl) rfl)
    (freeC_stops F (n - 1) h7 hro (by omega) (w.heap.size + 1 + 1 + 1) W0.heap.size s ad bd cn cl l1 l2 (by omega) (by omega) (by omega) W0 (Nat.le_refl _) k2 k3 (fun j hj => ⟨(hB0.cell (p := ad.add j) (by rw [add_block]; exact had)).trans (hc.out j hj).1, (hB0.cell (p := bd.add j) (by rw [add_block]; exact hbd)).trans (hc.out j hj).2⟩))
    (fun h h' => h.trans h') (fun W l o o' hl h1 h2 h3 => belowK_b (w := W0) (Nat.le_refl _) W l o o' hl h1 h2 h3) (Below.refl _ _) (fun _ => rfl)
    (fun pre W => (pre = [] ∧ W.cell? ⟨w.heap.size + 1, 0, none⟩ = some (.int .i64 0) ∧ W.frozen? ⟨w.heap.size + 1, 0, none⟩ = false ∧ W.cell? ⟨w.heap.size + 1 + 1, 0, none⟩ = some (.bool false) ∧ W.frozen? ⟨w.heap.size + 1 + 1, 0, none⟩ = false) ∧ Below w.heap.size w W)
    (fun cd pre W => (cd = .ret ∧ ∃ x : Nat, pre = [x] ∧ W.cell? ⟨w.heap.size + 1, 0, none⟩ = some (.int .i64 (x : Int)) ∧ W.cell? ⟨w.heap.size + 1 + 1, 0, none⟩ = some (.bool true)) ∧ Below w.heap.size w W)
    (OwnFrom.and (Own.from (fun s A B row hs hg hr => ⟨hs.1, cell_kept hs.2.1 hg hr, (frozen_kept hs.2.1 hg hr).trans hs.2.2.1, cell_kept hs.2.2.2.1 hg hr, (frozen_kept hs.2.2.2.1 hg hr).trans hs.2.2.2.2⟩) _) (ownFrom_below (Nat.le_refl _) hlo))
    (fun cd => OwnFrom.and (Own.from (fun s A B row hs hg hr => by
      obtain ⟨e, x, e2, h1, h2⟩ := hs
      exact ⟨e, x, e2, cell_kept h1 hg hr, cell_kept h2 hg hr⟩) _) (ownFrom_below (Nat.le_refl _) hlo))
    ⟨⟨rfl, b1, b1f, b2, b2f⟩, hB0⟩
    (fun x => { tmps := #[.agg #[.slice A n1 ca, .slice B n2 cb, .slice (some ad) 256 cn, .slice (some bd) 256 cl], .pointer (some ⟨w.heap.size, 0, none⟩), .pointer (some ⟨w.heap.size + 1, 0, none⟩), .pointer (some ⟨w.heap.size + 1 + 1, 0, none⟩), .int .i64 (x : Int), .agg #[.slice A n1 ca, .slice B n2 cb, .slice (some ad) 256 cn, .slice (some bd) 256 cl],
      .func (.func 126) #[] #[.pointer (some ⟨w.heap.size + 1 + 1 + 1, 0, none⟩)], .int .i64 (x : Int), undef], defers := [] }) ?assign ?body ?done ?stop
  case assign =>
    intro l x W K hK
    gi_wp2
    exact hK
  case body =>
    rintro l pre x W ⟨⟨rfl, c1, f1, c2, f2⟩, hb⟩ _
    gi_wp2
    refine ⟨(KeepsOthers.setCell _ _ _).trans (KeepsOthers.setCell _ _ _), ⟨rfl, x, rfl, ?_, ?_⟩, (hb.setCell (p := ⟨w.heap.size + 1, 0, none⟩) (by simp) _).setCell (p := ⟨w.heap.size + 1 + 1, 0, none⟩) (by simp; omega) _⟩
    · go_simp
    · go_simp
  case done =>
    rintro D zs W hD rfl ⟨⟨hz, c1, f1, c2, f2⟩, hb⟩ hK
    have hk0 : Hid (tkK s = 0) := Lib.hid (by simp [tkK, hz])
    have hemp : Hid ((freeL s).isEmpty = true) := Lib.hid (by rw [hz]; rfl)
    clear hz
    obtain ⟨W2, hW2, d1, d2, hb2, hK2⟩ : ∃ W2, (W.setCell ⟨w.heap.size + 1, 0, none⟩ (.int .i64 0)).setCell ⟨w.heap.size + 1 + 1, 0, none⟩ (.bool false) = W2 ∧ W2.cell? ⟨w.heap.size + 1, 0, none⟩ = some (.int .i64 0) ∧ W2.cell? ⟨w.heap.size + 1 + 1, 0, none⟩ = some (.bool false) ∧ Below w.heap.size w W2 ∧ W2.heap[D]? = some (.deferred (some [])) :=
      ⟨_, rfl, by go_simp, by go_simp, (hb.setCell (p := ⟨w.heap.size + 1, 0, none⟩) (by simp) _).setCell (p := ⟨w.heap.size + 1 + 1, 0, none⟩) (by simp; omega) _, ((KeepsOthers.setCell W ⟨w.heap.size + 1, 0, none⟩ (.int .i64 0)).trans (KeepsOthers.setCell _ ⟨w.heap.size + 1 + 1, 0, none⟩ (.bool false))).same D _ hK rfl⟩
    gi_wp2
    try rw [hW2]
    refine ⟨by simp, .inl ⟨_, _, rfl, run_takeDeferred hK2, ?_⟩⟩
    have hro' : ∀ r, some D = some r → ∃ o : Obj, W2.heap[r]? = some o ∧ o.isCells = false := fun r e => by cases e; exact ⟨_, hK2, rfl⟩
    have c1' := cell_kept d1 (grownBy_putObj' _ D (.deferred none)) hro'
    have c2' := cell_kept d2 (grownBy_putObj' _ D (.deferred none)) hro'
    refine ⟨.tuple #[.int .i64 0, .bool false], ?_, by rw [hk0.out, hemp.out]; rfl, hb2.trans (belowK_b hlo _ D _ _ hD hK2 rfl rfl)⟩
    simp [results, Tryz.f90, go_sem, c1', c2']
  case stop =>
    rintro D cd pre W hD ⟨k, hk, hfr, hpk⟩ ⟨⟨rfl, x, rfl, c1, c2⟩, hb⟩ hK
    obtain ⟨r, hr⟩ := freeL_at hk hfr
    have e2 : freeK s k = [] ∧ 8 + k = x := by
      cases hq : freeK s k with
      | nil => rw [hq] at hpk; simp at hpk; exact ⟨rfl, hpk.symm⟩
      | cons y q => rw [hq] at hpk; simp at hpk
    rw [e2.1, e2.2] at hr
    have hk0 : Hid (tkK s = x) := Lib.hid (by simp [tkK, hr])
    have hemp : Hid ((freeL s).isEmpty = false) := Lib.hid (by rw [hr]; rfl)
    clear hr e2 hpk
    gi_wp2
    refine ⟨by simp, .inl ⟨_, _, rfl, run_takeDeferred hK, ?_⟩⟩
    have hro' : ∀ r, some D = some r → ∃ o : Obj, W.heap[r]? = some o ∧ o.isCells = false := fun r e => by cases e; exact ⟨_, hK, rfl⟩
    have c1' := cell_kept c1 (grownBy_putObj' _ D (.deferred none)) hro'
    have c2' := cell_kept c2 (grownBy_putObj' _ D (.deferred none)) hro'
    refine ⟨.tuple #[.int .i64 (x : Int), .bool true], ?_, by rw [hk0.out, hemp.out]; rfl, hb.trans (belowK_b hlo _ D _ _ hD hK rfl rfl)⟩
    simp [results, Tryz.f90, go_sem, c1', c2']

theorem firstR_any (v : Value) (s : Rm) (hm : mayR s = true) (w : World) (h : Sto (Old w) w v s) :
    Calls Tryz.prog 90 #[v] w fun e W' => e = .returned (.tuple #[.int .i64 (tkK s : Int), .bool (!(freeL s).isEmpty)]) ∧ Below w.heap.size w W' :=
  callsIn_wide.1 (firstR_in Fence.wide 3 trivial trivial trivial rfl (Nat.le_refl _) v s hm w h)
end Go.Proofs.YtogieepfimpdmaaGreat

/-
  Package room: Take. Conditions: those that each lemma states.
-/
namespace Go.Proofs.YtogieepfimpdmaaGreat
open Go.RowKit

/-- A store in its box, and the result's behind it. -/
theorem box_sto2 {w : World} {v : Value} {s : Rm} (h : Sto (Old w) w v s) : ∃ A ca B cb N cn L cl w1, v = .agg #[.slice A s.1.1.length ca, .slice B s.1.2.length cb, .slice N s.2.1.length cn, .slice L s.2.2.length cl] ∧
    (w.alloc (.cells #[.slice A s.1.1.length ca, .slice B s.1.2.length cb, .slice N s.2.1.length cn, .slice L s.2.2.length cl] 29)).alloc (.cells #[.slice none 0 0, .slice none 0 0, .slice none 0 0, .slice none 0 0] 29) = w1 ∧
    w1.heap[w.heap.size]? = some (.cells #[.slice A s.1.1.length ca, .slice B s.1.2.length cb, .slice N s.2.1.length cn, .slice L s.2.2.length cl] 29 (0, 0)) ∧ w1.heap[w.heap.size + 1]? = some (.cells #[.slice none 0 0, .slice none 0 0, .slice none 0 0, .slice none 0 0] 29 (0, 0)) ∧ w1.heap.size = w.heap.size + 2 ∧ Below w.heap.size w w1 ∧
    Hid (Sto (Old w1) w1 (.agg #[.slice A s.1.1.length ca, .slice B s.1.2.length cb, .slice N s.2.1.length cn, .slice L s.2.2.length cl]) s) := by
  obtain ⟨A, ca, B, cb, N, cn, L, cl, rfl, _, _, _⟩ := h.open
  have hb : Below w.heap.size w ((w.alloc (.cells #[.slice A s.1.1.length ca, .slice B s.1.2.length cb, .slice N s.2.1.length cn, .slice L s.2.2.length cl] 29)).alloc (.cells #[.slice none 0 0, .slice none 0 0, .slice none 0 0, .slice none 0 0] 29)) := ((Below.refl _ w).alloc (Nat.le_refl _) _).alloc (by simp) _
  refine ⟨A, ca, B, cb, N, cn, L, cl, _, rfl, rfl, alloc_block (heap_alloc_new _ _), ?_, by simp, hb, Lib.hid (h.below hb)⟩
  have := heap_alloc_new (w.alloc (.cells #[.slice A s.1.1.length ca, .slice B s.1.2.length cb, .slice N s.2.1.length cn, .slice L s.2.2.length cl] 29)) (.cells #[.slice none 0 0, .slice none 0 0, .slice none 0 0, .slice none 0 0] 29)
  rwa [World.size_alloc] at this

theorem tk_write {s : Rm} {b : List UInt8} (hm : mayR s = true) (hb : b.length = 128) (hl : freeL s ≠ []) : (8 ≤ tkK s ∧ tkK s < 256 ∧ s.2.1[tkK s]?.getD 0 = 0 ∧ wErr s.1 (tkK s : Int) b = (if 4096 ≤ s.1.2.length then 9 else 0)) := by
  cases hf : freeL s with
  | nil => exact absurd hf hl
  | cons k m =>
    obtain ⟨h1, h2, h3, h4⟩ := free_in (s := s) (i := k) (by rw [hf]; exact List.mem_cons_self)
    have hk : tkK s = k := by simp [tkK, hf]
    rw [hk]
    refine ⟨h1, h2, h3, ?_⟩
    have hmd := (mayR_of hm).1
    have h5 := (may_of hmd).2.1
    have h6 : thereB (k : Int) = true := thereB_of h2
    by_cases h7 : 4096 ≤ s.1.2.length
    · have h8 : s.1.2.length = 4096 := by omega
      simp [wErr, hmd, h6, hb, h8]
    · have h8 : s.1.2.length ≠ 4096 := by omega
      simp [wErr, hmd, h6, hb, h8, h7]

set_option maxRecDepth 100000 in
set_option maxHeartbeats 4000000 in
theorem takeR_any (v u : Value) (s : Rm) (b : List UInt8) (w : World) (h : Sto (Old w) w v s) (hu : rBy (Old w) w [u] b) :
    Calls Tryz.prog 66 #[v, u] w fun e w' => ∃ t, e = .returned (.tuple #[t, .int .i64 (tkN s b), .int .i64 (tkE s b)]) ∧ Sto (New w.heap.size w') w' t (tkV s b) ∧ Below w.heap.size w w' := by
  obtain ⟨A, ca, B, cb, N, cn, L, cl, w1, rfl, hw1, f1, f2, hsz, hB, H⟩ := box_sto2 h
  obtain ⟨E, ce, rfl, _⟩ := id (rBy_open hu)
  have U := Lib.hid (stab_by.old hu hB)
  clear h hu
  obtain ⟨k0, k1, k2, k3, _, kg⟩ := four_cells f1
  replace hsz := Lib.hid hsz
  rcases tk_ways s b with ⟨hm, hE⟩ | ⟨hm, hlb, hE⟩ | ⟨hm, hlb, hfl, hE⟩ | ⟨hm, hlb, hfl, hfw, hE⟩ | ⟨hm, hlb, hfl, hfw, hE⟩
  · replace hE := Lib.hid hE
    have e1 := chkR_bad hm
    replace f2 := Lib.hid f2
    go_enter Tryz.func66, Tryz.ntmps66
    go_upto_region 1 with fail
    clear hw1
    go_wp2_with fail
    with_reducible refine (checkR_any _ s _ H.out).mono ?_
    rintro e w2 ⟨rfl, hb2⟩
    rw [e1]
    have F2 := (hb2.block (w.heap.size + 1) (by rw [hsz.out]; omega)).trans f2.out
    replace hb2 := Lib.hid (hB.trans (hb2.mono hB.size))
    obtain ⟨k0, k1, k2, k3, k4, k5⟩ := four_cells F2
    obtain ⟨W9, hW9, g9, gr9, gs9⟩ := put_four (a' := .slice none 0 0) (b' := .slice none 0 0) (c' := .slice none 0 0) (d' := .slice none 0 0) F2
    obtain ⟨n0, n1, n2, n3, _, _⟩ := four_cells g9
    have hB9 := Lib.hid ((hb2).out.grown gr9 (hb2).out.size (fun q e => by cases e; omega))
    replace g9 := Lib.hid g9
    replace F2 := Lib.hid F2
    clear gr9 gs9
    go_wp2_with fail
    refine bodyPost_ret (v := .tuple #[.agg #[.slice none 0 0, .slice none 0 0, .slice none 0 0, .slice none 0 0], .int .i64 0, .int .i64 8]) (by simp [results, Tryz.results66, go_sem, n0, n1, n2, n3]) rfl ?_
    obtain ⟨hN, hV⟩ := tk_no (s := s) (b := b) (by rw [hE.out]; decide)
    rw [hN, hV, hE.out]
    exact ⟨_, rfl, sto_empty _ _, hB9.out⟩
  · replace hE := Lib.hid hE
    have e1 := chkR_ok hm
    have e2 : ((b.length : Int) != 128) = true := by simp; omega
    replace f2 := Lib.hid f2
    go_enter Tryz.func66, Tryz.ntmps66
    go_upto_region 1 with fail
    clear hw1
    go_wp2_with fail
    with_reducible refine (checkR_any _ s _ H.out).mono ?_
    rintro e w2 ⟨rfl, hb2⟩
    rw [e1]
    have G2 := (hb2.block w.heap.size kg).trans f1
    obtain ⟨m0, m1, m2, m3, _, mg⟩ := four_cells G2
    have F2 := (hb2.block (w.heap.size + 1) (by rw [hsz.out]; omega)).trans f2.out
    have H2 := Lib.hid (H.out.below hb2)
    have U2 := Lib.hid (stab_by.old U.out hb2)
    have s2 : Hid (w.heap.size + 2 ≤ w2.heap.size) := Lib.hid (by have := hb2.size; have := hsz.out; omega)
    replace hb2 := Lib.hid (hB.trans (hb2.mono hB.size))
    replace G2 := Lib.hid G2
    replace F2 := Lib.hid F2
    clear k0 k1 k2 k3 kg f1 hB
    replace F2 := F2.out
    obtain ⟨k0, k1, k2, k3, k4, k5⟩ := four_cells F2
    obtain ⟨W9, hW9, g9, gr9, gs9⟩ := put_four (a' := .slice none 0 0) (b' := .slice none 0 0) (c' := .slice none 0 0) (d' := .slice none 0 0) F2
    obtain ⟨n0, n1, n2, n3, _, _⟩ := four_cells g9
    have hB9 := Lib.hid ((hb2).out.grown gr9 (hb2).out.size (fun q e => by cases e; omega))
    replace g9 := Lib.hid g9
    replace F2 := Lib.hid F2
    clear gr9 gs9
    go_wp2_with fail
    refine bodyPost_ret (v := .tuple #[.agg #[.slice none 0 0, .slice none 0 0, .slice none 0 0, .slice none 0 0], .int .i64 0, .int .i64 3]) (by simp [results, Tryz.results66, go_sem, n0, n1, n2, n3]) rfl ?_
    obtain ⟨hN, hV⟩ := tk_no (s := s) (b := b) (by rw [hE.out]; decide)
    rw [hN, hV, hE.out]
    exact ⟨_, rfl, sto_empty _ _, hB9.out⟩
  · replace hE := Lib.hid hE
    have e1 := chkR_ok hm
    have e2 : ((b.length : Int) != 128) = false := by rw [hlb]; rfl
    have hemp : (!(freeL s).isEmpty) = false := by rw [hfl]; rfl
    replace f2 := Lib.hid f2
    replace hlb := Lib.hid hlb
    replace hfl := Lib.hid hfl
    go_enter Tryz.func66, Tryz.ntmps66
    go_upto_region 1 with fail
    clear hw1
    go_wp2_with fail
    with_reducible refine (checkR_any _ s _ H.out).mono ?_
    rintro e w2 ⟨rfl, hb2⟩
    rw [e1]
    have G2 := (hb2.block w.heap.size kg).trans f1
    obtain ⟨m0, m1, m2, m3, _, mg⟩ := four_cells G2
    have F2 := (hb2.block (w.heap.size + 1) (by rw [hsz.out]; omega)).trans f2.out
    have H2 := Lib.hid (H.out.below hb2)
    have U2 := Lib.hid (stab_by.old U.out hb2)
    have s2 : Hid (w.heap.size + 2 ≤ w2.heap.size) := Lib.hid (by have := hb2.size; have := hsz.out; omega)
    replace hb2 := Lib.hid (hB.trans (hb2.mono hB.size))
    replace G2 := Lib.hid G2
    replace F2 := Lib.hid F2
    clear k0 k1 k2 k3 kg f1 hB
    go_wp2_with fail
    with_reducible refine (firstR_any _ s hm _ H2.out).mono ?_
    rintro e w3 ⟨rfl, hb3⟩
    rw [hemp]
    have G3 := (hb3.block w.heap.size mg).trans G2.out
    obtain ⟨k0, k1, k2, k3, _, kg⟩ := four_cells G3
    have F3 := (hb3.block (w.heap.size + 1) (by have := s2.out; omega)).trans F2.out
    have H3 := Lib.hid (H2.out.below hb3)
    have U3 := Lib.hid (stab_by.old U2.out hb3)
    have s3 : Hid (w.heap.size + 2 ≤ w3.heap.size) := Lib.hid (by have := hb3.size; have := s2.out; omega)
    replace hb3 := Lib.hid (hb2.out.trans (hb3.mono hb2.out.size))
    replace G3 := Lib.hid G3
    clear m0 m1 m2 m3 mg G2 F2 H2 U2 hb2
    obtain ⟨k0, k1, k2, k3, k4, k5⟩ := four_cells F3
    obtain ⟨W9, hW9, g9, gr9, gs9⟩ := put_four (a' := .slice none 0 0) (b' := .slice none 0 0) (c' := .slice none 0 0) (d' := .slice none 0 0) F3
    obtain ⟨n0, n1, n2, n3, _, _⟩ := four_cells g9
    have hB9 := Lib.hid ((hb3).out.grown gr9 (hb3).out.size (fun q e => by cases e; omega))
    replace g9 := Lib.hid g9
    replace F3 := Lib.hid F3
    clear gr9 gs9
    go_wp2_with fail
    refine bodyPost_ret (v := .tuple #[.agg #[.slice none 0 0, .slice none 0 0, .slice none 0 0, .slice none 0 0], .int .i64 0, .int .i64 9]) (by simp [results, Tryz.results66, go_sem, n0, n1, n2, n3]) rfl ?_
    obtain ⟨hN, hV⟩ := tk_no (s := s) (b := b) (by rw [hE.out]; decide)
    rw [hN, hV, hE.out]
    exact ⟨_, rfl, sto_empty _ _, hB9.out⟩
  · replace hE := Lib.hid hE
    have e1 := chkR_ok hm
    have e2 : ((b.length : Int) != 128) = false := by rw [hlb]; rfl
    have hemp : (!(freeL s).isEmpty) = true := by cases hq : freeL s with
      | nil => exact absurd hq hfl
      | cons k m => rfl
    obtain ⟨h8, h256, h0, hwe⟩ := tk_write hm hlb hfl
    rw [if_pos hfw] at hwe
    obtain ⟨k, hk⟩ : ∃ k, tkK s = k := ⟨_, rfl⟩
    obtain ⟨R, hR⟩ : ∃ R, wrR s.1 (k : Int) b = R := ⟨_, rfl⟩
    rw [hk] at h8 h256 hwe
    replace f2 := Lib.hid f2
    replace hlb := Lib.hid hlb
    replace hfl := Lib.hid hfl
    replace hk := Lib.hid hk
    replace hR := Lib.hid hR
    replace hwe := Lib.hid hwe
    go_enter Tryz.func66, Tryz.ntmps66
    go_upto_region 1 with fail
    clear hw1
    go_wp2_with fail
    with_reducible refine (checkR_any _ s _ H.out).mono ?_
    rintro e w2 ⟨rfl, hb2⟩
    rw [e1]
    have G2 := (hb2.block w.heap.size kg).trans f1
    obtain ⟨m0, m1, m2, m3, _, mg⟩ := four_cells G2
    have F2 := (hb2.block (w.heap.size + 1) (by rw [hsz.out]; omega)).trans f2.out
    have H2 := Lib.hid (H.out.below hb2)
    have U2 := Lib.hid (stab_by.old U.out hb2)
    have s2 : Hid (w.heap.size + 2 ≤ w2.heap.size) := Lib.hid (by have := hb2.size; have := hsz.out; omega)
    replace hb2 := Lib.hid (hB.trans (hb2.mono hB.size))
    replace G2 := Lib.hid G2
    replace F2 := Lib.hid F2
    clear k0 k1 k2 k3 kg f1 hB
    go_wp2_with fail
    with_reducible refine (firstR_any _ s hm _ H2.out).mono ?_
    rintro e w3 ⟨rfl, hb3⟩
    rw [hemp]
    have G3 := (hb3.block w.heap.size mg).trans G2.out
    obtain ⟨k0, k1, k2, k3, _, kg⟩ := four_cells G3
    have F3 := (hb3.block (w.heap.size + 1) (by have := s2.out; omega)).trans F2.out
    have H3 := Lib.hid (H2.out.below hb3)
    have U3 := Lib.hid (stab_by.old U2.out hb3)
    have s3 : Hid (w.heap.size + 2 ≤ w3.heap.size) := Lib.hid (by have := hb3.size; have := s2.out; omega)
    replace hb3 := Lib.hid (hb2.out.trans (hb3.mono hb2.out.size))
    replace G3 := Lib.hid G3
    clear m0 m1 m2 m3 mg G2 F2 H2 U2 hb2
    rw [hk.out]
    replace F3 := Lib.hid F3
    go_wp2_with fail
    with_reducible refine (write_new _ _ s.1 (k : Int) b _ H3.out.parts.1 U3.out).mono ?_
    rintro e w4 ⟨A4, c4, B4, d4, rfl, _, hb4⟩
    rw [hwe.out, hR.out]
    have F4 := (hb4.block (w.heap.size + 1) (by have := s3.out; omega)).trans F3.out
    obtain ⟨w5, hw5, g5, hs5, hb5⟩ := box_pair' w4 (.slice A4 R.1.length c4) (.slice B4 R.2.length d4) 26
    have F5 := (hb5.block (w.heap.size + 1) (by have := s3.out; have := hb4.size; omega)).trans F4
    have B5 := Lib.hid (hb3.out.trans ((hb4.trans (hb5.mono hb4.size)).mono hb3.out.size))
    replace F4 := Lib.hid F4
    replace g5 := Lib.hid g5
    replace hs5 := Lib.hid hs5
    clear hb4 hb5
    go_upto_region 10 with fail
    clear hw5
    obtain ⟨k0, k1, k2, k3, k4, k5⟩ := four_cells F5
    obtain ⟨W9, hW9, g9, gr9, gs9⟩ := put_four (a' := .slice none 0 0) (b' := .slice none 0 0) (c' := .slice none 0 0) (d' := .slice none 0 0) F5
    obtain ⟨n0, n1, n2, n3, _, _⟩ := four_cells g9
    have hB9 := Lib.hid ((B5).out.grown gr9 (B5).out.size (fun q e => by cases e; omega))
    replace g9 := Lib.hid g9
    replace F5 := Lib.hid F5
    clear gr9 gs9
    go_wp2_with fail
    refine bodyPost_ret (v := .tuple #[.agg #[.slice none 0 0, .slice none 0 0, .slice none 0 0, .slice none 0 0], .int .i64 0, .int .i64 9]) (by simp [results, Tryz.results66, go_sem, n0, n1, n2, n3]) rfl ?_
    obtain ⟨hN, hV⟩ := tk_no (s := s) (b := b) (by rw [hE.out]; decide)
    rw [hN, hV, hE.out]
    exact ⟨_, rfl, sto_empty _ _, hB9.out⟩
  · replace hE := Lib.hid hE
    have e1 := chkR_ok hm
    have e2 : ((b.length : Int) != 128) = false := by rw [hlb]; rfl
    have hemp : (!(freeL s).isEmpty) = true := by cases hq : freeL s with
      | nil => exact absurd hq hfl
      | cons k m => rfl
    obtain ⟨h8, h256, h0, hwe⟩ := tk_write hm hlb hfl
    rw [if_neg (by omega)] at hwe
    have hV : Hid (tkV s b = (wrR s.1 (tkK s : Int) b, s.2.1.set (tkK s) 1, s.2.2)) := Lib.hid (by
      rw [(tk_ok hE.out).2.2.2.2.2.2.2.2.2, wrR_nat hwe])
    have hT : Hid (tkN s b = (tkK s : Int)) := Lib.hid (tk_ok hE.out).2.2.2.2.2.2.2.2.1
    obtain ⟨k, hk⟩ : ∃ k, tkK s = k := ⟨_, rfl⟩
    obtain ⟨R, hR⟩ : ∃ R, wrR s.1 (k : Int) b = R := ⟨_, rfl⟩
    rw [hk] at h8 h256 hwe hV hT h0
    rw [hR] at hV
    obtain ⟨hu0, hu1⟩ := up_ok (mayR_of hm).2.1 h8 h256 (by rw [h0]; decide)
    rw [h0, show (0 : UInt8) + 1 = 1 from rfl] at hu1
    obtain ⟨T, hT2⟩ : ∃ T, s.2.1.set k 1 = T := ⟨_, rfl⟩
    rw [hT2] at hu1 hV
    have hll := mayT_len (mayR_of hm).2.2
    replace f2 := Lib.hid f2
    replace hlb := Lib.hid hlb
    replace hfl := Lib.hid hfl
    replace hk := Lib.hid hk
    replace hR := Lib.hid hR
    replace hwe := Lib.hid hwe
    replace hu0 := Lib.hid hu0
    replace hu1 := Lib.hid hu1
    replace hT2 := Lib.hid hT2
    replace hll := Lib.hid hll
    replace h0 := Lib.hid h0
    go_enter Tryz.func66, Tryz.ntmps66
    go_upto_region 1 with fail
    clear hw1
    go_wp2_with fail
    with_reducible refine (checkR_any _ s _ H.out).mono ?_
    rintro e w2 ⟨rfl, hb2⟩
    rw [e1]
    have G2 := (hb2.block w.heap.size kg).trans f1
    obtain ⟨m0, m1, m2, m3, _, mg⟩ := four_cells G2
    have F2 := (hb2.block (w.heap.size + 1) (by rw [hsz.out]; omega)).trans f2.out
    have H2 := Lib.hid (H.out.below hb2)
    have U2 := Lib.hid (stab_by.old U.out hb2)
    have s2 : Hid (w.heap.size + 2 ≤ w2.heap.size) := Lib.hid (by have := hb2.size; have := hsz.out; omega)
    replace hb2 := Lib.hid (hB.trans (hb2.mono hB.size))
    replace G2 := Lib.hid G2
    replace F2 := Lib.hid F2
    clear k0 k1 k2 k3 kg f1 hB
    go_wp2_with fail
    with_reducible refine (firstR_any _ s hm _ H2.out).mono ?_
    rintro e w3 ⟨rfl, hb3⟩
    rw [hemp]
    have G3 := (hb3.block w.heap.size mg).trans G2.out
    obtain ⟨k0, k1, k2, k3, _, kg⟩ := four_cells G3
    have F3 := (hb3.block (w.heap.size + 1) (by have := s2.out; omega)).trans F2.out
    have H3 := Lib.hid (H2.out.below hb3)
    have U3 := Lib.hid (stab_by.old U2.out hb3)
    have s3 : Hid (w.heap.size + 2 ≤ w3.heap.size) := Lib.hid (by have := hb3.size; have := s2.out; omega)
    replace hb3 := Lib.hid (hb2.out.trans (hb3.mono hb2.out.size))
    replace G3 := Lib.hid G3
    clear m0 m1 m2 m3 mg G2 F2 H2 U2 hb2
    rw [hk.out]
    replace F3 := Lib.hid F3
    go_wp2_with fail
    with_reducible refine (write_new _ _ s.1 (k : Int) b _ H3.out.parts.1 U3.out).mono ?_
    rintro e w4 ⟨A4, c4, B4, d4, rfl, hd4, hb4⟩
    rw [hwe.out, hR.out]
    rw [hR.out] at hd4
    have F4 := (hb4.block (w.heap.size + 1) (by have := s3.out; omega)).trans F3.out
    have G4 := (hb4.block w.heap.size kg).trans G3.out
    obtain ⟨w5, hw5, g5, hs5, hb5⟩ := box_pair' w4 (.slice A4 R.1.length c4) (.slice B4 R.2.length d4) 26
    have F5 := Lib.hid ((hb5.block (w.heap.size + 1) (by have := s3.out; have := hb4.size; omega)).trans F4)
    have G5 := (hb5.block w.heap.size (by have := s3.out; have := hb4.size; omega)).trans G4
    have H5 := Lib.hid ((H3.out.below hb4).below hb5)
    have D5 := Lib.hid (hd4.new (Nat.le_refl _) hb5)
    have s5 : Hid (w4.heap.size + 1 = w5.heap.size ∧ w.heap.size + 2 ≤ w4.heap.size) := Lib.hid ⟨by omega, by have := s3.out; have := hb4.size; omega⟩
    have B5 := Lib.hid (hb3.out.trans ((hb4.trans (hb5.mono hb4.size)).mono hb3.out.size))
    obtain ⟨m0, m1, m2, m3, _, mg⟩ := four_cells G5
    replace F4 := Lib.hid F4
    replace g5 := Lib.hid g5
    replace hs5 := Lib.hid hs5
    replace G5 := Lib.hid G5
    clear hb4 hb5 G4 k0 k1 k2 k3 hd4 H3 U3 G3
    go_upto_region 10 with fail
    clear hw5
    go_wp2_with fail
    with_reducible refine (up_open _ s.2.1 (k : Int) _ H5.out.parts.2.1).mono ?_
    rintro e w6 ⟨E6, c6, rfl, h6, hb6⟩
    rw [hu0.out, hu1.out]
    rw [hu1.out] at h6
    have F6 := Lib.hid ((hb6.block (w.heap.size + 1) (by have := s5.out; omega)).trans F5.out)
    have G6 := (hb6.block w.heap.size mg).trans G5.out
    have P6 := (hb6.block w4.heap.size (by have := s5.out; omega)).trans g5.out
    have H6 := Lib.hid (H5.out.below hb6)
    have D6 := Lib.hid (D5.out.new (Nat.le_refl _) hb6)
    have T6 := Lib.hid h6
    have B6 := Lib.hid (B5.out.trans (hb6.mono B5.out.size))
    have s6 : Hid (w.heap.size + 2 ≤ w6.heap.size) := Lib.hid (by have := s5.out; have := hb6.size; omega)
    clear hb6 h6 m0 m1 m2 m3
    obtain ⟨m0, m1, m2, m3, _, mg⟩ := four_cells G6
    obtain ⟨p0, p1, _, pg⟩ := two_cells P6
    replace G6 := Lib.hid G6
    replace P6 := Lib.hid P6
    have hcl : Hid (∀ W, Below w6.heap.size w6 W → Calls Tryz.prog 52 #[.slice L s.2.2.length cl] W fun e W' => ∃ X xc, e = .returned (.slice X s.2.2.length xc) ∧ rBy (New w6.heap.size W') W' [.slice X s.2.2.length xc] s.2.2 ∧ Below w6.heap.size w6 W') := Lib.hid fun W hC => by
      refine (clone_by _ s.2.2 W (by rw [hll.out]; omega) (stab_by.old H6.out.parts.2.2 hC)).mono ?_
      rintro e W' ⟨u, rfl, hx, hb⟩
      obtain ⟨X, xc, rfl, _⟩ := id (rBy_open hx)
      exact ⟨X, xc, rfl, stab_by.mono hx hC.size, hC.trans (hb.mono hC.size)⟩
    go_upto_region 15 with fail
    have hdr : Below w6.heap.size w6 w6.drew := (Below.refl _ _).drew
    go_region_with (first
      | (go_at_call 52; refine (hcl.out _ hdr).mono ?_; rintro e' wm ⟨X, xc, rfl, hx, hw⟩; have bW := (hw.block (w.heap.size + 1) (by have := s6.out; omega)).trans F6.out; obtain ⟨y0, y1, _, _⟩ := two_cells ((hw.block w4.heap.size pg).trans P6.out); obtain ⟨c0, c1, c2, c3, c4', _⟩ := four_cells bW))
    all_goals
      (go_wp2_with fail
       obtain ⟨W9, hW9, g9, gr9, gs9⟩ := put_four (a' := .slice A4 R.1.length c4) (b' := .slice B4 R.2.length d4) (c' := .slice E6 T.length c6) (d' := .slice X s.2.2.length xc) bW
       obtain ⟨n0, n1, n2, n3, _, _⟩ := four_cells g9
       rw [hW9]
       have BW := B6.out.trans (hw.mono B6.out.size)
       have l3 := hb3.out.size
       have l5 := B5.out.size
       have l6 := B6.out.size
       have r3 := s3.out
       have r5 := s5.out
       have r6 := s6.out
       refine bodyPost_ret (v := .tuple #[.agg #[.slice A4 R.1.length c4, .slice B4 R.2.length d4, .slice E6 T.length c6, .slice X s.2.2.length xc], .int .i64 (k : Int), .int .i64 0]) (by simp [results, Tryz.results66, go_sem, n0, n1, n2, n3]) rfl ?_
       rw [hT.out, hV.out, hE.out]
       exact ⟨_, rfl, Sto.mk (((D6.out.new (Nat.le_refl _) hw).grown gr9 (fun q e => by cases e; omega)).new l3 (Below.refl _ _)) (stab_by.new (stab_by.grown (stab_by.new T6.out (Nat.le_refl _) hw) gr9 (fun q e => by cases e; omega)) l5 (Below.refl _ _)) (stab_by.new (stab_by.grown hx gr9 (fun q e => by cases e; omega)) l6 (Below.refl _ _)), BW.grown gr9 BW.size (fun q e => by cases e; omega)⟩)
end Go.Proofs.YtogieepfimpdmaaGreat

/-
  Package room: Node. Conditions: those that each lemma states.
-/
namespace Go.Proofs.YtogieepfimpdmaaGreat
open Go.RowKit

noncomputable def rmE (s : Rm) (n : Int) : Int := if asE s n = 0 then reN (seenD s.1 n.toNat) else asE s n
noncomputable def rmV (s : Rm) (n : Int) : Nd := if asE s n = 0 then reV (seenD s.1 n.toNat) else zeroN
theorem rm_bad {s : Rm} {n : Int} (h : asE s n ≠ 0) : rmE s n = asE s n ∧ rmV s n = zeroN := ⟨by rw [rmE, if_neg h], by rw [rmV, if_neg h]⟩
theorem as_read {s : Rm} {n : Int} (h : asE s n = 0) : ∃ k : Nat, n = k ∧ mayR s = true ∧ 8 ≤ k ∧ k < 256 ∧ chkAt s.1 n = 0 ∧ rdX s.1 n = seenD s.1 k ∧ rmE s n = reN (seenD s.1 k) ∧ rmV s n = reV (seenD s.1 k) ∧ s.2.1[k]?.getD 0 ≠ 0 := by
  rcases as_ways s n with ⟨_, e⟩ | ⟨_, _, e⟩ | ⟨k, _, _, _, _, _, e⟩ | ⟨k, hm, rfl, h8, h256, hx, e⟩
  · rw [e] at h; cases h
  · rw [e] at h; cases h
  · rw [e] at h; cases h
  · have hmd := (mayR_of hm).1
    have ht := thereB_of h256
    exact ⟨k, rfl, hm, h8, h256, by simp [chkAt, hmd, ht], by simp [rdX, chkAt, hmd, ht], by rw [rmE, if_pos h]; rfl, by rw [rmV, if_pos h]; rfl, hx⟩

set_option maxRecDepth 100000 in
set_option maxHeartbeats 4000000 in
theorem nodeR_own (v : Value) (s : Rm) (n : Int) (w : World) (h : Sto (Old w) w v s) :
    Calls Tryz.prog 13 #[v, .int .i64 n] w fun e w' => ∃ u, e = .returned (.tuple #[u, .int .i64 (rmE s n)]) ∧ NodR w.heap.size w' u (rmV s n) ∧ Below w.heap.size w w' := by
  obtain ⟨A, ca, B, cb, N, cn, L, cl, rfl, _, _, _⟩ := h.open
  obtain ⟨w1, hw1, f1, f2, hsz, hB⟩ : ∃ w1, (w.alloc (.cells #[.slice A s.1.1.length ca, .slice B s.1.2.length cb, .slice N s.2.1.length cn, .slice L s.2.2.length cl] 29)).alloc (.cells #[.int .i64 0, .slice none 0 0] 45) = w1 ∧
      w1.heap[w.heap.size]? = some (.cells #[.slice A s.1.1.length ca, .slice B s.1.2.length cb, .slice N s.2.1.length cn, .slice L s.2.2.length cl] 29 (0, 0)) ∧ w1.heap[w.heap.size + 1]? = some (.cells #[.int .i64 0, .slice none 0 0] 45 (0, 0)) ∧ w1.heap.size = w.heap.size + 2 ∧ Below w.heap.size w w1 := by
    refine ⟨_, rfl, alloc_block (heap_alloc_new _ _), ?_, by simp, ((Below.refl _ w).alloc (Nat.le_refl _) _).alloc (by simp) _⟩
    have := heap_alloc_new (w.alloc (.cells #[.slice A s.1.1.length ca, .slice B s.1.2.length cb, .slice N s.2.1.length cn, .slice L s.2.2.length cl] 29)) (.cells #[.int .i64 0, .slice none 0 0] 45)
    rwa [World.size_alloc] at this
  have H := Lib.hid (h.below hB)
  clear h
  obtain ⟨k0, k1, k2, k3, _, kg⟩ := four_cells f1
  replace hsz := Lib.hid hsz
  replace f2 := Lib.hid f2
  obtain ⟨q, hq⟩ : ∃ q, rmE s n = q := ⟨_, rfl⟩
  by_cases ha : asE s n = 0
  · obtain ⟨k, rfl, hm, h8, h256, hck, hrd, hE, hV, -⟩ := as_read ha
    obtain ⟨b, hb⟩ : ∃ b, seenD s.1 k = b := ⟨_, rfl⟩
    rw [hb] at hrd hE hV
    rw [hE] at hq
    replace hE : Hid (rmE s (k : Int) = q) := Lib.hid (by rw [hE, hq])
    replace hq := Lib.hid hq
    replace ha := Lib.hid ha
    replace hck := Lib.hid hck
    replace hrd := Lib.hid hrd
    replace hV := Lib.hid hV
    replace hb := Lib.hid hb
    go_enter Tryz.func13, Tryz.ntmps13
    go_upto_region 1 with fail
    clear hw1
    go_wp2_with fail
    with_reducible refine (checkTakenR_any _ s (k : Int) _ H.out).mono ?_
    rintro e w2 ⟨rfl, hb2⟩
    rw [ha.out]
    have G2 := (hb2.block w.heap.size kg).trans f1
    obtain ⟨m0, m1, m2, m3, _, mg⟩ := four_cells G2
    have F2 := Lib.hid ((hb2.block (w.heap.size + 1) (by rw [hsz.out]; omega)).trans f2.out)
    have H2 := Lib.hid (H.out.below hb2)
    have s2 : Hid (w.heap.size + 2 ≤ w2.heap.size) := Lib.hid (by have := hb2.size; have := hsz.out; omega)
    replace hb2 := Lib.hid (hB.trans (hb2.mono hB.size))
    clear k0 k1 k2 k3 kg f1 hB G2
    go_wp2_with fail
    with_reducible refine (read_all _ s.1 (k : Int) _ H2.out.parts.1).mono ?_
    rintro e w3 ⟨u3, rfl, h3, hb3⟩
    rw [hck.out]
    rw [hrd.out] at h3
    obtain ⟨R, rc, rfl, _⟩ := id (rBy_open h3)
    have F3 := Lib.hid ((hb3.block (w.heap.size + 1) (by have := s2.out; omega)).trans F2.out)
    have B3 := Lib.hid (hb2.out.trans (hb3.mono hb2.out.size))
    have s3 : Hid (w.heap.size + 2 ≤ w3.heap.size) := Lib.hid (by have := hb3.size; have := s2.out; omega)
    have H3 := Lib.hid (stab_by.drop h3)
    clear hb3 h3 m0 m1 m2 m3 mg F2
    go_wp2_with fail
    with_reducible refine (nodeRead_own _ b _ H3.out).mono ?_
    rintro e w4 ⟨u4, rfl, h4, hb4⟩
    rw [hq.out]
    obtain ⟨P, pc, rfl, _⟩ := id h4
    have F4 := (hb4.block (w.heap.size + 1) (by have := s3.out; omega)).trans F3.out
    obtain ⟨m0, m1, m2, m3⟩ := two_cells F4
    obtain ⟨W9, hW9, g9, gr9, gs9⟩ := put_two (u := .int .i64 (reV b).1) (v := .slice P (reV b).2.length pc) F4
    obtain ⟨n0, n1, _, _⟩ := two_cells g9
    have r3 := s3.out
    have l3 := B3.out.size
    have hfin := Lib.hid (show NodR w.heap.size W9 (.agg #[.int .i64 (reV b).1, .slice P (reV b).2.length pc]) (rmV s (k : Int)) from by
      rw [hV.out]
      exact (h4.grown gr9 (fun q e => by cases e; omega)).new l3 (Below.refl _ _))
    have hB9 := Lib.hid ((B3.out.trans (hb4.mono B3.out.size)).grown gr9 (Nat.le_trans l3 hb4.size) (fun q e => by cases e; omega))
    replace F4 := Lib.hid F4
    replace g9 := Lib.hid g9
    clear gr9 gs9 h4 hb4 r3 l3
    go_wp2_with fail
    refine bodyPost_ret (v := .tuple #[.agg #[.int .i64 (reV b).1, .slice P (reV b).2.length pc], .int .i64 q]) (by simp [results, Tryz.results13, go_sem, n0, n1]) rfl ?_
    rw [hE.out]
    exact ⟨_, rfl, hfin.out, hB9.out⟩
  · obtain ⟨hE, hV⟩ := rm_bad ha
    rw [hE] at hq
    have hq1 : (q != 0) = true := by rw [← hq]; simpa using ha
    have hq2 : Hid (asE s n = q) := Lib.hid hq
    replace hq : Hid (rmE s n = q) := Lib.hid (by rw [hE]; exact hq)
    replace hV := Lib.hid hV
    clear ha hE
    go_enter Tryz.func13, Tryz.ntmps13
    go_upto_region 1 with fail
    clear hw1
    go_wp2_with fail
    with_reducible refine (checkTakenR_any _ s n _ H.out).mono ?_
    rintro e w2 ⟨rfl, hb2⟩
    rw [hq2.out]
    have F2 := (hb2.block (w.heap.size + 1) (by rw [hsz.out]; omega)).trans f2.out
    replace hb2 := Lib.hid (hB.trans (hb2.mono hB.size))
    obtain ⟨m0, m1, m2, m3⟩ := two_cells F2
    obtain ⟨W9, hW9, g9, gr9, gs9⟩ := put_two (u := .int .i64 0) (v := .slice none 0 0) F2
    obtain ⟨n0, n1, _, _⟩ := two_cells g9
    have hB9 := Lib.hid ((hb2).out.grown gr9 (hb2).out.size (fun q e => by cases e; omega))
    replace g9 := Lib.hid g9
    replace F2 := Lib.hid F2
    clear gr9 gs9
    go_wp2_with fail
    refine bodyPost_ret (v := .tuple #[.agg #[.int .i64 0, .slice none 0 0], .int .i64 q]) (by simp [results, Tryz.results13, go_sem, n0, n1]) rfl ?_
    rw [hV.out, hq.out]
    exact ⟨_, rfl, NodR.zero _ _, hB9.out⟩
theorem nodeR_any (v : Value) (s : Rm) (n : Int) (w : World) (h : Sto (Old w) w v s) :
    Calls Tryz.prog 13 #[v, .int .i64 n] w fun e w' => ∃ u, e = .returned (.tuple #[u, .int .i64 (rmE s n)]) ∧ Nod (New w.heap.size w') w' u (rmV s n) ∧ Below w.heap.size w w' :=
  (nodeR_own v s n w h).mono fun _ _ ⟨u, e1, h1, h2⟩ => ⟨u, e1, h1.nod, h2⟩
end Go.Proofs.YtogieepfimpdmaaGreat

/-
  Trees, plain: which may be, their items, what is found in them. Conditions: those that each lemma states.
-/
namespace Go.Proofs.YtogieepfimpdmaaGreat
open Go.RowKit

/-! ### Which trees may be -/
def keyZ : Ky := (0, 0, 0)
/-- The Refs of a leaf's items are referred tb. -/
def leafO (s : Rm) (l : List It) : Bool := l.all fun x => decide (x.2.1 = 0) || decide (s.2.1[x.2.1.toNat]?.getD 0 ≠ 0)
/-- Each of some items, by its Ref, its key, and the next one's key (or a bound). -/
def itsO (f : Int → Ky → Ky → Bool → Bool) : List It → Ky → Bool → Bool
  | [], _, _ => true
  | [x], tb, ends => f x.2.1 x.1 tb ends
  | x :: y :: r, tb, ends => f x.2.1 x.1 y.1 true && itsO f (y :: r) tb ends
/-- The first key, and the last one ahead of a bound. -/
def headO (l : List It) (k tb : Ky) (ends : Bool) : Bool := (match l[0]? with | none => false | some x => decide (x.1 = k)) && (!ends || (match l.getLast? with | none => false | some y => lessK y.1 tb))
noncomputable def rightO (s : Rm) : Nat → Int → Ky → Ky → Bool → Bool
  | 0, a, k, tb, ends => (decide (rmE s a = 0) && decide ((rmV s a).1 = 0)) && (headO (rmV s a).2 k tb ends && leafO s (rmV s a).2)
  | l + 1, a, k, tb, ends => (decide (rmE s a = 0) && decide ((rmV s a).1 = ((l + 1 : Nat) : Int))) && (headO (rmV s a).2 k tb ends && itsO (rightO s l) (rmV s a).2 tb ends)
noncomputable def innerO (s : Rm) (n : Nd) (tb : Ky) (ends : Bool) : Bool := match n.1.toNat with
  | 0 => leafO s n.2
  | l + 1 => itsO (rightO s l) n.2 tb ends
noncomputable def treeO (s : Rm) (a : Int) : Bool := decide (rmE s a = 0) && innerO s (rmV s a) keyZ false
noncomputable def ckE (s : Rm) (a : Int) : Int := if asE s a = 0 then (if treeO s a then 0 else 8) else asE s a
noncomputable def ckH (s : Rm) (a : Int) : Int := if ckE s a = 0 then (rmV s a).1 + 1 else 0

/-! ### Items, and what is found -/
noncomputable def itsT (s : Rm) : Nat → Int → List It
  | 0, a => (rmV s a).2
  | l + 1, a => (rmV s a).2.flatMap fun x => itsT s l x.2.1
noncomputable def oneO (s : Rm) : Nat → Int → Ky → Option It
  | 0, a, k => (rmV s a).2.reverse.find? fun x => decide (x.1 = k)
  | l + 1, a, k => ((rmV s a).2.reverse.find? fun x => !lessK k x.1).bind fun x => oneO s l x.2.1 k
/-- The items of a tree; the one of a key. -/
noncomputable def allO (s : Rm) (a : Int) : List It := itsT s (rmV s a).1.toNat a
noncomputable def theO (s : Rm) (a : Int) (k : Ky) : Option It := oneO s (rmV s a).1.toNat a k

def Up (l : List It) : Prop := l.Pairwise fun x y => lessK x.1 y.1 = true
theorem rm_may {s : Rm} {a : Int} (h : rmE s a = 0) : mayN (rmV s a) = true ∧ asE s a = 0 := by
  by_cases ha : asE s a = 0
  · obtain ⟨k, _, _, _, _, _, _, hE, hV, _⟩ := as_read ha
    rw [hE] at h
    rw [hV]
    exact ⟨(blkN_read h).1, ha⟩
  · rw [(rm_bad ha).1] at h
    exact absurd h ha
theorem up_may {n : Nd} (h : mayN n = true) : Up n.2 := by
  rw [Up, List.pairwise_iff_getElem]
  intro i j hi hj hij
  exact mayN_rises h hij (List.getElem?_eq_getElem hi) (List.getElem?_eq_getElem hj)
theorem up_first {x : It} {l : List It} (h : Up (x :: l)) : ∀ y ∈ x :: l, y.1 = x.1 ∨ lessK x.1 y.1 = true := fun y hy => by
  rcases List.mem_cons.1 hy with rfl | hy
  · exact .inl rfl
  · exact .inr ((List.pairwise_cons.1 h).1 y hy)
theorem up_last {l : List It} {z : It} {tb : Ky} (h : Up l) (hl : l.getLast? = some z) (hz : lessK z.1 tb = true) : ∀ y ∈ l, lessK y.1 tb = true := fun y hy => by
  obtain ⟨r, rfl⟩ := List.getLast?_eq_some_iff.1 hl
  rcases List.mem_append.1 hy with hy | hy
  · exact less_trans ((List.pairwise_append.1 h).2.2 y hy z (by simp)) hz
  · rw [List.mem_singleton.1 hy]
    exact hz
theorem head_of {l : List It} {k tb : Ky} {ends : Bool} (h : headO l k tb ends = true) : ∃ x r, l = x :: r ∧ x.1 = k ∧ (ends = true → ∃ z, l.getLast? = some z ∧ lessK z.1 tb = true) := by
  unfold headO at h
  rw [Bool.and_eq_true] at h
  obtain ⟨h1, h2⟩ := h
  cases l with
  | nil => simp at h1
  | cons x r =>
    refine ⟨x, r, rfl, by simpa using h1, fun he => ?_⟩
    rw [he] at h2
    cases hz : (x :: r).getLast? with
    | none => rw [hz] at h2; simp at h2
    | some z => rw [hz] at h2; exact ⟨z, rfl, by simpa using h2⟩

/-- What a part of a tree has: items that rise, from a first key on, ahead of a bound. -/
structure Part (M : List It) (k tb : Ky) (ends : Bool) (N : Nat) : Prop where
  first : ∃ x r, M = x :: r ∧ x.1 = k
  up : Up M
  bound : ends = true → ∀ y ∈ M, lessK y.1 tb = true
  few : M.length ≤ N
theorem Part.ge {M : List It} {k tb : Ky} {ends : Bool} {N : Nat} (h : Part M k tb ends N) : ∀ y ∈ M, y.1 = k ∨ lessK k y.1 = true := by
  obtain ⟨x, r, rfl, rfl⟩ := h.first
  exact up_first h.up
theorem part_its {f : Int → Ky → Ky → Bool → Bool} {g : Int → List It} {N : Nat} (hf : ∀ a k tb ends, f a k tb ends = true → Part (g a) k tb ends N) : ∀ (L : List It) (tb : Ky) (ends : Bool), L ≠ [] → itsO f L tb ends = true →
    ∃ x r, L = x :: r ∧ Part (L.flatMap fun x => g x.2.1) x.1 tb ends (N * L.length)
  | [], _, _, h, _ => absurd rfl h
  | [x], tb, ends, _, h => by
    refine ⟨x, [], rfl, ?_⟩
    have := hf _ _ _ _ h
    simpa using this
  | x :: y :: r, tb, ends, _, h => by
    refine ⟨x, y :: r, rfl, ?_⟩
    unfold itsO at h
    rw [Bool.and_eq_true] at h
    have hx := hf _ _ _ _ h.1
    obtain ⟨y', r', e, hy⟩ := part_its hf (y :: r) tb ends (by simp) h.2
    cases e
    have e2 : (x :: y :: r).flatMap (fun x => g x.2.1) = g x.2.1 ++ (y :: r).flatMap fun x => g x.2.1 := List.flatMap_cons
    rw [e2]
    have hb := hx.bound rfl
    have hlt : ∀ p ∈ g x.2.1, ∀ q ∈ (y :: r).flatMap (fun x => g x.2.1), lessK p.1 q.1 = true := fun p hp q hq => by
      rcases hy.ge q hq with e | e
      · rw [e]; exact hb p hp
      · exact less_trans (hb p hp) e
    refine ⟨?_, ?_, fun he p hp => ?_, ?_⟩
    · obtain ⟨z, q, ez, kz⟩ := hx.first
      exact ⟨z, _, by rw [ez]; rfl, kz⟩
    · exact List.pairwise_append.2 ⟨hx.up, hy.up, hlt⟩
    · rcases List.mem_append.1 hp with hp | hp
      · obtain ⟨z, q, ez, kz⟩ := hy.first
        have hz := hlt p hp z (by rw [ez]; simp)
        exact less_trans hz (hy.bound he z (by rw [ez]; simp))
      · exact hy.bound he p hp
    · have h1 := hx.few
      have h2 := hy.few
      rw [List.length_append]
      have e3 : N * (x :: y :: r).length = N + N * (y :: r).length := by rw [List.length_cons, Nat.mul_succ, Nat.add_comm]
      omega
theorem right_of {s : Rm} {l : Nat} {a : Int} {k tb : Ky} {ends : Bool} (h : rightO s l a k tb ends = true) : rmE s a = 0 ∧ (rmV s a).1 = l ∧ headO (rmV s a).2 k tb ends = true ∧ (match l with | 0 => leafO s (rmV s a).2 | l' + 1 => itsO (rightO s l') (rmV s a).2 tb ends) = true := by
  cases l with
  | zero =>
    simp only [rightO, Bool.and_eq_true, decide_eq_true_eq] at h
    exact ⟨h.1.1, h.1.2, h.2.1, h.2.2⟩
  | succ l =>
    simp only [rightO, Bool.and_eq_true, decide_eq_true_eq] at h
    exact ⟨h.1.1, h.1.2, h.2.1, h.2.2⟩
theorem right_part (s : Rm) : ∀ (l : Nat) (a : Int) (k tb : Ky) (ends : Bool), rightO s l a k tb ends = true → Part (itsT s l a) k tb ends (5 ^ (l + 1))
  | 0, a, k, tb, ends, h => by
    obtain ⟨h1, h2, h3, h4⟩ := right_of h
    obtain ⟨hm, _⟩ := rm_may h1
    obtain ⟨x, r, e, ek, hz⟩ := head_of h3
    refine ⟨⟨x, r, e, ek⟩, up_may hm, fun he => ?_, ?_⟩
    · obtain ⟨z, e1, e2⟩ := hz he
      exact up_last (up_may hm) e1 e2
    · exact (mayN_of hm).1.2.2.1
  | l + 1, a, k, tb, ends, h => by
    obtain ⟨h1, h2, h3, h4⟩ := right_of h
    obtain ⟨hm, _⟩ := rm_may h1
    obtain ⟨x, r, e, ek, hz⟩ := head_of h3
    obtain ⟨x', r', e', hp⟩ := part_its (right_part s l) (rmV s a).2 tb ends (by rw [e]; simp) h4
    rw [e] at e'
    cases e'
    rw [ek] at hp
    refine ⟨hp.first, hp.up, hp.bound, Nat.le_trans hp.few ?_⟩
    have h5 := (mayN_of hm).1.2.2.1
    rw [Nat.pow_succ 5 (l + 1)]
    exact Nat.mul_le_mul_left _ h5

/-! ### What is found -/
theorem find_none {p : It → Bool} {l : List It} (h : ∀ x ∈ l, p x = false) : l.reverse.find? p = none := by
  rw [List.find?_eq_none]
  intro x hx
  rw [h x (List.mem_reverse.1 hx)]
  simp
/-! ### A tree that may be -/
theorem tree_of {s : Rm} {a : Int} (h : treeO s a = true) : rmE s a = 0 ∧ asE s a = 0 ∧ mayN (rmV s a) = true ∧ 0 ≤ (rmV s a).1 ∧ (rmV s a).1 < 6 ∧ innerO s (rmV s a) keyZ false = true := by
  simp only [treeO, Bool.and_eq_true, decide_eq_true_eq] at h
  obtain ⟨hm, ha⟩ := rm_may h.1
  exact ⟨h.1, ha, hm, (mayN_of hm).1.1, (mayN_of hm).1.2.1, h.2⟩
/-! ### As loops go -/
theorem leaf_take {s : Rm} {l : List It} {i : Nat} {x : It} (hx : l[i]? = some x) : leafO s (l.take (i + 1)) = (leafO s (l.take i) && (decide (x.2.1 = 0) || decide (s.2.1[x.2.1.toNat]?.getD 0 ≠ 0))) := by
  have hk := (List.getElem?_eq_some_iff.1 hx).1
  have hg : l[i] = x := (List.getElem?_eq_some_iff.1 hx).2
  rw [← List.take_append_getElem hk, hg]
  simp [leafO]
theorem leaf_bad {s : Rm} {l : List It} {i : Nat} (h : leafO s (l.take i) = false) : leafO s l = false := by
  cases e : leafO s l with
  | false => rfl
  | true =>
    unfold leafO at e h
    rw [List.all_eq_true] at e
    rw [← h]
    symm
    rw [List.all_eq_true]
    exact fun x hx => e x (List.mem_of_mem_take hx)
/-- The bound of an item, and whether there is one. -/
def nxO (r : List It) (tb : Ky) : Ky := match r with | [] => tb | y :: _ => y.1
def bxO (r : List It) (ends : Bool) : Bool := match r with | [] => ends | _ :: _ => true
theorem its_cons (f : Int → Ky → Ky → Bool → Bool) (x : It) (r : List It) (tb : Ky) (ends : Bool) : itsO f (x :: r) tb ends = (f x.2.1 x.1 (nxO r tb) (bxO r ends) && itsO f r tb ends) := by
  cases r with
  | nil => simp [itsO, nxO, bxO]
  | cons y r => rfl
end Go.Proofs.YtogieepfimpdmaaGreat

/-
  Nodes made and left, plain: what is counted, what is left, and what follows. Conditions: those that each lemma states.
-/
namespace Go.Proofs.YtogieepfimpdmaaGreat
open Go.RowKit

/-! ### Refs, counted -/
/-- How often a block is among the Refs. -/
def cntR : List It → Nat → Nat
  | [], _ => 0
  | x :: l, i => (if x.2.1 = (i : Int) then (if x.2.1 = 0 then 0 else 1) else 0) + cntR l i
/-- Refs that are 0, or of a block. -/
def refsOk (l : List It) : Prop := ∀ x ∈ l, x.2.1 = 0 ∨ (8 ≤ x.2.1 ∧ x.2.1 < 256)
theorem refs_cons {x : It} {l : List It} (h : refsOk (x :: l)) : (x.2.1 = 0 ∨ ∃ k : Nat, x.2.1 = k ∧ 8 ≤ k ∧ k < 256) ∧ refsOk l := by
  refine ⟨?_, fun y hy => h y (List.mem_cons_of_mem _ hy)⟩
  rcases h x List.mem_cons_self with h1 | ⟨h1, h2⟩
  · exact .inl h1
  · exact .inr ⟨x.2.1.toNat, by omega, by omega, by omega⟩
theorem refs_may {n : Nd} (h : mayN n = true) : refsOk n.2 := fun x hx => by
  obtain ⟨i, hi⟩ := List.getElem?_of_mem hx
  have hk := (List.getElem?_eq_some_iff.1 hi).1
  simp only [mayN, Bool.and_eq_true, List.all_eq_true] at h
  have h1 := h.2 i (by simpa using hk)
  simp only [okAt, hi, okP, Bool.and_eq_true] at h1
  exact (mayI_of h1.1.1).1
theorem cntR_zero {x : It} {l : List It} (h : x.2.1 = 0) (i : Nat) : cntR (x :: l) i = cntR l i := by
  simp only [cntR, h, if_true]
  split <;> simp
theorem cntR_here {x : It} {l : List It} {k : Nat} (h : x.2.1 = k) (h8 : 8 ≤ k) (i : Nat) : cntR (x :: l) i = (if i = k then 1 else 0) + cntR l i := by
  simp only [cntR, h]
  by_cases e : i = k
  · subst e
    rw [if_pos rfl, if_neg (by omega), if_pos rfl]
  · rw [if_neg (by omega), if_neg e]
theorem cntR_low {l : List It} (h : refsOk l) {i : Nat} (hi : i < 8 ∨ 256 ≤ i) : cntR l i = 0 := by
  induction l with
  | nil => rfl
  | cons x l ih =>
    obtain ⟨h1, h2⟩ := refs_cons h
    rcases h1 with h1 | ⟨k, h1, h8, h256⟩
    · rw [cntR_zero h1, ih h2]
    · rw [cntR_here h1 h8, ih h2, if_neg (by omega)]
/-- Counting goes on: what is wrong, and the counts. -/
def ctE : List UInt8 → List It → Int
  | _, [] => 0
  | t, x :: l => if x.2.1 = 0 then ctE t l else if t[x.2.1.toNat]?.getD 0 = 0 then 6 else if t[x.2.1.toNat]?.getD 0 = 255 then 70 else ctE (t.set x.2.1.toNat (t[x.2.1.toNat]?.getD 0 + 1)) l
def ctV : List UInt8 → List It → List UInt8
  | t, [] => t
  | t, x :: l => if x.2.1 = 0 then ctV t l else ctV (t.set x.2.1.toNat (t[x.2.1.toNat]?.getD 0 + 1)) l
theorem ctV_len : ∀ (l : List It) (t : List UInt8), (ctV t l).length = t.length
  | [], _ => rfl
  | x :: l, t => by
    unfold ctV
    split
    · exact ctV_len l t
    · rw [ctV_len l, List.length_set]
theorem ctE_app : ∀ (a b : List It) (t : List UInt8), ctE t (a ++ b) = if ctE t a = 0 then ctE (ctV t a) b else ctE t a
  | [], b, t => by simp [ctE, ctV]
  | x :: a, b, t => by
    simp only [List.cons_append, ctE, ctV]
    split
    · exact ctE_app a b t
    · split
      · simp
      · split
        · simp
        · exact ctE_app a b _
theorem ctV_app : ∀ (a b : List It) (t : List UInt8), ctV t (a ++ b) = ctV (ctV t a) b
  | [], b, t => rfl
  | x :: a, b, t => by
    simp only [List.cons_append, ctV]
    split
    · exact ctV_app a b t
    · exact ctV_app a b _
theorem up_nat {x : UInt8} (h : x ≠ 255) : (x + 1).toNat = x.toNat + 1 := by
  have := (up_byte h).1
  omega
theorem dn_nat {x : UInt8} (h : x ≠ 0) : (x - 1).toNat + 1 = x.toNat := by
  have h1 := (up_byte (x := x - 1) (byte_dn_ne h)).1
  rw [byte_back.2] at h1
  omega
theorem nat_zero {x : UInt8} : x.toNat = 0 ↔ x = 0 := ⟨fun h => UInt8.toNat_inj.1 (by rw [h]; rfl), fun h => by rw [h]; rfl⟩
/-- What counting asks, and gives. -/
theorem ct_counts : ∀ (l : List It) (t : List UInt8), refsOk l → t.length = 256 → ctE t l = 0 →
    (∀ i, ((ctV t l)[i]?.getD 0).toNat = (t[i]?.getD 0).toNat + cntR l i) ∧ (∀ i, cntR l i ≠ 0 → t[i]?.getD 0 ≠ 0)
  | [], t, _, _, _ => ⟨fun i => by simp [ctV, cntR], fun i h => absurd rfl h⟩
  | x :: l, t, hr, hl, h => by
    obtain ⟨h1, h2⟩ := refs_cons hr
    unfold ctE at h
    unfold ctV
    rcases h1 with h1 | ⟨k, h1, h8, h256⟩
    · rw [if_pos h1] at h ⊢
      obtain ⟨c1, c2⟩ := ct_counts l t h2 hl h
      exact ⟨fun i => by rw [c1 i, cntR_zero h1], fun i hi => c2 i (by rwa [cntR_zero h1] at hi)⟩
    · have e0 : ¬ x.2.1 = 0 := by omega
      have ek : x.2.1.toNat = k := by omega
      rw [if_neg e0, ek] at h
      rw [if_neg e0, ek]
      by_cases hz : t[k]?.getD 0 = 0
      · rw [if_pos hz] at h; cases h
      · by_cases hm : t[k]?.getD 0 = 255
        · rw [if_neg hz, if_pos hm] at h; cases h
        · rw [if_neg hz, if_neg hm] at h
          obtain ⟨c1, c2⟩ := ct_counts l (t.set k (t[k]?.getD 0 + 1)) h2 (by rw [List.length_set, hl]) h
          refine ⟨fun i => ?_, fun i hi => ?_⟩
          · rw [c1 i, cntR_here h1 h8]
            by_cases e : i = k
            · subst e
              rw [set_get (by omega), up_nat hm, if_pos rfl]
              omega
            · rw [set_other e, if_neg e]
              omega
          · by_cases e : i = k
            · subst e; exact hz
            · rw [cntR_here h1 h8, if_neg e, Nat.zero_add] at hi
              have := c2 i hi
              rwa [set_other e] at this
theorem list_same {a b : List UInt8} (hl : a.length = b.length) (h : ∀ i : Nat, (a[i]?.getD 0).toNat = (b[i]?.getD 0).toNat) : a = b := by
  refine List.ext_getElem hl fun i h1 h2 => ?_
  have := UInt8.toNat_inj.1 (h i)
  rwa [List.getElem?_eq_getElem h1, List.getElem?_eq_getElem h2] at this
theorem ct_may {t : List UInt8} {l : List It} (hm : mayT t = true) (hr : refsOk l) (h : ctE t l = 0) : mayT (ctV t l) = true := by
  have hl := mayT_len hm
  obtain ⟨c1, _⟩ := ct_counts l t hr hl h
  refine mayT_yes (by rw [ctV_len, hl]) fun j hj => nat_zero.1 ?_
  rw [c1 j, cntR_low hr (.inl hj), mayT_at hm hj]
  rfl
theorem ct_zero {t : List UInt8} {l : List It} (hl : t.length = 256) (hr : refsOk l) (h : ctE t l = 0) (i : Nat) : (ctV t l)[i]?.getD 0 = 0 ↔ t[i]?.getD 0 = 0 := by
  obtain ⟨c1, c2⟩ := ct_counts l t hr hl h
  rw [← nat_zero, c1 i, ← nat_zero (x := t[i]?.getD 0)]
  refine ⟨fun h => by omega, fun h => ?_⟩
  by_cases e : cntR l i = 0
  · omega
  · exact absurd (nat_zero.1 h) (c2 i e)

/-! ### To make -/
/-- A store in which a node's Refs are counted. -/
def ctS (s : Rm) (n : Nd) : Rm := (s.1, ctV s.2.1 n.2, s.2.2)
def mkE (s : Rm) (n : Nd) : Int := if mayR s && mayN n then (if ctE s.2.1 n.2 = 0 then tkE (ctS s n) (blkN n) else ctE s.2.1 n.2) else 8
def mkN (s : Rm) (n : Nd) : Int := if mkE s n = 0 then tkN (ctS s n) (blkN n) else 0
def mkV (s : Rm) (n : Nd) : Rm := if mkE s n = 0 then tkV (ctS s n) (blkN n) else emptyR
theorem mk_no {s : Rm} {n : Nd} (h : mkE s n ≠ 0) : mkN s n = 0 ∧ mkV s n = emptyR := ⟨by rw [mkN, if_neg h], by rw [mkV, if_neg h]⟩
theorem ctS_may {s : Rm} {n : Nd} (hm : mayR s = true) (hn : mayN n = true) (h : ctE s.2.1 n.2 = 0) : mayR (ctS s n) = true := by
  obtain ⟨m1, m2, m3⟩ := mayR_of hm
  exact mayR_mk m1 (ct_may m2 (refs_may hn) h) m3
theorem ctS_free {s : Rm} {n : Nd} (hm : mayR s = true) (hn : mayN n = true) (h : ctE s.2.1 n.2 = 0) : freeL (ctS s n) = freeL s := by
  unfold freeL freeK
  refine List.filter_congr fun i _ => ?_
  have := ct_zero (mayT_len (mayR_of hm).2.1) (refs_may hn) h i
  show (decide ((ctV s.2.1 n.2)[i]?.getD 0 = 0) && _) = (decide (s.2.1[i]?.getD 0 = 0) && _)
  rw [decide_eq_decide.2 this]
  rfl
theorem mk_ok {s : Rm} {n : Nd} (h : mkE s n = 0) : mayR s = true ∧ mayN n = true ∧ ctE s.2.1 n.2 = 0 ∧ tkE (ctS s n) (blkN n) = 0 ∧ mkN s n = tkN (ctS s n) (blkN n) ∧ mkV s n = tkV (ctS s n) (blkN n) := by
  have hN : mkN s n = tkN (ctS s n) (blkN n) := by rw [mkN, if_pos h]
  have hV : mkV s n = tkV (ctS s n) (blkN n) := by rw [mkV, if_pos h]
  unfold mkE at h
  cases hm : mayR s with
  | false => rw [hm] at h; simp at h
  | true =>
    cases hn : mayN n with
    | false => rw [hm, hn] at h; simp at h
    | true =>
      rw [hm, hn] at h
      simp only [Bool.and_self, if_true] at h
      by_cases hc : ctE s.2.1 n.2 = 0
      · rw [if_pos hc] at h
        exact ⟨rfl, rfl, hc, h, hN, hV⟩
      · rw [if_neg hc] at h
        exact absurd h hc
/-- What a node that is made leaves. -/
theorem mk_counts {s : Rm} {n : Nd} (h : mkE s n = 0) : ∃ k : Nat, mkN s n = k ∧ 8 ≤ k ∧ k < 256 ∧ s.2.1[k]?.getD 0 = 0 ∧ s.2.2[k]?.getD 0 = 0 ∧ cntR n.2 k = 0 ∧ mkV s n = (wrD s.1 k (blkN n), (ctV s.2.1 n.2).set k 1, s.2.2) ∧ mayR (mkV s n) = true ∧
    (mkV s n).2.1[k]?.getD 0 = 1 ∧ (∀ i, i ≠ k → ((mkV s n).2.1[i]?.getD 0).toNat = (s.2.1[i]?.getD 0).toNat + cntR n.2 i) ∧ (∀ i, cntR n.2 i ≠ 0 → s.2.1[i]?.getD 0 ≠ 0) ∧ (mkV s n).2.1.length = 256 ∧ s.2.1.length = 256 := by
  obtain ⟨hm, hn, hc, ht, e1, e2⟩ := mk_ok h
  obtain ⟨_, _, _, _, h8, h256, hz, hz2, hN, hV⟩ := tk_ok ht
  have hl := mayT_len (mayR_of hm).2.1
  have hr := refs_may hn
  obtain ⟨c1, c2⟩ := ct_counts n.2 s.2.1 hr hl hc
  generalize tkK (ctS s n) = k at *
  have z1 : s.2.1[k]?.getD 0 = 0 := (ct_zero hl hr hc k).1 hz
  have z2 : cntR n.2 k = 0 := by
    by_cases e : cntR n.2 k = 0
    · exact e
    · exact absurd z1 (c2 k e)
  have hV' : mkV s n = (wrD s.1 k (blkN n), (ctV s.2.1 n.2).set k 1, s.2.2) := by rw [e2, hV]; rfl
  refine ⟨k, by rw [e1, hN], h8, h256, z1, hz2, z2, hV', by rw [e2]; exact tk_may ht, ?_, fun i hi => ?_, c2, ?_, hl⟩
  · rw [hV']; exact set_get (by rw [ctV_len]; omega)
  · rw [hV']
    show (((ctV s.2.1 n.2).set k 1)[i]?.getD 0).toNat = _
    rw [set_other hi]
    exact c1 i
  · rw [hV']
    show ((ctV s.2.1 n.2).set k 1).length = _
    rw [List.length_set, ctV_len, hl]

/-! ### To leave -/
def dnO (t : List UInt8) (a : Nat) : Option (List UInt8) := if t[a]?.getD 0 = 0 then none else some (t.set a (t[a]?.getD 0 - 1))
def eachO (f : List UInt8 → Nat → Option (List UInt8)) : List UInt8 → List It → Option (List UInt8)
  | t, [] => some t
  | t, x :: l => if x.2.1 = 0 then eachO f t l else (f t x.2.1.toNat).bind fun t' => eachO f t' l
noncomputable def lvS (d : Dk) (l : Nat) (f : List UInt8 → Nat → Option (List UInt8)) (t : List UInt8) (a : Nat) : Option (List UInt8) :=
  (dnO t a).bind fun t' => if 1 < (t[a]?.getD 0).toNat then some t' else if reN (seenD d a) = 0 ∧ (reV (seenD d a)).1 = (l : Int) then eachO f t' (reV (seenD d a)).2 else none
/-- How what a node of a level refers to is left. -/
noncomputable def lvF (d : Dk) : Nat → List UInt8 → Nat → Option (List UInt8)
  | 0 => dnO
  | l + 1 => lvS d l (lvF d l)
noncomputable def lfO (d : Dk) (t : List UInt8) (a : Nat) : Option (List UInt8) :=
  (dnO t a).bind fun t' => if 1 < (t[a]?.getD 0).toNat then some t' else if reN (seenD d a) = 0 then eachO (lvF d (reV (seenD d a)).1.toNat) t' (reV (seenD d a)).2 else none
noncomputable def lvE (s : Rm) (n : Int) : Int := if asE s n = 0 then (match lfO s.1 s.2.1 n.toNat with | some _ => 0 | none => 8) else asE s n
noncomputable def lvV (s : Rm) (n : Int) : Rm := if asE s n = 0 then (match lfO s.1 s.2.1 n.toNat with | some t => (s.1, t, s.2.2) | none => emptyR) else emptyR
def loV (s : Rm) (n : Int) : Rm := if asE s n = 0 then (s.1, s.2.1.set n.toNat (s.2.1[n.toNat]?.getD 0 - 1), s.2.2) else emptyR
/-- No count is more than it was. -/
structure LeT (u t : List UInt8) : Prop where
  len : u.length = t.length
  le : ∀ i : Nat, (u[i]?.getD 0).toNat ≤ (t[i]?.getD 0).toNat
theorem LeT.refl (t : List UInt8) : LeT t t := ⟨rfl, fun _ => Nat.le_refl _⟩
theorem LeT.trans {a b c : List UInt8} (h : LeT a b) (h' : LeT b c) : LeT a c := ⟨h.len.trans h'.len, fun i => Nat.le_trans (h.le i) (h'.le i)⟩
theorem dnO_some {t u : List UInt8} {a : Nat} (h : dnO t a = some u) : t[a]?.getD 0 ≠ 0 ∧ u = t.set a (t[a]?.getD 0 - 1) ∧ LeT u t ∧ (u[a]?.getD 0).toNat + 1 = (t[a]?.getD 0).toNat := by
  unfold dnO at h
  by_cases hz : t[a]?.getD 0 = 0
  · rw [if_pos hz] at h; cases h
  · rw [if_neg hz] at h
    cases h
    have ha : a < t.length := by
      by_cases e : a < t.length
      · exact e
      · exact absurd (by rw [List.getElem?_eq_none (by omega)]; rfl) hz
    refine ⟨hz, rfl, ⟨List.length_set, fun i => ?_⟩, ?_⟩
    · by_cases e : i = a
      · subst e
        rw [set_get ha]
        have := dn_nat hz
        omega
      · rw [set_other e]
        exact Nat.le_refl _
    · rw [set_get ha]
      exact dn_nat hz
theorem each_le {f : List UInt8 → Nat → Option (List UInt8)} (hf : ∀ t a u, f t a = some u → LeT u t) : ∀ (l : List It) (t u : List UInt8), eachO f t l = some u → LeT u t
  | [], t, u, h => by cases h; exact LeT.refl _
  | x :: l, t, u, h => by
    unfold eachO at h
    split at h
    · exact each_le hf l t u h
    · cases hx : f t x.2.1.toNat with
      | none => rw [hx] at h; cases h
      | some v =>
        rw [hx] at h
        exact (each_le hf l v u h).trans (hf _ _ _ hx)
theorem lvS_le {d : Dk} {l : Nat} {f : List UInt8 → Nat → Option (List UInt8)} (hf : ∀ t a u, f t a = some u → LeT u t) (t : List UInt8) (a : Nat) (u : List UInt8) (h : lvS d l f t a = some u) : LeT u t := by
  unfold lvS at h
  cases hd : dnO t a with
  | none => rw [hd] at h; cases h
  | some v =>
    rw [hd] at h
    have h' : (if 1 < (t[a]?.getD 0).toNat then some v else if reN (seenD d a) = 0 ∧ (reV (seenD d a)).1 = (l : Int) then eachO f v (reV (seenD d a)).2 else none) = some u := h
    have hv := (dnO_some hd).2.2.1
    split at h'
    · cases h'; exact hv
    · split at h'
      · exact (each_le hf _ _ _ h').trans hv
      · cases h'
theorem lvF_le (d : Dk) : ∀ (l : Nat) (t : List UInt8) (a : Nat) (u : List UInt8), lvF d l t a = some u → LeT u t
  | 0, _, _, _, h => (dnO_some h).2.2.1
  | l + 1, t, a, u, h => lvS_le (lvF_le d l) t a u h
/-- What a leave leaves. -/
theorem lf_some {d : Dk} {t u : List UInt8} {a : Nat} (h : lfO d t a = some u) : t[a]?.getD 0 ≠ 0 ∧ LeT u t ∧ (u[a]?.getD 0).toNat + 1 ≤ (t[a]?.getD 0).toNat ∧ (1 < (t[a]?.getD 0).toNat → u = t.set a (t[a]?.getD 0 - 1)) := by
  unfold lfO at h
  cases hd : dnO t a with
  | none => rw [hd] at h; cases h
  | some v =>
    rw [hd] at h
    have h' : (if 1 < (t[a]?.getD 0).toNat then some v else if reN (seenD d a) = 0 then eachO (lvF d (reV (seenD d a)).1.toNat) v (reV (seenD d a)).2 else none) = some u := h
    obtain ⟨h1, h2, hv, h3⟩ := dnO_some hd
    split at h'
    · cases h'
      exact ⟨h1, hv, by omega, fun _ => h2⟩
    · rename_i hn
      split at h'
      · have := each_le (lvF_le d _) _ _ _ h'
        have h4 := this.le a
        exact ⟨h1, this.trans hv, by omega, fun hc => absurd hc hn⟩
      · cases h'
theorem LeT.may {u t : List UInt8} (h : LeT u t) (hm : mayT t = true) : mayT u = true :=
  mayT_yes (by rw [h.len]; exact mayT_len hm) fun j hj => by
    have h1 := h.le j
    rw [mayT_at hm hj] at h1
    exact nat_zero.1 (by simpa using h1)
/-- Each that has more than one is one less, whatever it is. -/
def Many (f : List UInt8 → Nat → Option (List UInt8)) : Prop := ∀ t a, 1 < (t[a]?.getD 0).toNat → f t a = some (t.set a (t[a]?.getD 0 - 1))
theorem dnO_yes {t : List UInt8} {a : Nat} (h : t[a]?.getD 0 ≠ 0) : dnO t a = some (t.set a (t[a]?.getD 0 - 1)) := by rw [dnO, if_neg h]
theorem not_zero {x : UInt8} (h : 1 < x.toNat) : x ≠ 0 := fun e => by
  rw [nat_zero.2 e] at h
  omega
theorem lvF_many (d : Dk) : ∀ l, Many (lvF d l)
  | 0 => fun t a h => dnO_yes (not_zero h)
  | l + 1 => fun t a h => by
    show lvS d l (lvF d l) t a = _
    unfold lvS
    rw [dnO_yes (not_zero h)]
    show (if 1 < (t[a]?.getD 0).toNat then _ else _) = _
    rw [if_pos h]
/-- What was counted, and is left: it is as it was. -/
theorem each_back {f : List UInt8 → Nat → Option (List UInt8)} (hf : Many f) : ∀ (l : List It) (u v : List UInt8), refsOk l → u.length = 256 → v.length = 256 → (∀ i, (u[i]?.getD 0).toNat = (v[i]?.getD 0).toNat + cntR l i) → (∀ i, cntR l i ≠ 0 → v[i]?.getD 0 ≠ 0) → eachO f u l = some v
  | [], u, v, _, h1, h2, h, _ => congrArg some (list_same (by omega) h)
  | x :: l, u, v, hr, h1, h2, h, h' => by
    obtain ⟨r1, r2⟩ := refs_cons hr
    unfold eachO
    rcases r1 with r1 | ⟨k, r1, h8, h256⟩
    · rw [if_pos r1]
      exact each_back hf l u v r2 h1 h2 (fun i => by rw [h i, cntR_zero r1]) (fun i hi => h' i (by rwa [cntR_zero r1]))
    · have e0 : ¬ x.2.1 = 0 := by omega
      have ek : x.2.1.toNat = k := by omega
      have hk := h k
      rw [cntR_here r1 h8, if_pos rfl] at hk
      have hv := h' k (by rw [cntR_here r1 h8, if_pos rfl]; omega)
      have hv' : (v[k]?.getD 0).toNat ≠ 0 := fun e => hv (nat_zero.1 e)
      have hu : 1 < (u[k]?.getD 0).toNat := by omega
      rw [if_neg e0, ek, hf u k hu]
      show eachO f (u.set k (u[k]?.getD 0 - 1)) l = some v
      refine each_back hf l _ v r2 (by rw [List.length_set, h1]) h2 (fun i => ?_) (fun i hi => h' i (by rw [cntR_here r1 h8]; omega))
      by_cases e : i = k
      · subst e
        rw [set_get (by omega)]
        have := dn_nat (not_zero hu)
        omega
      · rw [set_other e, h i, cntR_here r1 h8, if_neg e]
        omega
/-- A node that is there once, whose Refs are counted: it is left. -/
theorem lf_back {d : Dk} {u v : List UInt8} {k : Nat} {n : Nd} (hb : seenD d k = blkN n) (hn : mayN n = true) (hi : InN n) (h1 : u.length = 256) (h2 : v.length = 256) (hk : k < 256) (hu : u[k]?.getD 0 = 1) (hv : v[k]?.getD 0 = 0) (hz : cntR n.2 k = 0)
    (h : ∀ i, i ≠ k → (u[i]?.getD 0).toNat = (v[i]?.getD 0).toNat + cntR n.2 i) (h' : ∀ i, cntR n.2 i ≠ 0 → v[i]?.getD 0 ≠ 0) : lfO d u k = some v := by
  obtain ⟨r1, r2⟩ := read_blkN hn hi
  unfold lfO
  rw [dnO_yes (by rw [hu]; decide), hu, hb, r1, r2]
  show eachO (lvF d n.1.toNat) (u.set k (1 - 1)) n.2 = some v
  refine each_back (lvF_many d _) n.2 _ v (refs_may hn) (by rw [List.length_set, h1]) h2 (fun i => ?_) h'
  by_cases e : i = k
  · subst e
    rw [set_get (by omega), hv, hz]
    rfl
  · rw [set_other e, h i e]

/-! ### What follows -/
theorem as_yes {s : Rm} {k : Nat} (hm : mayR s = true) (h8 : 8 ≤ k) (h : k < 256) (hx : s.2.1[k]?.getD 0 ≠ 0) : asE s k = 0 := by
  have hin := inT_of h8 h
  have h1 : ¬ s.2.1[((k : Int)).toNat]?.getD 0 = 0 := by
    rw [show ((k : Int)).toNat = k by omega]
    exact hx
  rw [asE, hm, if_pos rfl, hin, if_pos rfl, if_neg h1]
theorem lv_yes {s : Rm} {k : Nat} {v : List UInt8} (ha : asE s k = 0) (hf : lfO s.1 s.2.1 k = some v) : lvE s k = 0 ∧ lvV s k = (s.1, v, s.2.2) := by
  constructor
  · rw [lvE, if_pos ha, show ((k : Int)).toNat = k by omega, hf]
  · rw [lvV, if_pos ha, show ((k : Int)).toNat = k by omega, hf]
theorem rm_yes {s : Rm} {k : Nat} {n : Nd} (ha : asE s k = 0) (hb : seenD s.1 k = blkN n) (hn : mayN n = true) (hi : InN n) : rmE s k = 0 ∧ rmV s k = n := by
  obtain ⟨r1, r2⟩ := read_blkN hn hi
  constructor
  · rw [rmE, if_pos ha, show ((k : Int)).toNat = k by omega, hb, r1]
  · rw [rmV, if_pos ha, show ((k : Int)).toNat = k by omega, hb, r2]
/-- What is made, and then left. -/
theorem mk_left {s : Rm} {n : Nd} (hi : InN n) (h : mkE s n = 0) : ∃ k : Nat, mkN s n = k ∧ 8 ≤ k ∧ k < 256 ∧ s.2.1[k]?.getD 0 = 0 ∧ s.2.2[k]?.getD 0 = 0 ∧ rmE (mkV s n) k = 0 ∧ rmV (mkV s n) k = n ∧ lvE (mkV s n) k = 0 ∧ lvV (mkV s n) k = (wrD s.1 k (blkN n), s.2.1, s.2.2) := by
  obtain ⟨_, hn, _⟩ := mk_ok h
  obtain ⟨k, e1, h8, h256, hz, hz2, hc, hV, hm, c1, c2, c3, hl, hl0⟩ := mk_counts h
  have ha : asE (mkV s n) k = 0 := as_yes hm h8 h256 (by rw [c1]; decide)
  have hb : seenD (mkV s n).1 k = blkN n := by rw [hV]; exact seenD_write
  have hf : lfO (mkV s n).1 (mkV s n).2.1 k = some s.2.1 := lf_back (n := n) hb hn hi hl hl0 h256 c1 hz hc c2 c3
  obtain ⟨r1, r2⟩ := rm_yes ha hb hn hi
  obtain ⟨l1, l2⟩ := lv_yes ha hf
  exact ⟨k, e1, h8, h256, hz, hz2, r1, r2, l1, by rw [l2, hV]⟩
end Go.Proofs.YtogieepfimpdmaaGreat

/-
  Trees that stay where other blocks are taken, or counts rise; plain. Conditions: those that each lemma states.
-/
namespace Go.Proofs.YtogieepfimpdmaaGreat
open Go.RowKit

/-- What is referred to is so still, and its block stays. -/
structure KeepR (s t : Rm) : Prop where
  may : mayR t = true
  held : ∀ k : Nat, s.2.1[k]?.getD 0 ≠ 0 → t.2.1[k]?.getD 0 ≠ 0
  seen : ∀ k : Nat, s.2.1[k]?.getD 0 ≠ 0 → seenD t.1 k = seenD s.1 k
theorem keep_node {s t : Rm} (h : KeepR s t) {a : Int} (ha : asE s a = 0) : asE t a = 0 ∧ rmE t a = rmE s a ∧ rmV t a = rmV s a := by
  obtain ⟨k, rfl, hm, h8, h256, _, _, hE, hV, hx⟩ := as_read ha
  have ht : asE t (k : Int) = 0 := as_yes h.may h8 h256 (h.held k hx)
  refine ⟨ht, ?_, ?_⟩
  · rw [hE, rmE, if_pos ht, show ((k : Int)).toNat = k by omega, h.seen k hx]
  · rw [hV, rmV, if_pos ht, show ((k : Int)).toNat = k by omega, h.seen k hx]
theorem keep_leaf {s t : Rm} (h : KeepR s t) {l : List It} (hl : leafO s l = true) : leafO t l = true := by
  unfold leafO at hl ⊢
  rw [List.all_eq_true] at hl ⊢
  intro x hx
  have h1 := hl x hx
  simp only [Bool.or_eq_true, decide_eq_true_eq] at h1 ⊢
  exact h1.imp id (h.held _)
theorem its_mono {f g : Int → Ky → Ky → Bool → Bool} (h : ∀ a k tb e, f a k tb e = true → g a k tb e = true) : ∀ (l : List It) (tb : Ky) (e : Bool), itsO f l tb e = true → itsO g l tb e = true
  | [], _, _, _ => rfl
  | x :: r, tb, e, hf => by
    rw [its_cons, Bool.and_eq_true] at hf ⊢
    exact ⟨h _ _ _ _ hf.1, its_mono h r tb e hf.2⟩
theorem its_mem {f : Int → Ky → Ky → Bool → Bool} : ∀ {l : List It} {tb : Ky} {e : Bool}, itsO f l tb e = true → ∀ x ∈ l, ∃ t e, f x.2.1 x.1 t e = true
  | [], _, _, _, x, hx => by simp at hx
  | y :: r, tb, e, hf, x, hx => by
    rw [its_cons, Bool.and_eq_true] at hf
    rcases List.mem_cons.1 hx with rfl | hx
    · exact ⟨_, _, hf.1⟩
    · exact its_mem hf.2 x hx
theorem flat_same {g g' : Int → List It} : ∀ {l : List It}, (∀ x ∈ l, g x.2.1 = g' x.2.1) → l.flatMap (fun x => g x.2.1) = l.flatMap fun x => g' x.2.1
  | [], _ => rfl
  | x :: r, h => by
    rw [List.flatMap_cons, List.flatMap_cons, h x List.mem_cons_self, flat_same fun y hy => h y (List.mem_cons_of_mem _ hy)]
theorem keep_right {s t : Rm} (h : KeepR s t) : ∀ (l : Nat) (a : Int) (k tb : Ky) (e : Bool), rightO s l a k tb e = true → rightO t l a k tb e = true ∧ itsT t l a = itsT s l a ∧ ∀ q, oneO t l a q = oneO s l a q
  | 0, a, k, tb, e, hr => by
    obtain ⟨h1, h2, h3, h4⟩ := right_of hr
    obtain ⟨_, k1, k2⟩ := keep_node h (rm_may h1).2
    refine ⟨?_, by unfold itsT; rw [k2], fun q => by unfold oneO; rw [k2]⟩
    unfold rightO
    rw [k1, k2, h1, h2, h3, keep_leaf h h4]
    rfl
  | l + 1, a, k, tb, e, hr => by
    obtain ⟨h1, h2, h3, h4⟩ := right_of hr
    obtain ⟨_, k1, k2⟩ := keep_node h (rm_may h1).2
    have hm := its_mem h4
    refine ⟨?_, ?_, fun q => ?_⟩
    · unfold rightO
      rw [k1, k2, h1, h2, h3, its_mono (fun a k tb e hf => (keep_right h l a k tb e hf).1) _ _ _ h4]
      simp
    · unfold itsT
      rw [k2]
      exact flat_same fun x hx => by
        obtain ⟨t', e', hf⟩ := hm x hx
        exact (keep_right h l _ _ _ _ hf).2.1
    · unfold oneO
      rw [k2]
      cases hf : (rmV s a).2.reverse.find? (fun x => !lessK q x.1) with
      | none => rfl
      | some y =>
        obtain ⟨t', e', hf'⟩ := hm y (List.mem_reverse.1 (List.mem_of_find?_eq_some hf))
        exact (keep_right h l _ _ _ _ hf').2.2 q
end Go.Proofs.YtogieepfimpdmaaGreat

/-
  Trees by their first and last keys, plain: which may be. Conditions: those that each lemma states.
-/
namespace Go.Proofs.YtogieepfimpdmaaGreat
open Go.RowKit

/-- Parts side by side: each begins at its item's key and ends ahead of the next one's. -/
def chainO (g : Int → Option (Ky × Ky)) : List It → Option (Ky × Ky)
  | [] => none
  | [x] => (g x.2.1).bind fun p => if p.1 = x.1 then some p else none
  | x :: y :: r => (g x.2.1).bind fun p => (chainO g (y :: r)).bind fun q => if p.1 = x.1 ∧ lessK p.2 y.1 = true then some (p.1, q.2) else none
/-- The first key and the last one of a part of a tree that may be. -/
noncomputable def spanO (s : Rm) : Nat → Int → Option (Ky × Ky)
  | 0, a => if rmE s a = 0 ∧ (rmV s a).1 = 0 ∧ leafO s (rmV s a).2 = true then ((rmV s a).2[0]?).bind fun x => ((rmV s a).2.getLast?).map fun y => (x.1, y.1) else none
  | l + 1, a => if rmE s a = 0 ∧ (rmV s a).1 = ((l + 1 : Nat) : Int) then chainO (spanO s l) (rmV s a).2 else none

def LeK (a b : Ky) : Prop := a = b ∨ lessK a b = true
theorem LeK.lt {a b c : Ky} (h : LeK a b) (h' : lessK b c = true) : lessK a c = true := h.elim (fun e => by rw [e]; exact h') fun h => less_trans h h'
theorem LeK.trans {a b c : Ky} (h : LeK a b) (h' : LeK b c) : LeK a c := h'.elim (fun e => e ▸ h) fun h' => .inr (h.lt h')
theorem chain_first {g : Int → Option (Ky × Ky)} (hg : ∀ a p, g a = some p → LeK p.1 p.2) : ∀ {l : List It} {p : Ky × Ky}, chainO g l = some p → LeK p.1 p.2 ∧ ∃ x r, l = x :: r ∧ p.1 = x.1
  | [], _, h => by cases h
  | [x], p, h => by
    unfold chainO at h
    cases hx : g x.2.1 with
    | none => rw [hx] at h; cases h
    | some q =>
      rw [hx] at h
      have h' : (if q.1 = x.1 then some q else none) = some p := h
      split at h'
      · rename_i e
        cases h'
        exact ⟨hg _ _ hx, x, [], rfl, e⟩
      · cases h'
  | x :: y :: r, p, h => by
    unfold chainO at h
    cases hx : g x.2.1 with
    | none => rw [hx] at h; cases h
    | some q =>
      rw [hx] at h
      cases hc : chainO g (y :: r) with
      | none => rw [hc] at h; cases h
      | some q' =>
        rw [hc] at h
        have h' : (if q.1 = x.1 ∧ lessK q.2 y.1 = true then some (q.1, q'.2) else none) = some p := h
        obtain ⟨i1, y', r', e', i2⟩ := chain_first hg hc
        cases e'
        split at h'
        · rename_i e
          cases h'
          refine ⟨.inr ?_, x, y :: r, rfl, e.1⟩
          have h1 : lessK q.1 y.1 = true := (hg _ _ hx).lt e.2
          rw [← i2] at h1
          exact i1.elim (fun e => e ▸ h1) fun h2 => less_trans h1 h2
        · cases h'
theorem span_le (s : Rm) : ∀ (l : Nat) (a : Int) (p : Ky × Ky), spanO s l a = some p → LeK p.1 p.2
  | 0, a, p, h => by
    unfold spanO at h
    split at h
    · rename_i hc
      have hu := up_may (rm_may hc.1).1
      cases hl : (rmV s a).2 with
      | nil => rw [hl] at h; cases h
      | cons x r =>
        rw [hl] at h hu
        cases hz : (x :: r).getLast? with
        | none => rw [hz] at h; cases h
        | some z =>
          rw [hz] at h
          cases h
          rcases up_first hu z (List.mem_of_getLast? hz) with e | e
          · exact .inl e.symm
          · exact .inr e
    · cases h
  | l + 1, a, p, h => by
    unfold spanO at h
    split at h
    · exact (chain_first (span_le s l) h).1
    · cases h
theorem its_chain {f : Int → Ky → Ky → Bool → Bool} {g : Int → Option (Ky × Ky)} (hle : ∀ a p, g a = some p → LeK p.1 p.2) (hfg : ∀ a k tb e, f a k tb e = true ↔ ∃ t, g a = some (k, t) ∧ (e = true → lessK t tb = true)) : ∀ (l : List It) (tb : Ky) (e : Bool), l ≠ [] →
    (itsO f l tb e = true ↔ ∃ p, chainO g l = some p ∧ (e = true → lessK p.2 tb = true))
  | [], _, _, h => absurd rfl h
  | [x], tb, e, _ => by
    show f x.2.1 x.1 tb e = true ↔ _
    rw [hfg]
    unfold chainO
    constructor
    · rintro ⟨t, h1, h2⟩
      exact ⟨(x.1, t), by rw [h1]; simp, h2⟩
    · rintro ⟨p, h1, h2⟩
      cases hx : g x.2.1 with
      | none => rw [hx] at h1; cases h1
      | some q =>
        rw [hx] at h1
        have h' : (if q.1 = x.1 then some q else none) = some p := h1
        split at h'
        · rename_i e1
          cases h'
          exact ⟨p.2, by rw [← e1], h2⟩
        · cases h'
  | x :: y :: r, tb, e, _ => by
    have ih := its_chain hle hfg (y :: r) tb e (by simp)
    show (f x.2.1 x.1 y.1 true && itsO f (y :: r) tb e) = true ↔ _
    rw [Bool.and_eq_true, hfg, ih]
    constructor
    · rintro ⟨⟨t, h1, h2⟩, p, h3, h4⟩
      refine ⟨(x.1, p.2), ?_, h4⟩
      unfold chainO
      rw [h1, h3]
      simp [h2 rfl]
    · rintro ⟨p, h1, h2⟩
      unfold chainO at h1
      cases hx : g x.2.1 with
      | none => rw [hx] at h1; cases h1
      | some q =>
        rw [hx] at h1
        cases hc : chainO g (y :: r) with
        | none => rw [hc] at h1; cases h1
        | some q' =>
          rw [hc] at h1
          have h' : (if q.1 = x.1 ∧ lessK q.2 y.1 = true then some (q.1, q'.2) else none) = some p := h1
          split at h'
          · rename_i e1
            cases h'
            exact ⟨⟨q.2, by rw [← e1.1], fun _ => e1.2⟩, q', rfl, h2⟩
          · cases h'
/-- A part of a tree that may be, by its first key and its last one. -/
theorem right_span (s : Rm) : ∀ (l : Nat) (a : Int) (k tb : Ky) (e : Bool), rightO s l a k tb e = true ↔ ∃ t, spanO s l a = some (k, t) ∧ (e = true → lessK t tb = true)
  | 0, a, k, tb, e => by
    constructor
    · intro h
      obtain ⟨h1, h2, h3, h4⟩ := right_of h
      obtain ⟨x, r, hl, ek, hz⟩ := head_of h3
      obtain ⟨z, hz1⟩ : ∃ z, (rmV s a).2.getLast? = some z := by
        rw [hl]
        exact ⟨_, List.getLast?_eq_some_getLast (by simp)⟩
      refine ⟨z.1, ?_, fun he => ?_⟩
      · unfold spanO
        rw [if_pos ⟨h1, h2, h4⟩, hz1, show (rmV s a).2[0]? = some x by rw [hl]; rfl, ← ek]
        rfl
      · obtain ⟨z', e1, e2⟩ := hz he
        rw [hz1] at e1
        cases e1
        exact e2
    · rintro ⟨t, h1, h2⟩
      unfold spanO at h1
      split at h1
      · rename_i hc
        unfold rightO
        cases hx : (rmV s a).2[0]? with
        | none => rw [hx] at h1; cases h1
        | some x =>
          cases hz : (rmV s a).2.getLast? with
          | none => rw [hx, hz] at h1; cases h1
          | some z =>
            rw [hx, hz] at h1
            have h1' : (some (x.1, z.1) : Option (Ky × Ky)) = some (k, t) := h1
            simp only [Option.some.injEq, Prod.mk.injEq] at h1'
            have hh : headO (rmV s a).2 k tb e = true := by
              unfold headO
              rw [hx, hz]
              cases e with
              | false => simp [h1'.1]
              | true => simp [h1'.1, h1'.2, h2 rfl]
            rw [hc.1, hc.2.1, hc.2.2, hh]
            decide
      · cases h1
  | l + 1, a, k, tb, e => by
    have hc := its_chain (span_le s l) (fun a k tb e => right_span s l a k tb e) (rmV s a).2 tb e
    constructor
    · intro h
      obtain ⟨h1, h2, h3, h4⟩ := right_of h
      obtain ⟨x, r, hl, ek, _⟩ := head_of h3
      obtain ⟨p, hp, hb⟩ := (hc (by rw [hl]; simp)).1 h4
      obtain ⟨_, x', r', e', hf⟩ := chain_first (span_le s l) hp
      rw [hl] at e'
      cases e'
      refine ⟨p.2, ?_, hb⟩
      unfold spanO
      rw [if_pos ⟨h1, h2⟩, hp, ← ek, ← hf]
    · rintro ⟨t, h1, h2⟩
      unfold spanO at h1
      split at h1
      · rename_i hcond
        obtain ⟨_, x, r, hl, hf⟩ := chain_first (span_le s l) h1
        have hi := (hc (by rw [hl]; simp)).2 ⟨(k, t), h1, h2⟩
        have hh : headO (rmV s a).2 k tb e = true := by
          cases e with
          | false =>
            unfold headO
            rw [hl]
            simp [← hf]
          | true =>
            obtain ⟨x', r', e', hp⟩ := part_its (right_part s l) (rmV s a).2 tb true (by rw [hl]; simp) hi
            obtain ⟨z, hz1⟩ : ∃ z, (rmV s a).2.getLast? = some z := by
              rw [hl]
              exact ⟨_, List.getLast?_eq_some_getLast (by simp)⟩
            -- the last item's own part begins at its key, ahead of the bound
            obtain ⟨t', e2, hf2⟩ := its_mem hi z (List.mem_of_getLast? hz1)
            obtain ⟨y, r2, ey, ky⟩ := (right_part s l _ _ _ _ hf2).first
            have hy := hp.bound rfl y (List.mem_flatMap.2 ⟨z, List.mem_of_getLast? hz1, by rw [ey]; simp⟩)
            rw [ky] at hy
            unfold headO
            rw [hz1, show (rmV s a).2[0]? = some x by rw [hl]; rfl]
            simp [← hf, hy]
        unfold rightO
        rw [hcond.1, hcond.2, hh, hi]
        simp
      · cases h1
/-- Which trees may be: a leaf, or parts side by side. -/
theorem tree_span (s : Rm) (a : Int) : treeO s a = true ↔ rmE s a = 0 ∧ (match (rmV s a).1.toNat with | 0 => leafO s (rmV s a).2 = true | l + 1 => ∃ p, chainO (spanO s l) (rmV s a).2 = some p) := by
  constructor
  · intro h
    obtain ⟨h1, _, hm, l0, _, hi⟩ := tree_of h
    refine ⟨h1, ?_⟩
    unfold innerO at hi
    cases hl : (rmV s a).1.toNat with
    | zero => rw [hl] at hi; exact hi
    | succ l =>
      rw [hl] at hi
      have hne : (rmV s a).2 ≠ [] := fun e => by
        have := (mayN_of hm).1.2.2.2 (by omega)
        rw [e] at this
        simp at this
      obtain ⟨p, hp, _⟩ := (its_chain (span_le s l) (fun a k tb e => right_span s l a k tb e) _ keyZ false hne).1 hi
      exact ⟨p, hp⟩
  · rintro ⟨h1, h2⟩
    unfold treeO
    rw [h1]
    unfold innerO
    cases hl : (rmV s a).1.toNat with
    | zero => rw [hl] at h2; simp only [h2]; rfl
    | succ l =>
      rw [hl] at h2
      obtain ⟨p, hp⟩ := h2
      obtain ⟨_, x, r, e, _⟩ := chain_first (span_le s l) hp
      have := (its_chain (span_le s l) (fun a k tb e => right_span s l a k tb e) (rmV s a).2 keyZ false (by rw [e]; simp)).2 ⟨p, hp, fun h => by cases h⟩
      simp only [this]
      rfl
end Go.Proofs.YtogieepfimpdmaaGreat

/-
  Bytes of the call's own that are turned where they lie; what lies elsewhere stays. Facts on items whose cells lie in a range that does not move. Conditions: those that each lemma states.
-/
namespace Go.Proofs.YtogieepfimpdmaaGreat
open Go.RowKit

structure Turnt (lo hi : Nat) (w wr : World) : Prop where
  sp : Spoilt lo w wr
  keep : ∀ k, hi ≤ k → wr.heap[k]? = w.heap[k]?
theorem Turnt.refl (lo hi : Nat) (w : World) : Turnt lo hi w w := ⟨Spoilt.refl _ _, fun _ _ => rfl⟩
theorem Turnt.step {lo hi : Nat} {w wr : World} (h : Turnt lo hi w wr) {p : Addr} (hp : lo ≤ p.block) (hp' : p.block < hi) {x : UInt8} (hx : wr.cell? p = some (.int .u8 (x.toNat : Int))) (y : UInt8) : Turnt lo hi w (wr.setCell p (.int .u8 (y.toNat : Int))) :=
  ⟨h.sp.step hp hx y, fun k hk => (Below.heap_setCell wr p _ k (by omega)).trans (h.keep k hk)⟩
theorem Turnt.drew {lo hi : Nat} {w wr : World} (h : Turnt lo hi w wr) : Turnt lo hi w wr.drew := ⟨h.sp.drew, h.keep⟩
theorem Turnt.block {lo hi : Nat} {w wr : World} (h : Turnt lo hi w wr) {k : Nat} (hk : k < lo ∨ hi ≤ k) : wr.heap[k]? = w.heap[k]? := by
  rcases hk with hk | hk
  · exact h.sp.low.block k hk
  · exact h.keep k hk
theorem Turnt.cell {lo hi : Nat} {w wr : World} (h : Turnt lo hi w wr) {p : Addr} (hk : p.block < lo ∨ hi ≤ p.block) : wr.cell? p = w.cell? p := World.cell?_of_block (h.block hk)
/-- Facts whose cells lie in a range that does not move. -/
def OnI (ok : Addr → Prop) (v : Value) (s : It) : World → Prop := fun w => Itm ok w v s
def OnB (ok : Addr → Prop) (v : Value) (xs : List UInt8) : World → Prop := fun w => rBy ok w [v] xs
theorem OnI.old {ok : Addr → Prop} {v : Value} {s : It} {w : World} (h : OnI ok v s w) : Itm (Old w) w v s := Itm.map (fun p _ _ hc => ⟨World.block_lt_of_cell? w p hc, hc⟩) h
theorem OnB.old {ok : Addr → Prop} {v : Value} {xs : List UInt8} {w : World} (h : OnB ok v xs w) : rBy (Old w) w [v] xs := stab_by _ _ _ _ _ _ (fun p _ _ hc => ⟨World.block_lt_of_cell? w p hc, hc⟩) h
/-- Where the bytes of an item of the call's own lie. -/
def In (lo hi : Nat) : Addr → Prop := fun p => lo ≤ p.block ∧ p.block < hi
end Go.Proofs.YtogieepfimpdmaaGreat

/-
  A bag's facts on nodes; what places tell, plain. Conditions: those that each lemma states.
-/
namespace Go.Proofs.YtogieepfimpdmaaGreat
open Go.RowKit

theorem bag_node {w w1 : World} {Fs : List (World → Prop)} (h : Bag w Fs) (hb : Below w.heap.size w w1) (a b : Value) : ∃ w', w1.alloc (.cells #[a, b] 45) = w' ∧ Bag w' (Box2 w1.heap.size a b :: Fs) ∧ Below w.heap.size w w' ∧ Below w1.heap.size w1 w' ∧ w1.heap.size < w'.heap.size := by
  obtain ⟨w2, e2, b2, k4, k5⟩ := box_pair' w1 a b 45
  obtain ⟨k1, k2, _, k3⟩ := two_cells b2
  exact ⟨w2, e2, ((h.below hb).below k5).add ⟨k1, k2, k3⟩ (lasts_box _ _ _), hb.trans (k5.mono hb.size), k5, by omega⟩
def OldN (v : Value) (n : Nd) : World → Prop := fun w => Nod (Old w) w v n
theorem lasts_oldN (v : Value) (n : Nd) : Lasts (OldN v n) := fun _ _ h hb => h.below hb
def OldIs (v : Value) (l : List It) : World → Prop := fun w => rIts (Old w) w [v] l
theorem lasts_oldIs (v : Value) (l : List It) : Lasts (OldIs v l) := fun _ _ h hb => stab_its.old h hb

/-! ### Places -/
theorem cntK_all {l : List It} {k : Ky} : ∀ {i : Nat}, i ≤ l.length → (∀ j x, j < i → l[j]? = some x → lessK x.1 k = true) → cntK (l.take i) k = i
  | 0, _, _ => rfl
  | i + 1, hi, h => by
    have hx : l[i]? = some l[i] := List.getElem?_eq_getElem hi
    rw [cntK_yes hx (h i _ (by omega) hx), cntK_all (by omega) (fun j x hj => h j x (by omega))]
theorem cntK_up (l : List It) (k : Ky) (i : Nat) : cntK (l.take i) k ≤ cntK l k := by
  unfold cntK
  exact ((List.take_sublist i l).filter _).length_le
theorem cntK_stop {l : List It} {k : Ky} {i : Nat} (h : ∀ j x, i ≤ j → l[j]? = some x → lessK x.1 k = false) : cntK l k = cntK (l.take i) k := by
  have e : cntK l k = cntK (l.take i) k + cntK (l.drop i) k := by
    unfold cntK
    rw [← List.length_append, ← List.filter_append, List.take_append_drop]
  have z : cntK (l.drop i) k = 0 := by
    unfold cntK
    rw [List.length_eq_zero_iff, List.filter_eq_nil_iff]
    intro x hx
    obtain ⟨j, hj⟩ := List.mem_iff_getElem?.1 hx
    rw [List.getElem?_drop] at hj
    rw [h (i + j) x (by omega) hj]
    simp
  omega
theorem place_parts {n : Nd} (h : mayN n = true) {k : Ky} {i : Nat} {x : It} (hx : n.2[i]? = some x) : lessK x.1 k = decide (i < placeN n k) := by
  have hi := (List.getElem?_eq_some_iff.1 hx).1
  cases e : lessK x.1 k with
  | true =>
    have h1 : cntK (n.2.take (i + 1)) k = i + 1 := cntK_all (by omega) (fun j y hj hy => by
      rcases Nat.lt_or_ge j i with h2 | h2
      · exact less_trans (mayN_rises h h2 hy hx) e
      · obtain rfl : j = i := by omega
        rw [hx] at hy
        cases hy
        exact e)
    have h2 := cntK_up n.2 k (i + 1)
    have h3 : placeN n k = cntK n.2 k := rfl
    have : i < placeN n k := by omega
    simp [this]
  | false =>
    have h1 : cntK n.2 k = cntK (n.2.take i) k := cntK_stop (fun j y hj hy => by
      rcases Nat.lt_or_ge i j with h2 | h2
      · cases e2 : lessK y.1 k with
        | false => rfl
        | true =>
          have := less_trans (mayN_rises h h2 hx hy) e2
          rw [e] at this
          cases this
      · obtain rfl : i = j := by omega
        rw [hx] at hy
        cases hy
        exact e)
    have h2 := cntK_take n.2 k i
    have h3 : placeN n k = cntK n.2 k := rfl
    have : ¬ i < placeN n k := by omega
    simp [this]
theorem placeN_le (n : Nd) (k : Ky) : placeN n k ≤ n.2.length := cntK_le _ _
theorem place_own {n : Nd} (h : mayN n = true) {i : Nat} {x : It} (hx : n.2[i]? = some x) : placeN n x.1 = i ∧ thereN n x.1 = true := by
  have hi := (List.getElem?_eq_some_iff.1 hx).1
  have h1 : ¬ i < placeN n x.1 := fun h2 => by
    have := place_parts h (k := x.1) hx
    rw [less_self] at this
    simp [h2] at this
  have h2 : placeN n x.1 = i := by
    rcases Nat.eq_zero_or_pos i with h0 | h0
    · omega
    · obtain ⟨j, rfl⟩ : ∃ j, i = j + 1 := ⟨i - 1, by omega⟩
      have hy : n.2[j]? = some n.2[j] := List.getElem?_eq_getElem (by omega)
      have h3 := place_parts h (k := x.1) hy
      rw [mayN_rise h hy hx] at h3
      have : j < placeN n x.1 := by simpa using h3.symm
      omega
  exact ⟨h2, by rw [thereN_at (by rw [h2]; exact hx)]; simp⟩
end Go.Proofs.YtogieepfimpdmaaGreat

/-
  What is found, as package find and the document go down; parts of a tree by its node; plain. Conditions: those that each lemma states.
-/
namespace Go.Proofs.YtogieepfimpdmaaGreat
open Go.RowKit

/-! ### From the last one on -/
theorem rev_step {p : It → Bool} {l : List It} {k : Nat} {x : It} (hx : l[k]? = some x) : (l.take (k + 1)).reverse.find? p = if p x = true then some x else (l.take k).reverse.find? p := by
  have hk := (List.getElem?_eq_some_iff.1 hx).1
  have hg : l[k] = x := (List.getElem?_eq_some_iff.1 hx).2
  rw [← List.take_append_getElem hk, hg, List.reverse_append, List.reverse_singleton, List.singleton_append, List.find?_cons]
  cases p x <;> rfl
theorem rev_at {p : It → Bool} {l : List It} {j : Nat} {x : It} (hx : l[j]? = some x) (h1 : p x = true) (h2 : ∀ i y, j < i → l[i]? = some y → p y = false) : l.reverse.find? p = some x := by
  have e : l.reverse.find? p = (l.take (j + 1)).reverse.find? p := by
    conv => lhs; rw [← List.take_append_drop (j + 1) l, List.reverse_append, List.find?_append]
    rw [find_none (l := l.drop (j + 1)) fun y hy => by
      obtain ⟨i, hi⟩ := List.getElem?_of_mem hy
      rw [List.getElem?_drop] at hi
      exact h2 (j + 1 + i) y (by omega) hi]
    rfl
  rw [e, rev_step hx, if_pos h1]
theorem place_below {n : Nd} (h : mayN n = true) {k : Ky} {x : It} (ht : thereN n k = true) (hx : n.2[placeN n k]? = some x) : x.1 = k ∧ (n.2.reverse.find? fun x => !lessK k x.1) = some x ∧ (n.2.reverse.find? fun x => decide (x.1 = k)) = some x := by
  have e : x.1 = k := by
    rw [thereN_at hx] at ht
    simpa using ht
  have hup : ∀ i y, placeN n k < i → n.2[i]? = some y → lessK k y.1 = true := fun i y hi hy => by
    rw [← e]
    exact mayN_rises h hi hx hy
  refine ⟨e, rev_at hx (by rw [e, less_self]; rfl) fun i y hi hy => by rw [hup i y hi hy]; rfl, rev_at hx (by simpa using e) fun i y hi hy => ?_⟩
  have h1 := hup i y hi hy
  have : y.1 ≠ k := fun e2 => by rw [e2, less_self] at h1; cases h1
  simpa using this
theorem place_miss {n : Nd} (h : mayN n = true) {k : Ky} (ht : thereN n k = false) : (n.2.reverse.find? fun x => decide (x.1 = k)) = none := find_none fun x hx => by
  obtain ⟨i, hi⟩ := List.getElem?_of_mem hx
  have : x.1 ≠ k := fun e => by
    have := (place_own h hi).2
    rw [e, ht] at this
    cases this
  simpa using this
theorem place_behind {n : Nd} (h : mayN n = true) {k : Ky} (ht : thereN n k = false) {i : Nat} {y : It} (hi : placeN n k ≤ i) (hy : n.2[i]? = some y) : lessK k y.1 = true := by
  have h1 := place_parts h (k := k) hy
  rw [decide_eq_false (by omega)] at h1
  have hne : y.1 ≠ k := fun e => by
    have := (place_own h hy).2
    rw [e, ht] at this
    cases this
  exact less_total hne h1
theorem place_ahead {n : Nd} (h : mayN n = true) {k : Ky} {j : Nat} {x : It} (ht : thereN n k = false) (hj : placeN n k = j + 1) (hx : n.2[j]? = some x) : (n.2.reverse.find? fun x => !lessK k x.1) = some x := by
  have h1 := place_parts h (k := k) hx
  rw [decide_eq_true (by omega)] at h1
  refine rev_at hx (by rw [less_anti h1]; rfl) fun i y hi hy => ?_
  rw [place_behind h ht (by omega) hy]
  rfl
theorem place_none {n : Nd} (h : mayN n = true) {k : Ky} (ht : thereN n k = false) (hj : placeN n k = 0) : (n.2.reverse.find? fun x => !lessK k x.1) = none := find_none fun y hy => by
  obtain ⟨i, hi⟩ := List.getElem?_of_mem hy
  rw [place_behind h ht (by omega) hi]
  rfl
theorem place_in {n : Nd} {k : Ky} (ht : thereN n k = true) : placeN n k < n.2.length := by
  rcases Nat.lt_or_ge (placeN n k) n.2.length with h | h
  · exact h
  · rw [thereN_out h] at ht
    cases ht

/-! ### A node of a tree -/
structure AtT (s : Rm) (l : Nat) (a : Int) : Prop where
  ok : rmE s a = 0
  lvl : (rmV s a).1 = (l : Int)
  below : ∀ j, l = j + 1 → ∀ x ∈ (rmV s a).2, ∃ t e, rightO s j x.2.1 x.1 t e = true
theorem AtT.may {s : Rm} {l : Nat} {a : Int} (h : AtT s l a) : mayN (rmV s a) = true := (rm_may h.ok).1
theorem right_at {s : Rm} {l : Nat} {a : Int} {k tb : Ky} {e : Bool} (h : rightO s l a k tb e = true) : AtT s l a := by
  obtain ⟨h1, h2, _, h4⟩ := right_of h
  refine ⟨h1, h2, fun j hj x hx => ?_⟩
  subst hj
  exact its_mem h4 x hx
theorem AtT.down {s : Rm} {j : Nat} {a : Int} (h : AtT s (j + 1) a) {x : It} (hx : x ∈ (rmV s a).2) : AtT s j x.2.1 := by
  obtain ⟨t, e, hr⟩ := h.below j rfl x hx
  exact right_at hr
theorem tree_at {s : Rm} {a : Int} (h : treeO s a = true) : AtT s (rmV s a).1.toNat a := by
  obtain ⟨h1, _, _, l0, _, hi⟩ := tree_of h
  refine ⟨h1, by omega, fun j hj x hx => ?_⟩
  unfold innerO at hi
  rw [hj] at hi
  exact its_mem hi x hx
theorem oneO_zero (s : Rm) (a : Int) (k : Ky) : oneO s 0 a k = (rmV s a).2.reverse.find? fun x => decide (x.1 = k) := rfl
theorem oneO_succ (s : Rm) (l : Nat) (a : Int) (k : Ky) : oneO s (l + 1) a k = ((rmV s a).2.reverse.find? fun x => !lessK k x.1).bind fun x => oneO s l x.2.1 k := rfl

/-! ### Parts by their nodes -/
noncomputable def spanN (s : Rm) (n : Nd) : Option (Ky × Ky) := match n.1.toNat with
  | 0 => if leafO s n.2 = true then (n.2[0]?).bind fun x => (n.2.getLast?).map fun y => (x.1, y.1) else none
  | l + 1 => chainO (spanO s l) n.2
theorem span_node (s : Rm) (l : Nat) (a : Int) : spanO s l a = if rmE s a = 0 ∧ (rmV s a).1 = (l : Int) then spanN s (rmV s a) else none := by
  cases l with
  | zero =>
    unfold spanO
    by_cases h1 : rmE s a = 0 ∧ (rmV s a).1 = ((0 : Nat) : Int)
    · rw [if_pos h1]
      unfold spanN
      rw [h1.2]
      by_cases h2 : leafO s (rmV s a).2 = true
      · rw [if_pos ⟨h1.1, rfl, h2⟩]
        show _ = if leafO s (rmV s a).2 = true then _ else none
        rw [if_pos h2]
      · rw [if_neg (fun h => h2 h.2.2)]
        show _ = if leafO s (rmV s a).2 = true then _ else none
        rw [if_neg h2]
    · rw [if_neg h1, if_neg (fun h => h1 ⟨h.1, h.2.1⟩)]
  | succ l =>
    unfold spanO
    by_cases h1 : rmE s a = 0 ∧ (rmV s a).1 = ((l + 1 : Nat) : Int)
    · rw [if_pos h1, if_pos h1]
      unfold spanN
      rw [h1.2, show ((l + 1 : Nat) : Int).toNat = l + 1 by omega]
    · rw [if_neg h1, if_neg h1]
theorem span_zero {s : Rm} {n : Nd} {x y : It} {j : Nat} (h : n.1 = 0) (hx : n.2[0]? = some x) (hj : n.2.length = j + 1) (hy : n.2[j]? = some y) : spanN s n = if leafO s n.2 = true then some (x.1, y.1) else none := by
  have hl : n.2.getLast? = some y := by rw [List.getLast?_eq_getElem?, hj]; exact hy
  unfold spanN
  rw [h]
  show (if leafO s n.2 = true then _ else none) = _
  rw [hx, hl]
  rfl
theorem span_succ {s : Rm} {n : Nd} {l : Nat} (h : n.1 = ((l + 1 : Nat) : Int)) : spanN s n = chainO (spanO s l) n.2 := by
  unfold spanN
  rw [h, show ((l + 1 : Nat) : Int).toNat = l + 1 by omega]
/-- The first one. -/
theorem chain_one {g : Int → Option (Ky × Ky)} {l : List It} {x : It} (hx : l[0]? = some x) : chainO g (l.take 1) = (g x.2.1).bind fun p => if p.1 = x.1 then some p else none := by
  cases l with
  | nil => cases hx
  | cons y r =>
    cases hx
    rfl
theorem chain_app {g : Int → Option (Ky × Ky)} (x : It) : ∀ (l : List It), l ≠ [] → chainO g (l ++ [x]) = (chainO g l).bind fun q => (g x.2.1).bind fun p => if p.1 = x.1 ∧ lessK q.2 x.1 = true then some (q.1, p.2) else none
  | [], h => absurd rfl h
  | [y], _ => by
    show (g y.2.1).bind _ = _
    unfold chainO
    cases g y.2.1 with
    | none => rfl
    | some p =>
      show ((chainO g [x]).bind _) = ((if p.1 = y.1 then some p else none) : Option (Ky × Ky)).bind _
      unfold chainO
      cases g x.2.1 with
      | none =>
        by_cases h1 : p.1 = y.1 <;> simp [h1]
      | some q =>
        by_cases h1 : p.1 = y.1 <;> by_cases h2 : q.1 = x.1 <;> by_cases h3 : lessK p.2 x.1 = true <;> simp [h1, h2, h3]
  | y :: z :: r, _ => by
    have ih := chain_app (g := g) x (z :: r) (by simp)
    show (g y.2.1).bind (fun p => (chainO g (z :: r ++ [x])).bind _) = _
    rw [ih]
    conv => rhs; unfold chainO
    cases g y.2.1 with
    | none => rfl
    | some p =>
      cases chainO g (z :: r) with
      | none => rfl
      | some q =>
        cases g x.2.1 with
        | none =>
          by_cases h1 : p.1 = y.1 ∧ lessK p.2 z.1 = true <;> simp [h1]
        | some q' =>
          by_cases h1 : p.1 = y.1 ∧ lessK p.2 z.1 = true <;> by_cases h2 : q'.1 = x.1 ∧ lessK q.2 x.1 = true <;> simp [h1, h2]
theorem chain_take {g : Int → Option (Ky × Ky)} {l : List It} {k : Nat} {x : It} (hx : l[k]? = some x) (hk : 0 < k) : chainO g (l.take (k + 1)) = (chainO g (l.take k)).bind fun q => (g x.2.1).bind fun p => if p.1 = x.1 ∧ lessK q.2 x.1 = true then some (q.1, p.2) else none := by
  have hl := (List.getElem?_eq_some_iff.1 hx).1
  have hg : l[k] = x := (List.getElem?_eq_some_iff.1 hx).2
  rw [← List.take_append_getElem hl, hg]
  exact chain_app x _ fun e => by
    have h0 : (l.take k).length = 0 := by rw [e]; rfl
    rw [List.length_take] at h0
    omega
theorem chain_bad {g : Int → Option (Ky × Ky)} {l : List It} : ∀ {k : Nat}, 0 < k → chainO g (l.take k) = none → chainO g l = none := fun {k} hk h => by
  induction hn : l.length - k generalizing k with
  | zero => rwa [List.take_of_length_le (by omega)] at h
  | succ n ih =>
    obtain ⟨x, hx⟩ : ∃ x, l[k]? = some x := ⟨_, List.getElem?_eq_getElem (by omega)⟩
    exact ih (k := k + 1) (by omega) (by rw [chain_take hx hk, h]; rfl) (by omega)
/-- The first key of a chain. -/
theorem chain_key {g : Int → Option (Ky × Ky)} {l : List It} {x : It} (hx : l[0]? = some x) : ∀ {k : Nat} {q : Ky × Ky}, 0 < k → k ≤ l.length → chainO g (l.take k) = some q → q.1 = x.1 := fun {k} {q} hk hl h => by
  induction k generalizing q with
  | zero => omega
  | succ k ih =>
    by_cases h0 : k = 0
    · subst h0
      rw [chain_one hx] at h
      cases hg : g x.2.1 with
      | none => rw [hg] at h; cases h
      | some p =>
        rw [hg] at h
        have h' : (if p.1 = x.1 then some p else none) = some q := h
        split at h'
        · rename_i e; cases h'; exact e
        · cases h'
    · obtain ⟨y, hy⟩ : ∃ y, l[k]? = some y := ⟨_, List.getElem?_eq_getElem (by omega)⟩
      rw [chain_take hy (by omega)] at h
      cases hc : chainO g (l.take k) with
      | none => rw [hc] at h; cases h
      | some q' =>
        have e := ih (by omega) (by omega) hc
        rw [hc] at h
        cases hg : g y.2.1 with
        | none => rw [hg] at h; cases h
        | some p =>
          rw [hg] at h
          have h' : (if p.1 = y.1 ∧ lessK q'.2 y.1 = true then some (q'.1, p.2) else none) = some q := h
          split at h'
          · cases h'; exact e
          · cases h'
/-- Which trees may be, as package find tells it. -/
noncomputable def standsN (s : Rm) (n : Nd) : Bool := decide (n.2.length = 0) || (spanN s n).isSome
theorem stands_tree {s : Rm} {a : Int} (h : rmE s a = 0) : standsN s (rmV s a) = treeO s a := by
  have hm := (rm_may h).1
  have hsh := (mayN_of hm).1
  have e : treeO s a = true ↔ standsN s (rmV s a) = true := by
    rw [tree_span]
    unfold standsN
    rw [Bool.or_eq_true, decide_eq_true_eq]
    cases hl : (rmV s a).1.toNat with
    | zero =>
      have h0 : (rmV s a).1 = 0 := by omega
      simp only
      by_cases hz : (rmV s a).2.length = 0
      · have : (rmV s a).2 = [] := List.eq_nil_of_length_eq_zero hz
        rw [this]
        simp [h, leafO]
      · obtain ⟨j, hj⟩ : ∃ j, (rmV s a).2.length = j + 1 := ⟨(rmV s a).2.length - 1, by omega⟩
        obtain ⟨x, hx⟩ : ∃ x, (rmV s a).2[0]? = some x := ⟨_, List.getElem?_eq_getElem (by omega)⟩
        obtain ⟨y, hy⟩ : ∃ y, (rmV s a).2[j]? = some y := ⟨_, List.getElem?_eq_getElem (by omega)⟩
        rw [span_zero h0 hx hj hy]
        by_cases h2 : leafO s (rmV s a).2 = true <;> simp [h, h2, hz]
    | succ l =>
      have h1 : (rmV s a).1 = ((l + 1 : Nat) : Int) := by omega
      have hz : ¬ (rmV s a).2.length = 0 := by have := hsh.2.2.2 (by omega); omega
      rw [span_succ h1]
      simp only
      constructor
      · rintro ⟨_, p, hp⟩
        rw [hp]
        exact .inr rfl
      · rintro (h3 | h3)
        · exact absurd h3 hz
        · exact ⟨h, Option.isSome_iff_exists.1 h3⟩
  cases h1 : treeO s a with
  | true => exact e.1 h1
  | false =>
    cases h2 : standsN s (rmV s a) with
    | false => rfl
    | true => rw [e.2 h2] at h1; cases h1
end Go.Proofs.YtogieepfimpdmaaGreat
