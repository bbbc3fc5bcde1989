/-
  Lemmas on the program and on the document's answers, gathered: Own, SupSame, RefSame, LaySort, Gather, Seen, DevRead, DevWrite, DevBarrier, DevCrash, Alive03, Gen03, RefWith, RefRead, RefSettled, RefBarrier, RefKept, RefCrash, RefWrite, Push, RefNew, RefTwin, Spoil, All03, Get, SumSeal, Ref01, Ref02, RefBlk, Concat, Total02. Conditions: those that each lemma states.
-/
import Derived.Test.YtdcgcnnofjekaaaBnd1
import Derived.Test.YtdcgcnnofjekaaaProg
import Derived.Laws.OwnMore
import Derived.Shelf.SlSortCmp.WholeK
import Derived.RangeFuncNested
import Derived.RangeFuncBox
import Derived.RangeFuncBound
import Derived.RangeFuncCalls
import Derived.RangeFuncLeaves
import Derived.Shelf.Abstract
import Derived.Shelf.RegionOpen
import Derived.OwnWalkIn
import Derived.TacticsInMore
import Derived.LoopNIn
import Derived.LoopIn
import Derived.Deep.RegionHeld3
import Derived.Deep.AppendLies
import Derived.Maps.AppendAt
import Derived.StillTailTactics
import Derived.Lib.Hide
import Derived.Lib.AppendZerosOnto
/-
  Rows of bytes of a call's own: what they are once more blocks have been made, and once one byte is stored. Conditions: those that each lemma states.
-/
namespace Go.Proofs.Ytdcgcnnofjekaaa
open Go.RowKit

theorem own_after {w w' : World} {B : Nat} {e : TypeId} {v : Value} {n : Nat} {xs : List Value} (h : w.ownsRow B e 1 v n xs) (hb : Below w.heap.size w w') : w'.ownsRow B e 1 v n xs := by
  refine ⟨h.1, h.2.imp id ?_⟩
  rintro ⟨g, cap, cur, h1, h2, h3, h4⟩
  exact ⟨g, cap, cur, h1, h2, (hb.block g (Array.getElem?_eq_some_iff.1 h3).1).trans h3, h4⟩
theorem own_to {w : World} {B B' : Nat} {e : TypeId} {v : Value} {n : Nat} {xs : List Value} (h : w.ownsRow B e 1 v n xs) (hb : B' ≤ B) : w.ownsRow B' e 1 v n xs := by
  refine ⟨h.1, h.2.imp id ?_⟩
  rintro ⟨g, cap, cur, h1, h2, h3⟩
  exact ⟨g, cap, cur, h1, Nat.le_trans hb h2, h3⟩
/-- A block that is known whole, as a row of the call's own. -/
theorem Row.own {w : World} {g B : Nat} {xs : List UInt8} (h : Row w g xs) (hb : B ≤ g) (hm : xs.length ≤ 9223372036854775807) : w.ownsRow B 5 1 (.slice (some ⟨g, 0, none⟩) xs.length xs.length) xs.length (u8s xs) :=
  ⟨by simp [u8s], .inr ⟨g, xs.length, (u8s xs).toArray, rfl, hb, h, Nat.le_refl _, by unfold maxLen; omega, by simp [u8s], by simp [u8s, List.take_of_length_le]⟩⟩
/-- Where there is a byte, the slice has an address: the head of a block of the call's own. -/
theorem own_head {w : World} {B n : Nat} {e : TypeId} {v : Value} {xs : List Value} (h : w.ownsRow B e 1 v n xs) (h0 : 0 < n) : ∃ g c, v = .slice (some ⟨g, 0, none⟩) n c ∧ B ≤ g ∧ g < w.heap.size ∧ n ≤ c ∧ c ≤ 9223372036854775807 := by
  rcases h.2 with ⟨_, h'⟩ | ⟨g, cap, cur, rfl, hb, hg, hnc, hcm, _⟩
  · omega
  · exact ⟨g, cap, rfl, hb, (Array.getElem?_eq_some_iff.1 hg).1, hnc, by unfold maxLen at hcm; exact hcm⟩
theorem own_cell {w : World} {B n g c : Nat} {xs : List UInt8} (h : w.ownsRow B 5 1 (.slice (some ⟨g, 0, none⟩) n c) n (u8s xs)) {j : Nat} (hj : j < n) : w.cell? ⟨g, j, none⟩ = some (.int .u8 ((xs[j]?.getD 0).toNat : Int)) := by
  rw [h.cellAt j (by omega)]
  have hl : xs.length = n := by have := h.1; simpa [u8s] using this
  exact u8s_get xs j (by omega)
theorem own_set {w : World} {B n g c : Nat} {xs : List UInt8} (h : w.ownsRow B 5 1 (.slice (some ⟨g, 0, none⟩) n c) n (u8s xs)) (j : Nat) (x : UInt8) : (w.setCell ⟨g, j, none⟩ (.int .u8 (x.toNat : Int))).ownsRow B 5 1 (.slice (some ⟨g, 0, none⟩) n c) n (u8s (xs.set j x)) := by
  have := (h.stored j (.int .u8 (x.toNat : Int))).1
  rwa [show (u8s xs).set j (.int .u8 (x.toNat : Int)) = u8s (xs.set j x) by simp [u8s, List.map_set]] at this
theorem own_length {w : World} {B n : Nat} {v : Value} {xs : List UInt8} (h : w.ownsRow B 5 1 v n (u8s xs)) : xs.length = n := by
  have := h.1
  simpa [u8s] using this
end Go.Proofs.Ytdcgcnnofjekaaa

/-
  Package ring and the document's answers of layer 4: Same. Conditions: those that each lemma states.
-/
namespace Go.Proofs.Ytdcgcnnofjekaaa
open Go.RowKit

def sameSp (s o : Sp) : Bool := decide (s = o)
theorem sameSp_self (s : Sp) : sameSp s s = true := by simp [sameSp]
theorem sameSp_eq {s o : Sp} (h : sameSp s o = true) : s = o := by simpa [sameSp] using h

set_option maxRecDepth 100000 in
set_option maxHeartbeats 4000000 in
theorem sameS_any (v u : Value) (s o : Sp) (w : World) (hv : Sup (Old w) w v s) (hu : Sup (Old w) w u o) :
    Calls Try.prog 22 #[v, u] w fun e w' => e = .returned (.bool (sameSp s o)) ∧ Below w.heap.size w w' := by
  obtain ⟨A, c, rfl, _, _, _, rv, _⟩ := hv.open
  obtain ⟨B, c', rfl, _, _, _, ru, _⟩ := hu.open
  obtain ⟨w1, hw1, f1, f2, f3, f4, f5, hs1, hB1, _⟩ := box_five w (.int .u32 s.1) (.int .i64 s.2.1) (.int .u32 s.2.2.1) (.int .u32 s.2.2.2.1) (.slice A s.2.2.2.2.length c) 37
  obtain ⟨w2, hw2, g1, g2, g3, g4, g5, hs2, hB2, _⟩ := box_five w1 (.int .u32 o.1) (.int .i64 o.2.1) (.int .u32 o.2.2.1) (.int .u32 o.2.2.2.1) (.slice B o.2.2.2.2.length c') 37
  have hB := hB1.trans (hB2.mono hB1.size)
  have k1 := (hB2.cell (p := ⟨w.heap.size, 0, none⟩) (show w.heap.size < _ by omega)).trans f1
  have k2 := (hB2.cell (p := ⟨w.heap.size, 1, none⟩) (show w.heap.size < _ by omega)).trans f2
  have k3 := (hB2.cell (p := ⟨w.heap.size, 2, none⟩) (show w.heap.size < _ by omega)).trans f3
  have k4 := (hB2.cell (p := ⟨w.heap.size, 3, none⟩) (show w.heap.size < _ by omega)).trans f4
  have k5 := (hB2.cell (p := ⟨w.heap.size, 4, none⟩) (show w.heap.size < _ by omega)).trans f5
  have xv := Lib.hid (stab_ints.old rv hB)
  have xu := Lib.hid (stab_ints.old ru hB)
  clear f1 f2 f3 f4 f5 hv hu rv ru hB1 hB2
  replace hB := Lib.hid hB
  replace hs1 := Lib.hid hs1
  replace hs2 := Lib.hid hs2
  replace hw2 := Lib.hid hw2
  go_enter Try.func22, Try.ntmps22
  go_upto_region 1 with fail
  rw [hw2.out]
  clear hw1 hw2
  obtain ⟨a1, a2, a3, a4, a5⟩ := s
  obtain ⟨b1, b2, b3, b4, b5⟩ := o
  dsimp only at k1 k2 k3 k4 k5 g1 g2 g3 g4 g5 xv xu
  by_cases e1 : a1 = b1
  case neg =>
    have t : (a1 == b1) = false := by simpa using e1
    have hne := Lib.hid (show sameSp (a1, a2, a3, a4, a5) (b1, b2, b3, b4, b5) = false by simp [sameSp, e1])
    clear e1
    go_wp2_with fail
    go_ret
    exact ⟨ret_bool hne.out.symm, hB.out⟩
  by_cases e2 : a2 = b2
  case neg =>
    have t : (a1 == b1) = true := by simpa using e1
    have t2 : (a2 == b2) = false := by simpa using e2
    have hne := Lib.hid (show sameSp (a1, a2, a3, a4, a5) (b1, b2, b3, b4, b5) = false by simp [sameSp, e2])
    clear e1 e2
    go_wp2_with fail
    go_ret
    exact ⟨ret_bool hne.out.symm, hB.out⟩
  by_cases e3 : a3 = b3
  case neg =>
    have t : (a1 == b1) = true := by simpa using e1
    have t2 : (a2 == b2) = true := by simpa using e2
    have t3 : (a3 == b3) = false := by simpa using e3
    have hne := Lib.hid (show sameSp (a1, a2, a3, a4, a5) (b1, b2, b3, b4, b5) = false by simp [sameSp, e3])
    clear e1 e2 e3
    go_wp2_with fail
    go_ret
    exact ⟨ret_bool hne.out.symm, hB.out⟩
  by_cases e4 : a4 = b4
  case neg =>
    have t : (a1 == b1) = true := by simpa using e1
    have t2 : (a2 == b2) = true := by simpa using e2
    have t3 : (a3 == b3) = true := by simpa using e3
    have t4 : (a4 == b4) = false := by simpa using e4
    have hne := Lib.hid (show sameSp (a1, a2, a3, a4, a5) (b1, b2, b3, b4, b5) = false by simp [sameSp, e4])
    clear e1 e2 e3 e4
    go_wp2_with fail
    go_ret
    exact ⟨ret_bool hne.out.symm, hB.out⟩
  have t : (a1 == b1) = true := by simpa using e1
  have t2 : (a2 == b2) = true := by simpa using e2
  have t3 : (a3 == b3) = true := by simpa using e3
  have t4 : (a4 == b4) = true := by simpa using e4
  have hne := Lib.hid (show sameSp (a1, a2, a3, a4, a5) (b1, b2, b3, b4, b5) = decide (a5 = b5) by simp [sameSp, e1, e2, e3, e4])
  clear e1 e2 e3 e4
  go_wp2_with fail
  with_reducible refine (equalInts_any _ _ a5 b5 _ xv.out xu.out).mono ?_
  rintro e w3 ⟨rfl, hb⟩
  have hB3 := Lib.hid (hB.out.trans (hb.mono hB.out.size))
  clear hb
  go_wp2_with fail
  go_ret
  exact ⟨ret_bool hne.out.symm, hB3.out⟩
set_option maxRecDepth 100000 in
set_option maxHeartbeats 4000000 in
theorem refSameS_any (v u : Value) (s o : Sp) (w : World) (hv : Sup (Old w) w v s) (hu : Sup (Old w) w u o) :
    Calls Try.prog 20 #[v, u] w fun e w' => e = .returned (.bool (sameSp s o)) ∧ Below w.heap.size w w' := by
  obtain ⟨A, c, rfl, _, _, _, rv, _⟩ := hv.open
  obtain ⟨B, c', rfl, _, _, _, ru, _⟩ := hu.open
  obtain ⟨w1, hw1, f1, f2, f3, f4, f5, hs1, hB1, _⟩ := box_five w (.int .u32 s.1) (.int .i64 s.2.1) (.int .u32 s.2.2.1) (.int .u32 s.2.2.2.1) (.slice A s.2.2.2.2.length c) 37
  obtain ⟨w2, hw2, g1, g2, g3, g4, g5, hs2, hB2, _⟩ := box_five w1 (.int .u32 o.1) (.int .i64 o.2.1) (.int .u32 o.2.2.1) (.int .u32 o.2.2.2.1) (.slice B o.2.2.2.2.length c') 37
  have hB := hB1.trans (hB2.mono hB1.size)
  have k1 := (hB2.cell (p := ⟨w.heap.size, 0, none⟩) (show w.heap.size < _ by omega)).trans f1
  have k2 := (hB2.cell (p := ⟨w.heap.size, 1, none⟩) (show w.heap.size < _ by omega)).trans f2
  have k3 := (hB2.cell (p := ⟨w.heap.size, 2, none⟩) (show w.heap.size < _ by omega)).trans f3
  have k4 := (hB2.cell (p := ⟨w.heap.size, 3, none⟩) (show w.heap.size < _ by omega)).trans f4
  have k5 := (hB2.cell (p := ⟨w.heap.size, 4, none⟩) (show w.heap.size < _ by omega)).trans f5
  have xv := Lib.hid (stab_ints.old rv hB)
  have xu := Lib.hid (stab_ints.old ru hB)
  clear f1 f2 f3 f4 f5 hv hu rv ru hB1 hB2
  replace hB := Lib.hid hB
  replace hs1 := Lib.hid hs1
  replace hs2 := Lib.hid hs2
  replace hw2 := Lib.hid hw2
  go_enter Try.func20, Try.ntmps20
  go_upto_region 1 with fail
  rw [hw2.out]
  clear hw1 hw2
  obtain ⟨a1, a2, a3, a4, a5⟩ := s
  obtain ⟨b1, b2, b3, b4, b5⟩ := o
  dsimp only at k1 k2 k3 k4 k5 g1 g2 g3 g4 g5 xv xu
  by_cases e1 : a1 = b1
  case neg =>
    have t : (a1 == b1) = false := by simpa using e1
    have hne := Lib.hid (show sameSp (a1, a2, a3, a4, a5) (b1, b2, b3, b4, b5) = false by simp [sameSp, e1])
    clear e1
    go_wp2_with fail
    go_ret
    exact ⟨ret_bool hne.out.symm, hB.out⟩
  by_cases e2 : a2 = b2
  case neg =>
    have t : (a1 == b1) = true := by simpa using e1
    have t2 : (a2 == b2) = false := by simpa using e2
    have hne := Lib.hid (show sameSp (a1, a2, a3, a4, a5) (b1, b2, b3, b4, b5) = false by simp [sameSp, e2])
    clear e1 e2
    go_wp2_with fail
    go_ret
    exact ⟨ret_bool hne.out.symm, hB.out⟩
  by_cases e3 : a3 = b3
  case neg =>
    have t : (a1 == b1) = true := by simpa using e1
    have t2 : (a2 == b2) = true := by simpa using e2
    have t3 : (a3 == b3) = false := by simpa using e3
    have hne := Lib.hid (show sameSp (a1, a2, a3, a4, a5) (b1, b2, b3, b4, b5) = false by simp [sameSp, e3])
    clear e1 e2 e3
    go_wp2_with fail
    go_ret
    exact ⟨ret_bool hne.out.symm, hB.out⟩
  by_cases e4 : a4 = b4
  case neg =>
    have t : (a1 == b1) = true := by simpa using e1
    have t2 : (a2 == b2) = true := by simpa using e2
    have t3 : (a3 == b3) = true := by simpa using e3
    have t4 : (a4 == b4) = false := by simpa using e4
    have hne := Lib.hid (show sameSp (a1, a2, a3, a4, a5) (b1, b2, b3, b4, b5) = false by simp [sameSp, e4])
    clear e1 e2 e3 e4
    go_wp2_with fail
    go_ret
    exact ⟨ret_bool hne.out.symm, hB.out⟩
  have t : (a1 == b1) = true := by simpa using e1
  have t2 : (a2 == b2) = true := by simpa using e2
  have t3 : (a3 == b3) = true := by simpa using e3
  have t4 : (a4 == b4) = true := by simpa using e4
  have hne := Lib.hid (show sameSp (a1, a2, a3, a4, a5) (b1, b2, b3, b4, b5) = decide (a5 = b5) by simp [sameSp, e1, e2, e3, e4])
  clear e1 e2 e3 e4
  go_wp2_with fail
  with_reducible refine (sameNumbers_any _ _ a5 b5 _ xv.out xu.out).mono ?_
  rintro e w3 ⟨rfl, hb⟩
  have hB3 := Lib.hid (hB.out.trans (hb.mono hB.out.size))
  clear hb
  go_wp2_with fail
  go_ret
  exact ⟨ret_bool hne.out.symm, hB3.out⟩
end Go.Proofs.Ytdcgcnnofjekaaa

/-
  The document's answers of layer 3: Same. Conditions: those that each lemma states.
-/
namespace Go.Proofs.Ytdcgcnnofjekaaa
open Go.RowKit

set_option maxRecDepth 100000 in
set_option maxHeartbeats 4000000 in
theorem refSame_any (v u : Value) (d o : Dk) (w : World) (hv : Dsk (Old w) w v d) (hu : Dsk (Old w) w u o) :
    Calls Try.prog 28 #[v, u] w fun e w' => e = .returned (.bool (sameB d o)) ∧ Below w.heap.size w w' := by
  obtain ⟨A, c, B, c', rfl, l1, m1, l2, m2, hA, hB⟩ := hv.open
  obtain ⟨A', g, B', g', rfl, l1', m1', l2', m2', hA', hB'⟩ := hu.open
  have HA := Lib.hid hA
  have HB := Lib.hid hB
  have HA' := Lib.hid hA'
  have HB' := Lib.hid hB'
  clear hA hB hA' hB' hv hu
  obtain ⟨n, hn⟩ : ∃ n, d.1.length = n := ⟨_, rfl⟩
  obtain ⟨m, hm⟩ : ∃ m, d.2.length = m := ⟨_, rfl⟩
  obtain ⟨n', hn'⟩ : ∃ n, o.1.length = n := ⟨_, rfl⟩
  obtain ⟨m', hm'⟩ : ∃ m, o.2.length = m := ⟨_, rfl⟩
  rw [hn] at l1 ⊢
  rw [hm] at l2 ⊢
  rw [hn'] at l1' ⊢
  rw [hm'] at l2' ⊢
  replace hn := Lib.hid hn
  replace hm := Lib.hid hm
  replace hn' := Lib.hid hn'
  replace hm' := Lib.hid hm'
  have hB0 := (((Below.refl w.heap.size w).alloc (Nat.le_refl _) (.cells #[.slice A n c, .slice B m c'] 30)).alloc (by simp) (.cells #[.slice A' n' g, .slice B' m' g'] 30))
  by_cases h1 : n = n'
  · by_cases h2 : m = m'
    · subst h1
      subst h2
      obtain ⟨w0, e0⟩ : ∃ w0, w0 = (w.alloc (.cells #[.slice A n c, .slice B m c'] 30)).alloc (.cells #[.slice A' n g, .slice B' m g'] 30) := ⟨_, rfl⟩
      have f1 : w0.cell? ⟨w.heap.size, 0, none⟩ = some (.slice A n c) := by rw [e0]; simp
      have f2 : w0.cell? ⟨w.heap.size, 1, none⟩ = some (.slice B m c') := by rw [e0]; simp
      have f3 : w0.cell? ⟨w.heap.size + 1, 0, none⟩ = some (.slice A' n g) := by rw [e0]; simp
      have f4 : w0.cell? ⟨w.heap.size + 1, 1, none⟩ = some (.slice B' m g') := by rw [e0]; simp
      have fs : w0.heap.size = w.heap.size + 2 := by rw [e0]; simp
      rw [← e0] at hB0
      replace fs := Lib.hid fs
      go_enter Try.func28, Try.ntmps28
      go_upto_region 1 with fail
      rw [← e0]
      clear e0
      go_wp2_with fail
      go_loopw [5] (fun i wr => ∃ k : Nat, k ≤ n ∧ i = .int .i64 k ∧ d.1.take k = o.1.take k ∧ Below w0.heap.size w0 wr) (fun i _ => n - (intOf i).toNat)
      case atStart => exact ⟨0, by omega, rfl, rfl, Below.refl _ _⟩
      case round =>
        obtain ⟨k, hk, rfl, ha, hb⟩ := hrel
        replace ha := Lib.hid ha
        have q1 := (hb.cell (p := ⟨w.heap.size, 0, none⟩) (by rw [fs.out]; simp)).trans f1
        have q2 := (hb.cell (p := ⟨w.heap.size + 1, 0, none⟩) (by rw [fs.out]; simp)).trans f3
        by_cases hlt : k < n
        · have hbw := hB0.trans (hb.mono hB0.size)
          obtain ⟨x, hx⟩ : ∃ x, d.1[k]? = some x := ⟨_, List.getElem?_eq_getElem (by rw [hn.out]; exact hlt)⟩
          obtain ⟨y, hy⟩ : ∃ y, o.1[k]? = some y := ⟨_, List.getElem?_eq_getElem (by rw [hn'.out]; exact hlt)⟩
          obtain ⟨ad, v, rfl, hok, hc, hby⟩ := HA.out k x hx
          obtain ⟨bd, u, rfl, hok2, hc2, hby2⟩ := HA'.out k y hy
          replace hx := Lib.hid hx
          replace hy := Lib.hid hy
          replace hc := (hbw.cell hok).trans hc
          replace hc2 := (hbw.cell hok2).trans hc2
          have s1 := rBy_str (stab_by.old hby hbw)
          have s2 := rBy_str (stab_by.old hby2 hbw)
          obtain ⟨E, ce, rfl, _⟩ := rBy_open hby
          obtain ⟨E', ce', rfl, _⟩ := rBy_open hby2
          clear hby hby2
          by_cases e : x = y
          · have he : (x == y) = true := by simpa using e
            replace e := Lib.hid e
            go_wp2_with fail
            go_quiet (fail)
            go_wp2_with fail
            go_roundw
            case rel => exact ⟨k + 1, by omega, by go_num, take_eq_succ ha.out hx.out hy.out e.out, below_drewN hb _⟩
            case measure => simp [intOf]; omega
          · have he : (x == y) = false := by simpa using e
            have hne := Lib.hid (show sameB d o = false by
              unfold sameB
              simp only [decide_eq_false_iff_not]
              exact fun h => ne_of_at hx.out hy.out e (by rw [h]))
            clear e
            go_wp2_with fail
            go_quiet (fail)
            go_wp2_with fail
            go_ret
            exact ⟨ret_bool hne.out.symm, below_drewN hbw _⟩
        · have hge : n ≤ k := by omega
          have he1 : Hid (d.1 = o.1) := Lib.hid (by
            have := ha.out
            rwa [List.take_of_length_le (by rw [hn.out]; exact hge), List.take_of_length_le (by rw [hn'.out]; exact hge)] at this)
          clear ha
          obtain ⟨wo, rfl⟩ : ∃ wo : World, wo = wr := ⟨_, rfl⟩
          go_wp2_with fail
          go_loopw [6] (fun i wr => ∃ k : Nat, k ≤ m ∧ i = .int .i64 k ∧ d.2.take k = o.2.take k ∧ Below w0.heap.size w0 wr) (fun i _ => m - (intOf i).toNat)
          case atStart => exact ⟨0, by omega, rfl, rfl, hb⟩
          case round =>
            clear hb q1 q2
            obtain ⟨k, hk, rfl, ha, hb⟩ := hrel
            replace ha := Lib.hid ha
            have q1 := (hb.cell (p := ⟨w.heap.size, 1, none⟩) (by rw [fs.out]; simp)).trans f2
            have q2 := (hb.cell (p := ⟨w.heap.size + 1, 1, none⟩) (by rw [fs.out]; simp)).trans f4
            have hbw := hB0.trans (hb.mono hB0.size)
            by_cases hlt : k < m
            · obtain ⟨x, hx⟩ : ∃ x, d.2[k]? = some x := ⟨_, List.getElem?_eq_getElem (by rw [hm.out]; exact hlt)⟩
              obtain ⟨y, hy⟩ : ∃ y, o.2[k]? = some y := ⟨_, List.getElem?_eq_getElem (by rw [hm'.out]; exact hlt)⟩
              obtain ⟨ad, v, rfl, hok, hok', hc, hc', hby, _, _⟩ := HB.out k x hx
              obtain ⟨bd, u, rfl, hok2, hok2', hc2, hc2', hby2, _, _⟩ := HB'.out k y hy
              replace hx := Lib.hid hx
              replace hy := Lib.hid hy
              replace hc := (hbw.cell hok).trans hc
              replace hc2 := (hbw.cell hok2).trans hc2
              replace hc' := (hbw.cell hok').trans hc'
              replace hc2' := (hbw.cell hok2').trans hc2'
              rw [add_next] at hc' hc2'
              have s1 := rBy_str (stab_by.old hby hbw)
              have s2 := rBy_str (stab_by.old hby2 hbw)
              obtain ⟨E, ce, rfl, _⟩ := rBy_open hby
              obtain ⟨E', ce', rfl, _⟩ := rBy_open hby2
              clear hby hby2
              by_cases ea : x.1 = y.1
              · by_cases e : x.2 = y.2
                · have hea : (x.1 != y.1) = false := by simpa using ea
                  have he : (x.2 == y.2) = true := by simpa using e
                  have hxy := Lib.hid (show x = y from Prod.ext ea e)
                  clear e ea
                  go_wp2_with fail
                  go_quiet (fail)
                  go_wp2_with fail
                  go_roundw
                  case rel => exact ⟨k + 1, by omega, by go_num, take_eq_succ ha.out hx.out hy.out hxy.out, below_drewN hb _⟩
                  case measure => simp [intOf]; omega
                · have hea : (x.1 != y.1) = false := by simpa using ea
                  have he : (x.2 == y.2) = false := by simpa using e
                  have hne := Lib.hid (show sameB d o = false by
                    unfold sameB
                    simp only [decide_eq_false_iff_not]
                    exact fun h => ne_of_at hx.out hy.out (fun h' => e (by rw [h'])) (by rw [h]))
                  clear e ea
                  go_wp2_with fail
                  go_quiet (fail)
                  go_wp2_with fail
                  go_ret
                  exact ⟨ret_bool hne.out.symm, below_drewN hbw _⟩
              · have hea : (x.1 != y.1) = true := by simpa using ea
                have hne := Lib.hid (show sameB d o = false by
                  unfold sameB
                  simp only [decide_eq_false_iff_not]
                  exact fun h => ne_of_at hx.out hy.out (fun h' => ea (by rw [h'])) (by rw [h]))
                clear ea
                go_wp2_with fail
                go_quiet (fail)
                go_wp2_with fail
                go_ret
                exact ⟨ret_bool hne.out.symm, below_drewN hbw _⟩
            · have hge2 : m ≤ k := by omega
              have he2 : Hid (sameB d o = true) := Lib.hid (by
                have := ha.out
                rw [List.take_of_length_le (by rw [hm.out]; exact hge2), List.take_of_length_le (by rw [hm'.out]; exact hge2)] at this
                unfold sameB
                simp only [decide_eq_true_eq]
                exact Prod.ext he1.out this)
              go_wp2_with fail
              go_ret
              exact ⟨ret_bool he2.out.symm, hbw⟩
    · have hne := Lib.hid (show sameB d o = false by
        unfold sameB
        simp only [decide_eq_false_iff_not]
        intro h
        have := hm.out
        rw [h, hm'.out] at this
        exact h2 this.symm)
      have h1' : ((n : Int) != n') = false := by simp; omega
      have h2' : ((m : Int) != m') = true := by simp; omega
      clear h1 h2
      go_enter Try.func28, Try.ntmps28
      go_wp2_with fail
      go_ret
      exact ⟨ret_bool hne.out.symm, hB0⟩
  · have hne := Lib.hid (show sameB d o = false by
      unfold sameB
      simp only [decide_eq_false_iff_not]
      intro h
      have := hn.out
      rw [h, hn'.out] at this
      exact h1 this.symm)
    have h1' : ((n : Int) != n') = true := by simp; omega
    clear h1
    go_enter Try.func28, Try.ntmps28
    go_wp2_with fail
    go_ret
    exact ⟨ret_bool hne.out.symm, hB0⟩
end Go.Proofs.Ytdcgcnnofjekaaa

/-
  The library's sort at superblocks: its bodies are those of the shelf. No condition.
-/
namespace Go.Proofs.Ytdcgcnnofjekaaa
open Go.Shelf Go.RowKit Go.Lib Go.Sort

def sortSup_ren : Go.Shelf.Ren := ⟨fun | 6 => 34 | 15 => 63 | 14 => 62 | 28 => 91 | 29 => 92 | 20 => 83 | 21 => 84 | 22 => 85 | 23 => 86 | 24 => 87 | 25 => 88 | 26 => 89 | 27 => 90 | 46 => 97 | 47 => 98 | 48 => 99 | 49 => 100 | 50 => 101 | 57 => 105 | n => n, fun | 22 => 23 | 24 => 37 | 25 => 72 | 3 => 3 | 39 => 98 | 0 => 0 | 53 => 34 | 55 => 125 | 4 => 4 | 46 => 118 | 45 => 117 | 50 => 122 | 5 => 5 | 9 => 9 | 66 => 134 | 70 => 138 | 76 => 145 | 77 => 84 | n => n, fun | n => n⟩
theorem sortSup : Go.Proofs.SlLaysF0.n6 Try.prog sortSup_ren := {
  mixed := by kernel_rfl,
  f6 := ⟨Try.f34.name, by decide, Try.func34.trans (congrArg some (by kernel_rfl))⟩,
  f14 := ⟨Try.f62.name, by decide, Try.func62.trans (congrArg some (by kernel_rfl))⟩,
  f15 := Try.func63.trans (congrArg some (by kernel_rfl)),
  f20 := ⟨Try.f83.name, by decide, Try.func83.trans (congrArg some (by kernel_rfl))⟩,
  f21 := ⟨Try.f84.name, by decide, Try.func84.trans (congrArg some (by kernel_rfl))⟩,
  f22 := ⟨Try.f85.name, by decide, Try.func85.trans (congrArg some (by kernel_rfl))⟩,
  f23 := ⟨Try.f86.name, by decide, Try.func86.trans (congrArg some (by kernel_rfl))⟩,
  f24 := ⟨Try.f87.name, by decide, Try.func87.trans (congrArg some (by kernel_rfl))⟩,
  f25 := ⟨Try.f88.name, by decide, Try.func88.trans (congrArg some (by kernel_rfl))⟩,
  f26 := ⟨Try.f89.name, by decide, Try.func89.trans (congrArg some (by kernel_rfl))⟩,
  f27 := ⟨Try.f90.name, by decide, Try.func90.trans (congrArg some (by kernel_rfl))⟩,
  f28 := Try.func91.trans (congrArg some (by kernel_rfl)),
  f29 := Try.func92.trans (congrArg some (by kernel_rfl)),
  f46 := ⟨Try.f97.name, by decide, Try.func97.trans (congrArg some (by kernel_rfl))⟩,
  f47 := Try.func98.trans (congrArg some (by kernel_rfl)),
  f48 := Try.func99.trans (congrArg some (by kernel_rfl)),
  f49 := ⟨Try.f100.name, by decide, Try.func100.trans (congrArg some (by kernel_rfl))⟩,
  f50 := ⟨Try.f101.name, by decide, Try.func101.trans (congrArg some (by kernel_rfl))⟩,
  f57 := ⟨Try.f105.name, by decide, Try.func105.trans (congrArg some (by kernel_rfl))⟩,
  t0 := Try.underlying0,
  a0 := Try.isAgg0,
  z0 := Try.sizeOf0,
  v0 := Try.zeroValue0,
  t3 := Try.underlying3,
  a3 := Try.isAgg3,
  z3 := Try.sizeOf3,
  v3 := Try.zeroValue3,
  t4 := Try.underlying4,
  a4 := Try.isAgg4,
  z4 := Try.sizeOf4,
  v4 := Try.zeroValue4,
  t5 := Try.underlying5,
  a5 := Try.isAgg5,
  z5 := Try.sizeOf5,
  v5 := Try.zeroValue5,
  t9 := Try.underlying9,
  a9 := Try.isAgg9,
  z9 := Try.sizeOf9,
  v9 := Try.zeroValue9,
  t22 := Try.underlying23,
  a22 := Try.isAgg23,
  z22 := Try.sizeOf23,
  v22 := Try.zeroValue23,
  t25 := Try.underlying72,
  a25 := Try.isAgg72,
  z25 := Try.sizeOf72,
  v25 := Try.zeroValue72,
  t39 := Try.underlying98,
  a39 := Try.isAgg98,
  z39 := Try.sizeOf98,
  v39 := Try.zeroValue98,
  t45 := Try.underlying117,
  a45 := Try.isAgg117,
  z45 := Try.sizeOf117,
  v45 := Try.zeroValue117,
  t46 := Try.underlying118,
  a46 := Try.isAgg118,
  z46 := Try.sizeOf118,
  v46 := Try.zeroValue118,
  t50 := Try.underlying122,
  a50 := Try.isAgg122,
  z50 := Try.sizeOf122,
  v50 := Try.zeroValue122,
  t53 := Try.underlying34,
  a53 := Try.isAgg34,
  z53 := Try.sizeOf34,
  v53 := Try.zeroValue34,
  t55 := Try.underlying125,
  a55 := Try.isAgg125,
  z55 := Try.sizeOf125,
  v55 := Try.zeroValue125,
  t66 := Try.underlying134,
  a66 := Try.isAgg134,
  z66 := Try.sizeOf134,
  v66 := Try.zeroValue134,
  t70 := Try.underlying138,
  a70 := Try.isAgg138,
  z70 := Try.sizeOf138,
  v70 := Try.zeroValue138,
  t76 := Try.underlying145,
  a76 := Try.isAgg145,
  z76 := Try.sizeOf145,
  v76 := Try.zeroValue145,
  t77 := Try.underlying84,
  a77 := Try.isAgg84,
  z77 := Try.sizeOf84,
  v77 := Try.zeroValue84 }
end Go.Proofs.Ytdcgcnnofjekaaa

/-
  Package code: slices.Backward over bytes, and gather, which ranges over it. Conditions: those that each lemma states.
-/
namespace Go.Proofs.Ytdcgcnnofjekaaa
open Go.RowKit Go.Shelf
attribute [local go_sem] Oper.semAt_some

/-- What a round keeps: all that lay below block n₀, and the box Bs. -/
def Keeps (n₀ Bs : Nat) (A B : World) : Prop := Below n₀ A B ∧ B.cell? ⟨Bs, 0, none⟩ = A.cell? ⟨Bs, 0, none⟩
theorem Keeps.trans {n₀ Bs : Nat} {A B C : World} (h : Keeps n₀ Bs A B) (h' : Keeps n₀ Bs B C) : Keeps n₀ Bs A C := ⟨h.1.trans h'.1, h'.2.trans h.2⟩

set_option maxRecDepth 100000 in
set_option maxHeartbeats 2000000 in
/-- The closure of slices.Backward, for every loop body that keeps what lay below n₀. -/
theorem back_in (F : Fence) (n : Nat) (hf : F.fn 106) (hro : F.round = none) (hn : 1 ≤ n) (l Bs n₀ cap : Nat) (ad : Addr) (xs : List UInt8) (hm : xs.length ≤ 9223372036854775807) (hb : ad.block < n₀) (J Jx : List (Nat × UInt8) → World → Prop)
    (hY : ∀ pre x W, J pre W → pre.length < xs.length → YieldAt F (n - 1) Try.prog l #[.int .i64 (x.1 : Int), .int .u8 (x.2.toNat : Int)] W fun e W' =>
      (e = .returned (.bool true) ∧ J (pre ++ [x]) W' ∧ Keeps n₀ Bs W W') ∨ (e = .returned (.bool false) ∧ Jx (pre ++ [x]) W'))
    (W : World) (hBs : W.cell? ⟨Bs, 0, none⟩ = some (.slice (some ad) xs.length cap)) (hc : ∀ j, j < xs.length → W.cell? (ad.add j) = some (.int .u8 ((xs[j]?.getD 0).toNat : Int))) (h0 : J [] W) :
    CallsIn F n Try.prog 106 #[.func (.yield l) #[] #[], .pointer (some ⟨Bs, 0, none⟩)] W fun e W' => (∃ v, e = .returned v) ∧
      ((∃ ys, ys = back xs xs.length ∧ J ys W') ∨ (∃ pre, (∃ k, k ≤ xs.length ∧ pre = back xs k) ∧ Jx pre W')) := by
  refine callsIn_of_wp Try.func106 rfl hf ?_ hro
  simp only [Try.ntmps106, List.size_toArray, List.length_cons, List.length_nil, Nat.reduceAdd, Nat.reduceSub, Array.replicate_succ, Array.replicate_zero, List.push_toArray, List.append_toArray, List.nil_append, List.cons_append]
  gi_wp2
  gi_loopw [3] (fun i wr => ∃ k : Nat, k ≤ xs.length ∧ i = .int .i64 ((xs.length : Int) - 1 - k) ∧ J (back xs k) wr ∧ Below n₀ W wr ∧ wr.cell? ⟨Bs, 0, none⟩ = some (.slice (some ad) xs.length cap))
    (fun i _ => (intOf i + 1).toNat)
  case atStart => exact ⟨0, Nat.zero_le _, by simp, h0, Below.refl _ _, hBs⟩
  case round =>
    obtain ⟨k, hk, rfl, hJs, hnx, hbs⟩ := hrel
    by_cases hlt : k < xs.length
    · have hcx : wr.cell? (ad.add (xs.length - 1 - k)) = some (.int .u8 ((xs[xs.length - 1 - k]?.getD 0).toNat : Int)) := (hnx.cell (p := ad.add (xs.length - 1 - k)) (by rw [add_block]; exact hb)).trans (hc _ (by omega))
      obtain ⟨fn, tmps, assign, body, hy, hR⟩ := hY _ (xs.length - 1 - k, xs[xs.length - 1 - k]?.getD 0) wr hJs (by rw [back_length]; exact hlt)
      dsimp only at hy
      have e1 : ((xs.length : Int) - 1 - k).toNat = xs.length - 1 - k := by omega
      have e2 : ((xs.length - 1 - k : Nat) : Int) = (xs.length : Int) - 1 - k := by omega
      rw [e2] at hy
      gi_wp2
      refine hR.mono ?_
      rintro e W3 (⟨rfl, hJ3, hk3⟩ | ⟨rfl, hJx3⟩)
      · gi_wp2
        go_roundw
        case rel => exact ⟨k + 1, by omega, by go_num, by rw [back_succ]; exact hJ3, hnx.trans hk3.1, hk3.2.trans hbs⟩
        case measure => simp [intOf]; omega
      · gi_wp2
        refine bodyPost_ret (results_none rfl _ _ _) rfl ?_
        exact ⟨⟨_, rfl⟩, .inr ⟨_, ⟨k + 1, by omega, (back_succ _ _).symm⟩, hJx3⟩⟩
    · obtain rfl : k = xs.length := by omega
      gi_wp2
      go_end0
      exact ⟨⟨_, rfl⟩, .inl ⟨_, rfl, hJs⟩⟩

set_option maxHeartbeats 1000000 in
/-- slices.Backward(s): the slice value is boxed; the function value captures the box. -/
theorem backward_in (F : Fence) (n : Nat) (hf : F.fn 102) (hro : F.round = none) (a : Option Addr) (len cap : Nat) (w : World) :
    CallsIn F n Try.prog 102 #[.slice a len cap] w fun e w' => e = .returned (.func (.func 106) #[] #[.pointer (some ⟨w.heap.size, 0, none⟩)]) ∧ w' = w.alloc (.cells #[.slice a len cap] 40) := by
  refine callsIn_of_wp Try.func102 rfl hf ?_ hro
  simp only [Try.ntmps102, List.size_toArray, List.length_cons, List.length_nil, Nat.reduceAdd, Nat.reduceSub, Array.replicate_succ, Array.replicate_zero, List.push_toArray, List.append_toArray, List.nil_append, List.cons_append]
  gi_wp2
  go_ret
  exact ⟨rfl, rfl⟩

/-- slices.Backward(s) hands back a value that gives the pairs from behind: all, or the first k of them. -/
theorem backward_stops (F : Fence) (n : Nat) (hf : F.fn 106) (hro : F.round = none) (hn : 1 ≤ n) (Bs n₀ cap : Nat) (ad : Addr) (xs : List UInt8) (hm : xs.length ≤ 9223372036854775807) (w : World) (hBs : Bs < w.heap.size) (hn₀ : n₀ ≤ w.heap.size)
    (hc : w.cell? ⟨Bs, 0, none⟩ = some (.slice (some ad) xs.length cap)) (hb : ad.block < n₀) (hx : ∀ j, j < xs.length → w.cell? (ad.add j) = some (.int .u8 ((xs[j]?.getD 0).toNat : Int))) :
    SeqStopsK F n Try.prog 106 #[.pointer (some ⟨Bs, 0, none⟩)] (fun x : Nat × UInt8 => #[Value.int .i64 (x.1 : Int), Value.int .u8 (x.2.toNat : Int)]) (Keeps n₀ Bs) (fun ys => ys = back xs xs.length)
      (fun pre => ∃ k, k ≤ xs.length ∧ pre = back xs k) xs.length w := fun l J Jx W hW _ _ hY h0 => by
  have hc' := (hW.cell (p := ⟨Bs, 0, none⟩) hBs).trans hc
  exact back_in F n hf hro hn l Bs n₀ cap ad xs hm hb J Jx hY W hc' (fun j hj => (hW.cell (p := ad.add j) (by rw [add_block]; omega)).trans (hx j hj)) h0

/-- What the loop itself turns keeps it. -/
theorem keeps_b {W w : World} {Bs n₀ : Nat} (hBs : Bs < w.heap.size) (hn₀ : n₀ ≤ w.heap.size) (l : Nat) (o o' : Obj) (hl : w.heap.size ≤ l) (h1 : W.heap[l]? = some o) (h2 : o.isCells = false) (h3 : o.isWalk = false) : Keeps n₀ Bs W (W.putObj l o') :=
  ⟨belowK_b hn₀ W l o o' hl h1 h2 h3, World.cell?_of_block (World.putObj_heap_other (k := Bs) (by omega))⟩

set_option maxRecDepth 100000 in
set_option maxHeartbeats 2000000 in
theorem gather_in (F : Fence) (n : Nat) (h3 : F.fn 93) (h5 : F.fn 102) (h7 : F.fn 106) (hro : F.round = none) (hn : 3 ≤ n)
    (ad : Addr) (len cap m k : Nat) (ys : List UInt8) (hk : ys.length = m) (hm0 : 0 < m) (hm : m ≤ 4) (hle : k + m ≤ len) (hlc : len ≤ cap) (hcap : cap ≤ 9223372036854775807) (w : World)
    (hb : ad.block < w.heap.size) (hx : ∀ j, j < ys.length → w.cell? ((ad.add k).add j) = some (.int .u8 ((ys[j]?.getD 0).toNat : Int))) :
    CallsIn F n Try.prog 93 #[.slice (some ad) len cap, .int .i64 k, .int .i64 m] w fun e W' => e = .returned (.tuple #[.int .u32 (num ys), .int .i64 0]) ∧ Below w.heap.size w W' := by
  have h1 : 1 ≤ n := by omega
  refine callsIn_of_wp_marks Try.func93 rfl h3 ?_ hro
  simp only [Try.ntmps93, List.size_toArray, List.length_cons, List.length_nil, Nat.reduceAdd, Nat.reduceSub, Array.replicate_succ, Array.replicate_zero, List.push_toArray, List.append_toArray, List.nil_append, List.cons_append]
  gi_wp2_with (gi_at_call 102; refine (backward_in F (n - 1) h5 hro _ _ _ _).mono ?_; rintro e w' ⟨rfl, rfl⟩)
  obtain rfl := hk
  have bN := Boxed.new w 34 (.int .u32 0)
  have bS := Boxed.new (w.alloc (.cells #[.int .u32 0] 34)) 40 (.slice (some (ad.add k)) ys.length (cap - k))
  rw [World.size_alloc] at bS
  have hB0 : Below w.heap.size w ((w.alloc (.cells #[.int .u32 0] 34)).alloc (.cells #[.slice (some (ad.add k)) ys.length (cap - k)] 40)) := ((Below.refl _ w).alloc (Nat.le_refl _) _).alloc (by simp) _
  refine wpIn_rangeFunc_ownG hro h1 (gf := 106) (lb := #[.pointer (some ⟨w.heap.size + 1, 0, none⟩)]) rfl h7 (enters_of Try.func106 (by kernel_rfl) rfl)
    (backward_stops F (n - 1) h7 hro (by omega) (w.heap.size + 1) w.heap.size (cap - k) (ad.add k) ys (by omega) _ (by simp) (by simp; omega) bS.cell (by rw [add_block]; exact hb) (fun j hj => (hB0.cell (p := (ad.add k).add j) (by rw [add_block, add_block]; exact hb)).trans (hx j hj)))
    (fun h h' => Keeps.trans h h') (fun W l o o' hl h1 h2 h3 => keeps_b (by simp) (by simp; omega) l o o' hl h1 h2 h3) (Below.refl _ _) (fun _ => rfl)
    (fun pre W => (W.cell? ⟨w.heap.size, 0, none⟩ = some (.int .u32 (val pre)) ∧ W.frozen? ⟨w.heap.size, 0, none⟩ = false) ∧ Below w.heap.size w W)
    (fun _ _ _ => False)
    (OwnFrom.and (Own.from (fun s A B row hs hg hr => ⟨cell_kept hs.1 hg hr, (frozen_kept hs.1 hg hr).trans hs.2⟩) _) (ownFrom_below (Nat.le_refl _) (by simp; omega)))
    (fun _ _ _ _ _ hs _ _ => hs)
    ⟨⟨(bN.alloc _).cell, (bN.alloc _).frozen⟩, hB0⟩
    (fun x => { tmps := #[.slice (some ad) len cap, .int .i64 k, .int .i64 ys.length, undef, undef, undef, .int .u32 0, .int .i64 0, .pointer (some ⟨w.heap.size, 0, none⟩), undef, .int .u8 (x.2.toNat : Int), .int .i64 k, .bool (decide ((k : Int) < 0)), .bool (decide ((k : Int) < 0)),
      .int .i64 k, .slice (some ad) len cap, .int .i64 len, .int .i64 ys.length, .int .i64 ((len : Int) - ys.length), .bool (decide ((len : Int) - ys.length < k)), .bool (decide ((k : Int) < 0) || decide ((len : Int) - ys.length < k)), .slice (some ad) len cap, .int .i64 k, .int .i64 k, .int .i64 ys.length, .int .i64 ((k : Int) + ys.length),
      .slice (some (ad.add k)) ys.length (cap - k), .func (.func 106) #[] #[.pointer (some ⟨w.heap.size + 1, 0, none⟩)], .int .i64 (x.1 : Int), .int .u8 (x.2.toNat : Int), undef, undef, undef, undef, undef, undef], defers := [] }) ?assign ?body ?done ?stop
  case assign =>
    intro l x W K hK
    gi_wp2
    exact hK
  case body =>
    rintro l pre x W ⟨⟨hc, hf⟩, hB⟩ hlen
    obtain ⟨v0, v1⟩ := val_small pre (by omega)
    have hx2 := x.2.toNat_lt
    have hor := or_low (val pre) x.2 v0 v1
    gi_wp2
    exact ⟨(KeepsOthers.setCell _ _ _).from _, ⟨(Below.refl w.heap.size W).setCell (p := ⟨w.heap.size, 0, none⟩) (Nat.le_refl _) _, World.cell?_setCell_other _ _ _ _ (by simp)⟩,
      ⟨by rw [val_snoc]; exact World.cell?_setCell_same' _ _ _ (by rw [hc]; rfl), by rw [World.frozen?_setCell]; exact hf⟩, hB.setCell (p := ⟨w.heap.size, 0, none⟩) (Nat.le_refl _) _⟩
  case done =>
    rintro D zs W hD rfl ⟨⟨hc, _⟩, hB⟩ hK
    rw [val_all] at hc
    gi_wp2
    refine ⟨by simp, .inl ⟨_, _, rfl, run_takeDeferred hK, ?_⟩⟩
    exact ⟨_, results_tmp2 rfl _ _ _, rfl, hB.trans (belowK_b (w := w) (Nat.le_refl _) W D _ _ (by simp at hD; omega) hK rfl rfl)⟩
  case stop =>
    rintro D c pre W _ _ h _
    exact h.elim
end Go.Proofs.Ytdcgcnnofjekaaa

/-
  Package dev: seen, which ranges over slices.Backward of writes. Conditions: those that each lemma states.
-/
namespace Go.Proofs.Ytdcgcnnofjekaaa
open Go.RowKit Go.Shelf
attribute [local go_sem] Oper.semAt_some

/-! ### What is seen -/
/-- The bytes of the last write to a place, or those that last. -/
def seenW (ws : List Wt) (b : List UInt8) (n : Int) : List UInt8 := ws.foldl (fun acc x => if x.1 = n then x.2 else acc) b
def seenD (d : Dk) (n : Nat) : List UInt8 := seenW d.2 (d.1[n]?.getD []) n
theorem seenW_none {ws : List Wt} {b : List UInt8} {n : Int} (h : ∀ x ∈ ws, x.1 ≠ n) : seenW ws b n = b := by
  induction ws generalizing b with
  | nil => rfl
  | cons x r ih =>
    show seenW r (if x.1 = n then x.2 else b) n = b
    rw [if_neg (h x (List.mem_cons.2 (.inl rfl)))]
    exact ih fun y hy => h y (List.mem_cons.2 (.inr hy))
theorem seenW_append (ws vs : List Wt) (b : List UInt8) (n : Int) : seenW (ws ++ vs) b n = seenW vs (seenW ws b n) n := by simp [seenW]
theorem seenW_at {ws : List Wt} {b : List UInt8} {n : Int} {i : Nat} {x : Wt} (hi : ws[i]? = some x) (hx : x.1 = n) (h : ∀ j y, i < j → ws[j]? = some y → y.1 ≠ n) : seenW ws b n = x.2 := by
  have hil := (List.getElem?_eq_some_iff.1 hi).1
  have e : ws = ws.take i ++ (x :: ws.drop (i + 1)) := by
    have h1 := (List.take_append_drop i ws).symm
    rw [List.drop_eq_getElem_cons hil] at h1
    have h2 := (List.getElem?_eq_some_iff.1 hi).2
    rwa [h2] at h1
  rw [e, seenW_append]
  show seenW (ws.drop (i + 1)) (if x.1 = n then x.2 else seenW (ws.take i) b n) n = x.2
  rw [if_pos hx]
  refine seenW_none fun y hy => ?_
  obtain ⟨j, hj⟩ := List.getElem?_of_mem hy
  rw [List.getElem?_drop] at hj
  exact h _ y (by omega) hj
theorem seenW_length {ws : List Wt} {b : List UInt8} {n : Int} {k : Nat} (hb : b.length = k) (h : ∀ x ∈ ws, x.2.length = k) : (seenW ws b n).length = k := by
  induction ws generalizing b with
  | nil => exact hb
  | cons x r ih =>
    refine ih (b := if x.1 = n then x.2 else b) ?_ fun y hy => h y (List.mem_cons.2 (.inr hy))
    split
    · exact h x (List.mem_cons.2 (.inl rfl))
    · exact hb

/-- The numbers from m - 1 down, the first k of them. -/
def downs (m k : Nat) : List Nat := (List.range k).map fun j => m - 1 - j
theorem downs_succ (m k : Nat) : downs m (k + 1) = downs m k ++ [m - 1 - k] := by simp [downs, List.range_succ]
theorem downs_length (m k : Nat) : (downs m k).length = k := by simp [downs]
theorem mem_downs {m k i : Nat} (hk : k ≤ m) : i ∈ downs m k ↔ m - k ≤ i ∧ i < m := by
  simp only [downs, List.mem_map, List.mem_range]
  constructor
  · rintro ⟨j, hj, rfl⟩; omega
  · intro h; exact ⟨m - 1 - i, by omega, by omega⟩

set_option maxRecDepth 100000 in
set_option maxHeartbeats 2000000 in
/-- The closure of slices.Backward, for every loop body that keeps what lay below n₀. -/
theorem backW_in (F : Fence) (n : Nat) (hf : F.fn 104) (hro : F.round = none) (hn : 1 ≤ n) (l Bs n₀ cap m : Nat) (A : Option Addr) (ad : Addr) (at_ : Nat → Int) (E : Nat → Option Addr) (ln ca : Nat → Nat) (hm : m ≤ 9223372036854775807) (hA : 0 < m → A = some ad ∧ ad.block < n₀) (J Jx : List Nat → World → Prop)
    (hY : ∀ (pre : List Nat) (x : Nat) (W : World), J pre W → pre.length < m → YieldAt F (n - 1) Try.prog l #[.int .i64 (x : Int), .agg #[.int .i64 (at_ x), .slice (E x) (ln x) (ca x)]] W fun e W' =>
      (e = .returned (.bool true) ∧ J (pre ++ [x]) W' ∧ Keeps n₀ Bs W W') ∨ (e = .returned (.bool false) ∧ Jx (pre ++ [x]) W'))
    (W : World) (hBs : W.cell? ⟨Bs, 0, none⟩ = some (.slice A m cap)) (hc : ∀ j, j < m → W.cell? (ad.add (j * 2)) = some (.int .i64 (at_ j)) ∧ W.cell? ⟨(ad.add (j * 2)).block, (ad.add (j * 2)).off + 1, none⟩ = some (.slice (E j) (ln j) (ca j))) (h0 : J [] W) :
    CallsIn F n Try.prog 104 #[.func (.yield l) #[] #[], .pointer (some ⟨Bs, 0, none⟩)] W fun e W' => (∃ v, e = .returned v) ∧
      ((∃ ys, ys = downs m m ∧ J ys W') ∨ (∃ pre, (∃ k, k ≤ m ∧ pre = downs m k) ∧ Jx pre W')) := by
  refine callsIn_of_wp Try.func104 rfl hf ?_ hro
  simp only [Try.ntmps104, List.size_toArray, List.length_cons, List.length_nil, Nat.reduceAdd, Nat.reduceSub, Array.replicate_succ, Array.replicate_zero, List.push_toArray, List.append_toArray, List.nil_append, List.cons_append]
  have HC := Lib.hid hc
  clear hc
  replace hA := Lib.hid hA
  gi_wp2
  gi_loopw [3] (fun i wr => ∃ k : Nat, k ≤ m ∧ i = .int .i64 ((m : Int) - 1 - k) ∧ J (downs m k) wr ∧ Below n₀ W wr ∧ wr.cell? ⟨Bs, 0, none⟩ = some (.slice A m cap))
    (fun i _ => (intOf i + 1).toNat)
  case atStart => exact ⟨0, Nat.zero_le _, by simp, h0, Below.refl _ _, hBs⟩
  case round =>
    obtain ⟨k, hk, rfl, hJs, hnx, hbs⟩ := hrel
    by_cases hlt : k < m
    · obtain ⟨rfl, hb⟩ := hA.out (by omega)
      have hx := HC.out (m - 1 - k) (by omega)
      have hc1 : wr.cell? (ad.add ((m - 1 - k) * 2)) = some (.int .i64 (at_ (m - 1 - k))) := (hnx.cell (p := ad.add ((m - 1 - k) * 2)) (by rw [add_block]; exact hb)).trans hx.1
      have hc2 : wr.cell? ⟨(ad.add ((m - 1 - k) * 2)).block, (ad.add ((m - 1 - k) * 2)).off + 1, none⟩ = some (.slice (E (m - 1 - k)) (ln (m - 1 - k)) (ca (m - 1 - k))) := (hnx.cell (p := ⟨(ad.add ((m - 1 - k) * 2)).block, (ad.add ((m - 1 - k) * 2)).off + 1, none⟩) (by rw [add_block]; exact hb)).trans hx.2
      clear hx
      obtain ⟨fn, tmps, assign, body, hy, hR⟩ := hY _ (m - 1 - k) wr hJs (by rw [downs_length]; exact hlt)
      try dsimp only at hy
      have e1 : ((m : Int) - 1 - k).toNat = m - 1 - k := by omega
      have e2 : ((m - 1 - k : Nat) : Int) = (m : Int) - 1 - k := by omega
      rw [e2] at hy
      clear e2
      have hds := Lib.hid (downs_succ m k)
      generalize at_ (m - 1 - k) = q1 at *
      generalize E (m - 1 - k) = q2 at *
      generalize ln (m - 1 - k) = q3 at *
      generalize ca (m - 1 - k) = q4 at *
      gi_wp2
      refine hR.mono ?_
      rintro e W3 (⟨rfl, hJ3, hk3⟩ | ⟨rfl, hJx3⟩)
      · gi_wp2
        go_roundw
        case rel => exact ⟨k + 1, by omega, by go_num, by rw [hds.out]; exact hJ3, hnx.trans hk3.1, hk3.2.trans hbs⟩
        case measure => simp [intOf]; omega
      · gi_wp2
        refine bodyPost_ret (results_none rfl _ _ _) rfl ?_
        exact ⟨⟨_, rfl⟩, .inr ⟨_, ⟨k + 1, by omega, hds.out.symm⟩, hJx3⟩⟩
    · obtain rfl : k = m := by omega
      gi_wp2
      go_end0
      exact ⟨⟨_, rfl⟩, .inl ⟨_, rfl, hJs⟩⟩

set_option maxHeartbeats 1000000 in
/-- slices.Backward(s): the slice value is boxed; the function value captures the box. -/
theorem backwardW_in (F : Fence) (n : Nat) (hf : F.fn 96) (hro : F.round = none) (a : Option Addr) (len cap : Nat) (w : World) :
    CallsIn F n Try.prog 96 #[.slice a len cap] w fun e w' => e = .returned (.func (.func 104) #[] #[.pointer (some ⟨w.heap.size, 0, none⟩)]) ∧ w' = w.alloc (.cells #[.slice a len cap] 28) := by
  refine callsIn_of_wp Try.func96 rfl hf ?_ hro
  simp only [Try.ntmps96, List.size_toArray, List.length_cons, List.length_nil, Nat.reduceAdd, Nat.reduceSub, Array.replicate_succ, Array.replicate_zero, List.push_toArray, List.append_toArray, List.nil_append, List.cons_append]
  gi_wp2
  go_ret
  exact ⟨rfl, rfl⟩

/-- slices.Backward(s) hands back a value that gives the elements from behind: all, or the first k of them. -/
theorem backwardW_stops (F : Fence) (n : Nat) (hf : F.fn 104) (hro : F.round = none) (hn : 1 ≤ n) (Bs n₀ cap m : Nat) (A : Option Addr) (ad : Addr) (at_ : Nat → Int) (E : Nat → Option Addr) (ln ca : Nat → Nat) (hm : m ≤ 9223372036854775807) (w : World) (hBs : Bs < w.heap.size) (hn₀ : n₀ ≤ w.heap.size)
    (hc : w.cell? ⟨Bs, 0, none⟩ = some (.slice A m cap)) (hA : 0 < m → A = some ad ∧ ad.block < n₀) (hx : ∀ j, j < m → w.cell? (ad.add (j * 2)) = some (.int .i64 (at_ j)) ∧ w.cell? ⟨(ad.add (j * 2)).block, (ad.add (j * 2)).off + 1, none⟩ = some (.slice (E j) (ln j) (ca j))) :
    SeqStopsK F n Try.prog 104 #[.pointer (some ⟨Bs, 0, none⟩)] (fun x : Nat => #[Value.int .i64 (x : Int), Value.agg #[.int .i64 (at_ x), .slice (E x) (ln x) (ca x)]]) (Keeps n₀ Bs) (fun ys => ys = downs m m)
      (fun pre => ∃ k, k ≤ m ∧ pre = downs m k) m w := fun l J Jx W hW _ _ hY h0 => by
  have hc' := (hW.cell (p := ⟨Bs, 0, none⟩) hBs).trans hc
  exact backW_in F n hf hro hn l Bs n₀ cap m A ad at_ E ln ca hm hA J Jx hY W hc' (fun j hj => ⟨(hW.cell (p := ad.add (j * 2)) (by rw [add_block]; have := (hA (by omega)).2; omega)).trans (hx j hj).1, (hW.cell (p := ⟨(ad.add (j * 2)).block, (ad.add (j * 2)).off + 1, none⟩) (by rw [add_block]; have := (hA (by omega)).2; omega)).trans (hx j hj).2⟩) h0

/-- A disk's writes, their places and bytes as functions. -/
theorem wts_fn {w : World} {B : Option Addr} {ws : List Wt} (h : ∀ i x, ws[i]? = some x → ∃ ad v, B = some ad ∧ Old w (ad.add (i * 2)) ∧ Old w (ad.add (i * 2 + 1)) ∧ w.cell? (ad.add (i * 2)) = some (.int .i64 x.1) ∧ w.cell? (ad.add (i * 2 + 1)) = some v ∧ rBy (Old w) w [v] x.2 ∧ -9223372036854775808 ≤ x.1 ∧ x.1 ≤ 9223372036854775807) :
    ∃ (ad : Addr) (E : Nat → Option Addr) (ca : Nat → Nat), (0 < ws.length → B = some ad ∧ ad.block < w.heap.size) ∧ ∀ i x, ws[i]? = some x → w.cell? (ad.add (i * 2)) = some (.int .i64 x.1) ∧ w.cell? ⟨(ad.add (i * 2)).block, (ad.add (i * 2)).off + 1, none⟩ = some (.slice (E i) x.2.length (ca i)) ∧ rBy (Old w) w [.slice (E i) x.2.length (ca i)] x.2 := by
  have h2 : ∀ i, ∃ f : Option Addr × Nat, ∀ x, ws[i]? = some x → ∃ ad, B = some ad ∧ ad.block < w.heap.size ∧ w.cell? (ad.add (i * 2)) = some (.int .i64 x.1) ∧ w.cell? ⟨(ad.add (i * 2)).block, (ad.add (i * 2)).off + 1, none⟩ = some (.slice f.1 x.2.length f.2) ∧ rBy (Old w) w [.slice f.1 x.2.length f.2] x.2 := fun i => by
    cases hx : ws[i]? with
    | none => exact ⟨(none, 0), fun x e => by cases e⟩
    | some x =>
      obtain ⟨ad, v, rfl, o1, _, c1, c2, hv, _⟩ := h i x hx
      obtain ⟨E, c, rfl, _⟩ := rBy_open hv
      rw [add_next] at c2
      exact ⟨(E, c), fun y e => by cases e; exact ⟨ad, rfl, by unfold Old at o1; rwa [add_block] at o1, c1, c2, hv⟩⟩
  obtain ⟨f, hf⟩ : ∃ f : Nat → Option Addr × Nat, ∀ i x, ws[i]? = some x → ∃ ad, B = some ad ∧ ad.block < w.heap.size ∧ w.cell? (ad.add (i * 2)) = some (.int .i64 x.1) ∧ w.cell? ⟨(ad.add (i * 2)).block, (ad.add (i * 2)).off + 1, none⟩ = some (.slice (f i).1 x.2.length (f i).2) ∧ rBy (Old w) w [.slice (f i).1 x.2.length (f i).2] x.2 :=
    ⟨fun i => Classical.choose (h2 i), fun i => Classical.choose_spec (h2 i)⟩
  rcases B with _ | ad
  · refine ⟨⟨0, 0, none⟩, fun i => (f i).1, fun i => (f i).2, fun h0 => ?_, fun i x hi => ?_⟩
    · obtain ⟨_, e, _⟩ := hf 0 _ (List.getElem?_eq_getElem h0)
      cases e
    · obtain ⟨_, e, _⟩ := hf i x hi
      cases e
  · refine ⟨ad, fun i => (f i).1, fun i => (f i).2, fun h0 => ?_, fun i x hi => ?_⟩
    · obtain ⟨_, e, hb, _⟩ := hf 0 _ (List.getElem?_eq_getElem h0)
      cases e
      exact ⟨rfl, hb⟩
    · obtain ⟨_, e, _, hr⟩ := hf i x hi
      cases e
      exact hr

set_option maxRecDepth 100000 in
set_option maxHeartbeats 4000000 in
theorem seen_in (F : Fence) (n : Nat) (h3 : F.fn 82) (h5 : F.fn 96) (h7 : F.fn 104) (hro : F.round = none) (hn : 3 ≤ n)
    (v : Value) (d : Dk) (k : Nat) (hk : k < d.1.length) (w : World) (h : Dsk (Old w) w v d) :
    CallsIn F n Try.prog 82 #[v, .int .i64 k] w fun e W' => ∃ u, e = .returned u ∧ rBy (Old w) w [u] (seenD d k) ∧ Below w.heap.size w W' := by
  have h1 : 1 ≤ n := by omega
  obtain ⟨A, c, B, c', rfl, l1, m1, l2, m2, hA, hB⟩ := h.open
  obtain ⟨ad, E, ca, had, hfn⟩ := wts_fn hB
  obtain ⟨x, hx⟩ : ∃ x, d.1[k]? = some x := ⟨_, List.getElem?_eq_getElem hk⟩
  obtain ⟨a1, v1, rfl, ho1, hc1, hby1⟩ := hA k x hx
  have HF := Lib.hid hfn
  clear hA hB h hfn
  have hsd : Hid (seenD d k = seenW d.2 x k) := Lib.hid (by unfold seenD; rw [hx]; rfl)
  replace hx := Lib.hid hx
  obtain ⟨N, hN⟩ : ∃ N, d.1.length = N := ⟨_, rfl⟩
  obtain ⟨m, hm⟩ : ∃ m, d.2.length = m := ⟨_, rfl⟩
  rw [hN] at l1 hk ⊢
  rw [hm] at l2 had ⊢
  replace hN := Lib.hid hN
  replace hm := Lib.hid hm
  have hfa : Hid (∀ j, j < m → w.cell? (ad.add (j * 2)) = some (.int .i64 ((d.2[j]?.getD (0, [])).1)) ∧ w.cell? ⟨(ad.add (j * 2)).block, (ad.add (j * 2)).off + 1, none⟩ = some (.slice (E j) (d.2[j]?.getD (0, [])).2.length (ca j))) := Lib.hid fun j hj => by
    have hj' : d.2[j]? = some (d.2[j]'(by rw [hm.out]; exact hj)) := List.getElem?_eq_getElem _
    rw [hj']
    exact ⟨(HF.out j _ hj').1, (HF.out j _ hj').2.1⟩
  obtain ⟨E1, ce1, rfl, _⟩ := rBy_open hby1
  replace had := Lib.hid had
  refine callsIn_of_wp_marks Try.func82 rfl h3 ?_ hro
  simp only [Try.ntmps82, List.size_toArray, List.length_cons, List.length_nil, Nat.reduceAdd, Nat.reduceSub, Array.replicate_succ, Array.replicate_zero, List.push_toArray, List.append_toArray, List.nil_append, List.cons_append]
  gi_wp2_with (gi_at_call 96; refine (backwardW_in F (n - 1) h5 hro _ _ _ _).mono ?_; rintro e w' ⟨rfl, rfl⟩)
  obtain ⟨W0, hW0, hB0, hs0, b0, b1, b2, b2f, b3⟩ : ∃ W0, (((w.alloc (.cells #[.slice (some a1) N c, .slice B m c'] 30)).alloc (.cells #[.int .i64 (k : Int)] 3)).alloc (.cells #[.slice none 0 0] 40)).alloc (.cells #[.slice B m c'] 28) = W0 ∧ Below w.heap.size w W0 ∧ W0.heap.size = w.heap.size + 4 ∧
      W0.cell? ⟨w.heap.size, 0, none⟩ = some (.slice (some a1) N c) ∧ W0.cell? ⟨w.heap.size + 1, 0, none⟩ = some (.int .i64 (k : Int)) ∧ W0.cell? ⟨w.heap.size + 1 + 1, 0, none⟩ = some (.slice none 0 0) ∧ W0.frozen? ⟨w.heap.size + 1 + 1, 0, none⟩ = false ∧ W0.cell? ⟨w.heap.size + 1 + 1 + 1, 0, none⟩ = some (.slice B m c') :=
    ⟨_, rfl, ((((Below.refl _ w).alloc (Nat.le_refl _) _).alloc (by simp) _).alloc (by simp; omega) _).alloc (by simp; omega) _, by simp, by go_simp, by go_simp, by go_simp, by go_simp, by go_simp⟩
  rw [hW0]
  clear hW0
  obtain ⟨atf, hat⟩ : ∃ f : Nat → Int, f = fun j => (d.2[j]?.getD (0, [])).1 := ⟨_, rfl⟩
  obtain ⟨lnf, hln⟩ : ∃ f : Nat → Nat, f = fun j => (d.2[j]?.getD (0, [])).2.length := ⟨_, rfl⟩
  have hfb : ∀ j, j < m → W0.cell? (ad.add (j * 2)) = some (.int .i64 (atf j)) ∧ W0.cell? ⟨(ad.add (j * 2)).block, (ad.add (j * 2)).off + 1, none⟩ = some (.slice (E j) (lnf j) (ca j)) := fun j hj => by
    have hb := (had.out (by omega)).2
    rw [hat, hln]
    exact ⟨(hB0.cell (p := ad.add (j * 2)) (by rw [add_block]; exact hb)).trans (hfa.out j hj).1, (hB0.cell (p := ⟨(ad.add (j * 2)).block, (ad.add (j * 2)).off + 1, none⟩) (by rw [add_block]; exact hb)).trans (hfa.out j hj).2⟩
  have hlo : w.heap.size ≤ W0.heap.size := hB0.size
  replace hat := Lib.hid hat
  replace hln := Lib.hid hln
  refine wpIn_rangeFunc_ownH hro h1 (gf := 104) (lb := #[.pointer (some ⟨w.heap.size + 1 + 1 + 1, 0, none⟩)]) rfl h7 (enters_of Try.func104 (by kernel_rfl) rfl)
    (backwardW_stops F (n - 1) h7 hro (by omega) (w.heap.size + 1 + 1 + 1) w.heap.size c' m B ad atf E lnf ca (by omega) W0 (by omega) hlo b3 had.out hfb)
    (fun h h' => Keeps.trans h h') (fun W l o o' hl h1 h2 h3 => keeps_b (w := W0) (by omega) hlo l o o' hl h1 h2 h3) (Below.refl _ _) (fun _ => rfl)
    (fun pre W => ((∀ j ∈ pre, atf j ≠ k) ∧ W.cell? ⟨w.heap.size, 0, none⟩ = some (.slice (some a1) N c) ∧ W.cell? ⟨w.heap.size + 1, 0, none⟩ = some (.int .i64 (k : Int)) ∧ W.cell? ⟨w.heap.size + 1 + 1, 0, none⟩ = some (.slice none 0 0) ∧ W.frozen? ⟨w.heap.size + 1 + 1, 0, none⟩ = false ∧ W.cell? ⟨w.heap.size + 1 + 1 + 1, 0, none⟩ = some (.slice B m c')) ∧ Below w.heap.size w W)
    (fun cd pre W => (cd = .ret ∧ ∃ p i, pre = p ++ [i] ∧ (∀ j ∈ p, atf j ≠ k) ∧ atf i = k ∧ W.cell? ⟨w.heap.size + 1 + 1, 0, none⟩ = some (.slice (E i) (lnf i) (ca i))) ∧ Below w.heap.size w W)
    (OwnFrom.and (Own.from (fun s A B row hs hg hr => ⟨hs.1, cell_kept hs.2.1 hg hr, cell_kept hs.2.2.1 hg hr, cell_kept hs.2.2.2.1 hg hr, (frozen_kept hs.2.2.2.1 hg hr).trans hs.2.2.2.2.1, cell_kept hs.2.2.2.2.2 hg hr⟩) _) (ownFrom_below (Nat.le_refl _) hlo))
    (fun cd => OwnFrom.and (Own.from (fun s A B row hs hg hr => by
      obtain ⟨e, p, i, e2, h1, h2, hc⟩ := hs
      exact ⟨e, p, i, e2, h1, h2, cell_kept hc hg hr⟩) _) (ownFrom_below (Nat.le_refl _) hlo))
    ⟨⟨by simp, b0, b1, b2, b2f, b3⟩, hB0⟩
    (fun x a' W => ∃ g, a' = { tmps := #[.agg #[.slice (some a1) N c, .slice B m c'], .int .i64 (k : Int), .pointer (some ⟨w.heap.size, 0, none⟩), .pointer (some ⟨w.heap.size + 1, 0, none⟩), .pointer (some ⟨w.heap.size + 1 + 1, 0, none⟩), undef, .pointer (some ⟨g, 0, none⟩), .pointer (some ⟨w.heap.size, 1, none⟩), .slice B m c',
      .func (.func 104) #[] #[.pointer (some ⟨w.heap.size + 1 + 1 + 1, 0, none⟩)], .int .i64 (x : Int), .agg #[.int .i64 (atf x), .slice (E x) (lnf x) (ca x)], undef, undef, undef, undef, undef, undef, undef, undef, undef, undef, undef], defers := [] } ∧
      W.cell? ⟨g, 0, none⟩ = some (.int .i64 (atf x)) ∧ W.cell? ⟨g, 1, none⟩ = some (.slice (E x) (lnf x) (ca x)))
    (fun x a' => Own.from (fun s A B row hs hg hr => by
      obtain ⟨g, e, h1, h2⟩ := hs
      exact ⟨g, e, cell_kept h1 hg hr, cell_kept h2 hg hr⟩) _) ?assign ?body ?done ?stop
  case assign =>
    rintro l pre x W K ⟨⟨hp, c0, c1, c2, c2f, c3⟩, hb⟩ hK
    have hlW : w.heap.size + 1 + 1 < W.heap.size := World.block_lt_of_cell? _ _ c2
    gi_wp2
    exact hK _ _ ((KeepsOthers.alloc _ _).from _) ⟨(Below.refl _ W).alloc hb.size _, (Lib.cell?_alloc_some _ c3).trans c3.symm⟩
      ⟨⟨hp, Lib.cell?_alloc_some _ c0, Lib.cell?_alloc_some _ c1, Lib.cell?_alloc_some _ c2, (World.frozen?_of_block (Below.heap_alloc W _ _ hlW)).trans c2f, Lib.cell?_alloc_some _ c3⟩, hb.alloc hb.size _⟩ ⟨W.heap.size, rfl, by go_simp, by go_simp⟩
  case body =>
    rintro l pre x a' W hl hloop ⟨⟨hp, c0, c1, c2, c2f, c3⟩, hb⟩ ⟨g, rfl, g0, g1⟩ hlen
    by_cases he : atf x = k
    · have he' : (atf x == (k : Int)) = true := by simpa using he
      replace he := Lib.hid he
      gi_wp2
      refine ⟨(KeepsOthers.setCell _ _ _).from _, ⟨rfl, pre, x, rfl, hp, he.out, World.cell?_setCell_same' _ _ _ (by rw [c2]; rfl)⟩, hb.setCell (by simp; omega) _⟩
    · have he' : (atf x == (k : Int)) = false := by simpa using he
      replace he := Lib.hid he
      gi_wp2
      refine ⟨KeepsFrom.refl _ _, ⟨Below.refl _ _, rfl⟩, ⟨fun j hj => (List.mem_append.1 hj).elim (hp j) (fun e => by simp at e; rw [e]; exact he.out), c0, c1, c2, c2f, c3⟩, hb⟩
  case done =>
    rintro D zs W hD rfl ⟨⟨hp, c0, c1, c2, c2f, c3⟩, hb⟩ hK
    have hcx := (hb.cell ho1).trans hc1
    have hval : Hid (rBy (Old w) w [.slice E1 x.length ce1] (seenD d k)) := Lib.hid (by
      rw [hsd.out, seenW_none]
      · exact hby1
      · intro y hy
        obtain ⟨j, hj⟩ := List.getElem?_of_mem hy
        have := hp j ((mem_downs (Nat.le_refl _)).2 ⟨by omega, by rw [← hm.out]; exact (List.getElem?_eq_some_iff.1 hj).1⟩)
        rw [hat.out] at this
        simpa [hj] using this)
    gi_wp2
    have hK' := (KeepsOthers.setCell W ⟨w.heap.size + 1 + 1, 0, none⟩ (.slice E1 x.length ce1)).same D _ hK rfl
    refine ⟨by simp, .inl ⟨_, _, rfl, run_takeDeferred hK', ?_⟩⟩
    have hc5 := cell_kept (World.cell?_setCell_same' W ⟨w.heap.size + 1 + 1, 0, none⟩ (.slice E1 x.length ce1) (by rw [c2]; rfl)) (grownBy_putObj' _ D (.deferred none)) (fun r e => by cases e; exact ⟨_, hK', rfl⟩)
    refine ⟨.slice E1 x.length ce1, ?_, _, rfl, hval.out, (hb.setCell (p := ⟨w.heap.size + 1 + 1, 0, none⟩) (by simp; omega) _).trans (belowK_b hlo _ D _ _ hD hK' rfl rfl)⟩
    simp [results, Try.f82, go_sem, hc5]
  case stop =>
    rintro D cd pre W hD ⟨q, hq, rfl⟩ ⟨⟨rfl, p, i, hpi, h1, h2, hc⟩, hb⟩ hK
    have hi : i ∈ downs m q := by rw [hpi]; simp
    obtain ⟨hi1, hi2⟩ := (mem_downs hq).1 hi
    have hval : Hid (rBy (Old w) w [.slice (E i) (lnf i) (ca i)] (seenD d k)) := Lib.hid (by
      have hx2 : d.2[i]? = some (d.2[i]'(by rw [hm.out]; exact hi2)) := List.getElem?_eq_getElem _
      have e1 : atf i = (d.2[i]'(by rw [hm.out]; exact hi2)).1 := by rw [hat.out]; simp [hx2]
      have e2 : lnf i = (d.2[i]'(by rw [hm.out]; exact hi2)).2.length := by rw [hln.out]; simp [hx2]
      rw [hsd.out, e2, seenW_at hx2 (by rw [← e1]; exact h2)]
      · exact (HF.out i _ hx2).2.2
      · intro j y hij hj
        have hjm : j < m := by rw [← hm.out]; exact (List.getElem?_eq_some_iff.1 hj).1
        have hjd : j ∈ downs m q := (mem_downs hq).2 ⟨by omega, hjm⟩
        rw [hpi] at hjd
        have := h1 j ((List.mem_append.1 hjd).elim id (fun e => by simp at e; omega))
        rw [hat.out] at this
        simpa [hj] using this)
    gi_wp2
    refine ⟨by simp, .inl ⟨_, _, rfl, run_takeDeferred hK, ?_⟩⟩
    have hc5 := cell_kept hc (grownBy_putObj' _ D (.deferred none)) (fun r e => by cases e; exact ⟨_, hK, rfl⟩)
    refine ⟨.slice (E i) (lnf i) (ca i), ?_, _, rfl, hval.out, hb.trans (belowK_b hlo _ D _ _ hD hK rfl rfl)⟩
    simp [results, Try.f82, go_sem, hc5]

theorem seen_any (v : Value) (d : Dk) (k : Nat) (hk : k < d.1.length) (w : World) (h : Dsk (Old w) w v d) :
    Calls Try.prog 82 #[v, .int .i64 k] w fun e W' => ∃ u, e = .returned u ∧ rBy (Old w) w [u] (seenD d k) ∧ Below w.heap.size w W' :=
  callsIn_wide.1 (seen_in Fence.wide 3 trivial trivial trivial rfl (Nat.le_refl _) v d k hk w h)
end Go.Proofs.Ytdcgcnnofjekaaa

/-
  Package dev: checkAt, Read. Conditions: those that each lemma states.
-/
namespace Go.Proofs.Ytdcgcnnofjekaaa
open Go.RowKit

/-- The error of a disk and a place. -/
def chkAt (d : Dk) (n : Int) : Int := if mayB d then (if thereB n then 0 else 2) else 8
theorem chkAt_bad {d : Dk} {n : Int} (h : mayB d = false) : chkAt d n = 8 := by simp [chkAt, h]
theorem chkAt_out {d : Dk} {n : Int} (h : mayB d = true) (h' : thereB n = false) : chkAt d n = 2 := by simp [chkAt, h, h']
theorem chkAt_ok {d : Dk} {n : Int} (h : mayB d = true) (h' : thereB n = true) : chkAt d n = 0 := by simp [chkAt, h, h']
theorem thereB_nat {n : Int} (h : thereB n = true) : ∃ k : Nat, n = k ∧ k < 256 := by
  simp only [thereB, Bool.and_eq_true, decide_eq_true_eq] at h
  exact ⟨n.toNat, by omega, by omega⟩
theorem thereB_of {k : Nat} (h : k < 256) : thereB (k : Int) = true := by
  simp only [thereB, Bool.and_eq_true, decide_eq_true_eq]
  omega

set_option maxHeartbeats 1000000 in
theorem checkAt_any (v : Value) (d : Dk) (n : Int) (w : World) (h : Dsk (Old w) w v d) : Calls Try.prog 55 #[v, .int .i64 n] w fun e w' => e = .returned (.int .i64 (chkAt d n)) ∧ Below w.heap.size w w' := by
  obtain ⟨a, b, rfl, _⟩ := id h
  have hB := balloc (Below.refl w.heap.size w) (.cells #[a, b] 30)
  have H := Lib.hid (h.below hB)
  cases hm : mayB d with
  | true =>
    have hc := Lib.hid (chk_ok hm)
    cases ht : thereB n with
    | true =>
      have hr := Lib.hid (chkAt_ok hm ht)
      replace hm := Lib.hid hm
      replace ht := Lib.hid ht
      go_enter Try.func55, Try.ntmps55
      go_wp2_with fail
      refine (check_any _ d _ H.out).mono ?_
      rintro e w1 ⟨rfl, hb1⟩
      rw [hc.out]
      go_wp2_with fail
      refine (there_any _ _).mono ?_
      rintro e w2 ⟨rfl, rfl⟩
      rw [ht.out]
      go_wp2_with fail
      go_ret
      exact ⟨ret_int hr.out.symm, hB.trans (hb1.mono hB.size)⟩
    | false =>
      have hr := Lib.hid (chkAt_out hm ht)
      replace hm := Lib.hid hm
      replace ht := Lib.hid ht
      go_enter Try.func55, Try.ntmps55
      go_wp2_with fail
      refine (check_any _ d _ H.out).mono ?_
      rintro e w1 ⟨rfl, hb1⟩
      rw [hc.out]
      go_wp2_with fail
      refine (there_any _ _).mono ?_
      rintro e w2 ⟨rfl, rfl⟩
      rw [ht.out]
      go_wp2_with fail
      go_ret
      exact ⟨ret_int hr.out.symm, hB.trans (hb1.mono hB.size)⟩
  | false =>
    have hc := Lib.hid (chk_bad hm)
    have hr := Lib.hid (chkAt_bad (n := n) hm)
    replace hm := Lib.hid hm
    go_enter Try.func55, Try.ntmps55
    go_wp2_with fail
    refine (check_any _ d _ H.out).mono ?_
    rintro e w1 ⟨rfl, hb1⟩
    rw [hc.out]
    go_wp2_with fail
    go_ret
    exact ⟨ret_int hr.out.symm, hB.trans (hb1.mono hB.size)⟩

set_option maxHeartbeats 1000000 in
theorem read_bad (v : Value) (d : Dk) (n : Int) (w : World) (h : Dsk (Old w) w v d) (hn : ¬ (mayB d = true ∧ thereB n = true)) :
    Calls Try.prog 61 #[v, .int .i64 n] w fun e w' => e = .returned (.tuple #[.slice none 0 0, .int .i64 (chkAt d n)]) ∧ Below w.heap.size w w' := by
  obtain ⟨a, b, rfl, _⟩ := id h
  have hB := balloc (Below.refl w.heap.size w) (.cells #[a, b] 30)
  have H := Lib.hid (h.below hB)
  have hc : chkAt d n = 8 ∨ chkAt d n = 2 := by
    cases hm : mayB d with
    | false => exact .inl (chkAt_bad hm)
    | true =>
      cases ht : thereB n with
      | false => exact .inr (chkAt_out hm ht)
      | true => exact absurd ⟨hm, ht⟩ hn
  clear hn
  rcases hc with hc | hc
  all_goals
    rw [hc]
    replace hc := Lib.hid hc
    go_enter Try.func61, Try.ntmps61
    go_wp2_with fail
    refine (checkAt_any _ d n _ H.out).mono ?_
    rintro e w1 ⟨rfl, hb1⟩
    rw [hc.out]
    go_wp2_with fail
    go_ret2
    exact ⟨rfl, hB.trans (hb1.mono hB.size)⟩

set_option maxHeartbeats 1000000 in
theorem read_ok (v : Value) (d : Dk) (k : Nat) (w : World) (h : Dsk (Old w) w v d) (hm : mayB d = true) (hk : k < 256) :
    Calls Try.prog 61 #[v, .int .i64 k] w fun e w' => ∃ u, e = .returned (.tuple #[u, .int .i64 0]) ∧ rBy (New w.heap.size w') w' [u] (seenD d k) ∧ Below w.heap.size w w' := by
  obtain ⟨a, b, rfl, ha, hb⟩ := id h
  obtain ⟨w0, hw0, f1, f2, f3, hB⟩ := box_pair w a b 30
  have H := Lib.hid (h.below hB)
  have hc := Lib.hid (chkAt_ok hm (thereB_of hk))
  have hl : k < d.1.length := by rw [(may_of hm).1]; exact hk
  have hbig : Hid ((seenD d k).length = 128) := Lib.hid (by
    obtain ⟨h1, h2, h3, h4⟩ := may_of hm
    refine seenW_length ?_ fun x hx => ?_
    · rw [List.getElem?_eq_getElem hl]
      exact h3 k _ (List.getElem?_eq_getElem hl)
    · obtain ⟨j, hj⟩ := List.getElem?_of_mem hx
      exact (h4 j x hj).2.2)
  obtain ⟨A, c, e1, _⟩ := rows_open ha
  obtain ⟨B, e, e2, _⟩ := wts_open hb
  cases e1
  cases e2
  replace f3 := Lib.hid f3
  replace hm := Lib.hid hm
  go_enter Try.func61, Try.ntmps61
  go_upto_region 1 with fail
  clear hw0
  go_wp2_with fail
  refine (checkAt_any _ d k _ H.out).mono ?_
  rintro e w1 ⟨rfl, hb1⟩
  rw [hc.out]
  have H1 := Lib.hid (H.out.below hb1)
  have g1 := (hb1.cell (p := ⟨w.heap.size, 0, none⟩) (by rw [f3.out]; simp)).trans f1
  have g2 := (hb1.cell (p := ⟨w.heap.size, 1, none⟩) (by rw [f3.out]; simp)).trans f2
  have hB1 := hB.trans (hb1.mono hB.size)
  clear f1 f2 hB hb1
  go_wp2_with fail
  refine (seen_any _ d k hl _ H1.out).mono ?_
  rintro e w2 ⟨u, rfl, hu, hb2⟩
  have hu2 := stab_by.old hu hb2
  have hB2 := hB1.trans (hb2.mono hB1.size)
  go_wp2_with fail
  refine (clone_by u _ _ (by rw [hbig.out]; omega) hu2).mono ?_
  rintro e w3 ⟨x, rfl, hx, hb3⟩
  have hfin := Lib.hid (stab_by.mono hx hB2.size)
  have hB3 := hB2.trans (hb3.mono hB2.size)
  clear hx hu hu2
  go_wp2_with fail
  go_ret2
  exact ⟨x, rfl, hfin.out, hB3⟩
end Go.Proofs.Ytdcgcnnofjekaaa

/-
  Package dev: Write. Conditions: those that each lemma states.
-/
namespace Go.Proofs.Ytdcgcnnofjekaaa
open Go.RowKit

/-- The error of a write. -/
def wErr (d : Dk) (n : Int) (xs : List UInt8) : Int := if mayB d then (if thereB n then (if xs.length = 128 then (if d.2.length = 4096 then 9 else 0) else 3) else 2) else 8
theorem wErr_at {d : Dk} {n : Int} {xs : List UInt8} (h : chkAt d n ≠ 0) : wErr d n xs = chkAt d n := by
  unfold wErr chkAt at *
  split
  · split
    · simp_all
    · rfl
  · rfl

set_option maxHeartbeats 2000000 in
theorem write_bad (v u : Value) (d : Dk) (n : Int) (xs : List UInt8) (w : World) (h : Dsk (Old w) w v d) (hu : rBy (Old w) w [u] xs) (he : wErr d n xs ≠ 0) :
    Calls Try.prog 30 #[v, .int .i64 n, u] w fun e w' => e = .returned (.tuple #[.agg #[.slice none 0 0, .slice none 0 0], .int .i64 (wErr d n xs)]) ∧ Below w.heap.size w w' := by
  obtain ⟨a, b, rfl, _⟩ := id h
  obtain ⟨w2, hw2, f1, f2, f3, hsz, hB⟩ := box_two w a b #[.slice none 0 0, .slice none 0 0] 30
  have H := Lib.hid (h.below hB)
  obtain ⟨A, c, B, e, e1, _⟩ := h.open
  cases e1
  obtain ⟨E, ce, rfl, _⟩ := rBy_open hu
  clear h hu
  replace hsz := Lib.hid hsz
  cases hc : chkAt d n == 0 with
  | false =>
    have hc' : chkAt d n ≠ 0 := by simpa using hc
    have hw := Lib.hid (wErr_at (xs := xs) hc')
    obtain ⟨q, hq⟩ : ∃ q, chkAt d n = q := ⟨_, rfl⟩
    rw [hw.out, hq]
    rw [hq] at hc
    replace hq := Lib.hid hq
    have hc2 : (q != 0) = true := by simpa using hc
    clear he hc'
    go_enter Try.func30, Try.ntmps30
    go_upto_region 1 with fail
    clear hw2
    go_wp2_with fail
    refine (checkAt_any _ d n _ H.out).mono ?_
    rintro e w3 ⟨rfl, hb3⟩
    rw [hq.out]
    have f4 := (hb3.block (w.heap.size + 1) (by rw [hsz.out]; omega)).trans f3
    obtain ⟨k1, k2, k3, k4⟩ := two_cells f4
    obtain ⟨W9, hW9, g9, gr9, gs9⟩ := put_two (u := .slice none 0 0) (v := .slice none 0 0) f4
    obtain ⟨k5, k6, _, _⟩ := two_cells g9
    have hB9 := (hB.trans (hb3.mono hB.size)).grown gr9 (Nat.le_trans hB.size hb3.size) (fun q e => by cases e; omega)
    replace f4 := Lib.hid f4
    replace f3 := Lib.hid f3
    replace g9 := Lib.hid g9
    clear f1 f2
    go_wp2_with fail
    exact bodyPost_ret (v := .tuple #[.agg #[.slice none 0 0, .slice none 0 0], .int .i64 q]) (by simp [results, Try.results30, go_sem, k5, k6]) rfl ⟨rfl, hB9⟩
  | true =>
    have hc' : chkAt d n = 0 := by simpa using hc
    clear hc
    have hmt : mayB d = true ∧ thereB n = true := by
      unfold chkAt at hc'
      cases h1 : mayB d <;> cases h2 : thereB n <;> simp [h1, h2] at hc' ⊢
    replace hc' := Lib.hid hc'
    by_cases h8 : xs.length = 128
    · have h9 : d.2.length = 4096 := by
        unfold wErr at he
        simp [hmt, h8] at he
        exact he
      have hw := Lib.hid (show wErr d n xs = 9 by simp [wErr, hmt, h8, h9])
      rw [hw.out]
      have e8 : ((xs.length : Int) != 128) = false := by rw [h8]; rfl
      have e9 : ((d.2.length : Int) == 4096) = true := by rw [h9]; rfl
      replace h8 := Lib.hid h8
      replace h9 := Lib.hid h9
      clear he hmt
      go_enter Try.func30, Try.ntmps30
      go_upto_region 1 with fail
      clear hw2
      go_wp2_with fail
      refine (checkAt_any _ d n _ H.out).mono ?_
      rintro e w3 ⟨rfl, hb3⟩
      rw [hc'.out]
      have f4 := (hb3.block (w.heap.size + 1) (by rw [hsz.out]; omega)).trans f3
      have g2 := (hb3.cell (p := ⟨w.heap.size, 1, none⟩) (by rw [hsz.out]; simp)).trans f2
      obtain ⟨k1, k2, k3, k4⟩ := two_cells f4
      obtain ⟨W9, hW9, g9, gr9, gs9⟩ := put_two (u := .slice none 0 0) (v := .slice none 0 0) f4
      obtain ⟨k5, k6, _, _⟩ := two_cells g9
      have hB9 := (hB.trans (hb3.mono hB.size)).grown gr9 (Nat.le_trans hB.size hb3.size) (fun q e => by cases e; omega)
      replace f4 := Lib.hid f4
      replace f3 := Lib.hid f3
      replace g9 := Lib.hid g9
      clear f1 f2
      go_wp2_with fail
      exact bodyPost_ret (v := .tuple #[.agg #[.slice none 0 0, .slice none 0 0], .int .i64 9]) (by simp [results, Try.results30, go_sem, k5, k6]) rfl ⟨rfl, hB9⟩
    · have hw := Lib.hid (show wErr d n xs = 3 by simp [wErr, hmt, h8])
      rw [hw.out]
      have e8 : ((xs.length : Int) != 128) = true := by simp; omega
      clear he hmt h8
      go_enter Try.func30, Try.ntmps30
      go_upto_region 1 with fail
      clear hw2
      go_wp2_with fail
      refine (checkAt_any _ d n _ H.out).mono ?_
      rintro e w3 ⟨rfl, hb3⟩
      rw [hc'.out]
      have f4 := (hb3.block (w.heap.size + 1) (by rw [hsz.out]; omega)).trans f3
      obtain ⟨k1, k2, k3, k4⟩ := two_cells f4
      obtain ⟨W9, hW9, g9, gr9, gs9⟩ := put_two (u := .slice none 0 0) (v := .slice none 0 0) f4
      obtain ⟨k5, k6, _, _⟩ := two_cells g9
      have hB9 := (hB.trans (hb3.mono hB.size)).grown gr9 (Nat.le_trans hB.size hb3.size) (fun q e => by cases e; omega)
      replace f4 := Lib.hid f4
      replace f3 := Lib.hid f3
      replace g9 := Lib.hid g9
      clear f1 f2
      go_wp2_with fail
      exact bodyPost_ret (v := .tuple #[.agg #[.slice none 0 0, .slice none 0 0], .int .i64 3]) (by simp [results, Try.results30, go_sem, k5, k6]) rfl ⟨rfl, hB9⟩

set_option maxRecDepth 100000 in
set_option maxHeartbeats 4000000 in
theorem write_ok (v u : Value) (d : Dk) (k : Nat) (xs : List UInt8) (w : World) (h : Dsk (Old w) w v d) (hu : rBy (Old w) w [u] xs) (hm : mayB d = true) (hk : k < 256) (hl : xs.length = 128) (hf : d.2.length < 4096) :
    Calls Try.prog 30 #[v, .int .i64 k, u] w fun e w' => ∃ x, e = .returned (.tuple #[x, .int .i64 0]) ∧ Dsk (New w.heap.size w') w' x (d.1, d.2 ++ [((k : Int), xs)]) ∧ Below w.heap.size w w' := by
  obtain ⟨i0, hi, hz0, hz1, hz2⟩ := info_parts wts_info0
  obtain ⟨a, b, rfl, _⟩ := id h
  obtain ⟨w2, hw2, f1, f2, f3, hsz, hB⟩ := box_two w a b #[.slice none 0 0, .slice none 0 0] 30
  have H := Lib.hid (h.below hB)
  obtain ⟨A, c, B, e, e1, _⟩ := h.open
  cases e1
  have hu2 := stab_by.old hu hB
  obtain ⟨E, ce, rfl, _⟩ := rBy_open hu
  clear h hu
  replace hsz := Lib.hid hsz
  have hc := Lib.hid (chkAt_ok hm (thereB_of hk))
  have hsm := Lib.hid (small_of_may hm)
  have e8 : ((xs.length : Int) != 128) = false := by rw [hl]; rfl
  have e9 : ((d.2.length : Int) == 4096) = false := by simp; omega
  replace hm := Lib.hid hm
  replace hl := Lib.hid hl
  go_enter Try.func30, Try.ntmps30
  go_upto_region 1 with fail
  clear hw2
  go_wp2_with fail
  refine (checkAt_any _ d k _ H.out).mono ?_
  rintro e w3 ⟨rfl, hb3⟩
  rw [hc.out]
  have f4 := (hb3.block (w.heap.size + 1) (by rw [hsz.out]; omega)).trans f3
  have g1 := (hb3.cell (p := ⟨w.heap.size, 0, none⟩) (by rw [hsz.out]; simp)).trans f1
  have g2 := (hb3.cell (p := ⟨w.heap.size, 1, none⟩) (by rw [hsz.out]; simp)).trans f2
  have H3 := Lib.hid (H.out.below hb3)
  have hu3 := stab_by.old hu2 hb3
  have hB3 := hB.trans (hb3.mono hB.size)
  have hl3 : w.heap.size + 2 ≤ w3.heap.size := by have := hsz.out; have := hb3.size; omega
  replace f4 := Lib.hid f4
  clear f1 f2 f3 hu2 H hB hb3
  go_wp2_with fail
  refine (twin_own _ d _ hsm.out H3.out).mono ?_
  rintro e w4 ⟨x, rfl, ⟨a4, A4, c4, ps, rfl, hx1, hx2, hx3, hx4⟩, hb4⟩
  obtain ⟨R4, r4, er, _⟩ := rows_open hx1
  cases er
  have hu4 := stab_by.old hu3 hb4
  have f5 := (hb4.block (w.heap.size + 1) (by omega)).trans f4.out
  have hB4 := hB3.trans (hb4.mono hB3.size)
  have hl4 : w.heap.size + 2 ≤ w4.heap.size := Nat.le_trans hl3 hb4.size
  obtain ⟨wb, hwb, b1, b3, hbb⟩ := box_pair' w4 (.slice R4 d.1.length r4) (.slice A4 d.2.length c4) 30
  have hu5 := stab_by.old hu4 hbb
  have hA4 : Hid (∀ q, A4.map (·.block) = some q → q < w4.heap.size ∧ w3.heap.size ≤ q) := Lib.hid fun q e => by
    have := hx2.lt q (by rw [hx3]; exact e)
    exact ⟨this.2, this.1⟩
  have hownb : wb.drew.ownsRow w3.heap.size 88 2 (.slice A4 d.2.length c4) d.2.length (wcells ps) := own_below hx2 hbb.drew
  have f6 := (hbb.block (w.heap.size + 1) (by omega)).trans f5
  obtain ⟨_, s1, s2, s3⟩ := two_cells b1
  have hB5 := hB4.trans (hbb.mono hB4.size)
  replace b1 := Lib.hid b1
  replace hownb := Lib.hid hownb
  replace f5 := Lib.hid f5
  replace f6 := Lib.hid f6
  replace hx1 := Lib.hid hx1
  replace hx2 := Lib.hid hx2
  replace hx4 := Lib.hid hx4
  replace hx3 := Lib.hid hx3
  replace b3 := Lib.hid b3
  have hub : Hid (rBy (Old wb) wb [.slice E xs.length ce] xs) := Lib.hid hu5
  clear hu3 hu4 hu5
  have hd2 : d.2.length < 4096 := hf
  go_upto_region 9 with fail
  clear hwb
  have p1 : xs.length ≤ 140737488355328 := by rw [hl.out]; omega
  refine wp_region_tails (by kernel_rfl) 7 (fun W => Below wb.heap.size wb W) (fun i => match i with
      | 4 => some (fun v W => rBy (New wb.heap.size W) W [v] xs)
      | 5 => some (fun v W => ∃ Y cy, v = .agg #[.int .i64 (k : Int), .slice Y xs.length cy] ∧ rBy (New wb.heap.size W) W [.slice Y xs.length cy] xs)
      | 6 => some (fun v W => ∃ g Y cy, v = .slice (some ⟨g, 0, none⟩) 1 1 ∧ wb.heap.size ≤ g ∧ W.heap[g]? = some (.cells #[.int .i64 (k : Int), .slice Y xs.length cy] 88 (0, 0)) ∧ rBy (New wb.heap.size W) W [.slice Y xs.length cy] xs)
      | _ => none) (fun _ => none) (by decide) (by kernel_rfl) (by kernel_rfl) (Below.refl _ _).drew (fun w w' h hb => h.trans (hb.mono h.size)) ?tst ?_
  case tst =>
    intro j φ x W W' hp hx hb
    match j, hp with
    | 4, hp => cases hp; exact stab_by.new hx (Nat.le_refl _) hb
    | 5, hp =>
      cases hp
      obtain ⟨Y, cy, e1, e2⟩ := hx
      exact ⟨Y, cy, e1, stab_by.new e2 (Nat.le_refl _) hb⟩
    | 6, hp =>
      cases hp
      obtain ⟨g, Y, cy, e1, e2, e3, e4⟩ := hx
      exact ⟨g, Y, cy, e1, e2, (hb.block g (Array.getElem?_eq_some_iff.1 e3).1).trans e3, stab_by.new e4 (Nat.le_refl _) hb⟩
  simp only [List.take_succ_cons, List.take_zero, List.drop_succ_cons, List.drop_zero]
  repeat (first
    | (refine wpAs_skip rfl ?_; simp only [Act.put, List.setIfInBounds_toArray, List.set_cons_zero, List.set_cons_succ])
    | (refine wpAs_pure (v := ?_) rfl rfl ?_ ?_; rotate_left; (intro W hC hE; clear hE; (have z1 := (hC.cell (p := ⟨w4.heap.size, 1, none⟩) s3).trans s1); clear hC; go_simp; done); simp only [Act.put, List.setIfInBounds_toArray, List.set_cons_zero, List.set_cons_succ])
    | (refine wpAs_pure (v := ?_) rfl rfl ?_ ?_; rotate_left; (intro W hC hE; clear hE; (have z1 := (hC.cell (p := ⟨w4.heap.size, 1, none⟩) s3).trans s1); clear hC; go_simp; with_reducible rfl); simp only [Act.put, List.setIfInBounds_toArray, List.set_cons_zero, List.set_cons_succ]))
  refine wpAs_act rfl rfl ?_ ?_
  · intro W hC hE
    clear hE
    refine does_enter (f := 57) (args := #[.slice E xs.length ce]) ?_ ?_
    · go_simp
    · refine (clone_by _ xs W p1 (stab_by.old hub.out hC)).mono ?_
      rintro e W' ⟨u, rfl, ho, hb⟩
      exact ⟨_, rfl, stab_by.mono ho hC.size, hb⟩
  simp only [Act.put, List.setIfInBounds_toArray, List.set_cons_zero, List.set_cons_succ, envAdd]
  intro x32
  refine wpAs_act rfl rfl ?_ ?_
  · intro W hC hE
    have h32 := hE.1 rfl
    obtain ⟨Y, cy, rfl, _⟩ := rBy_open h32
    clear hE hC
    have h32' := Lib.hid h32
    clear h32
    go_simp
    exact ⟨⟨Y, cy, rfl, h32'.out⟩, Below.refl _ _⟩
  simp only [Act.put, List.setIfInBounds_toArray, List.set_cons_zero, List.set_cons_succ, envAdd]
  intro x33
  refine wpAs_act rfl rfl ?_ ?_
  · intro W hC hE
    obtain ⟨Y, cy, rfl, h33⟩ := hE.1 rfl
    have hsz' := hC.size
    have h33' := Lib.hid (stab_by.new h33 (Nat.le_refl _) ((Below.refl W.heap.size W).alloc (Nat.le_refl _) (.cells #[.int .i64 (k : Int), .slice Y xs.length cy] 88)))
    clear hE hC h33
    go_simp
    exact ⟨⟨W.heap.size, rfl, hsz', Y, cy, heap_alloc_new _ _, h33'.out⟩, (Below.refl _ _).alloc (Nat.le_refl _) _⟩
  simp only [Act.put, List.setIfInBounds_toArray, List.set_cons_zero, List.set_cons_succ, envAdd]
  intro x34
  refine wpAs_end fun W hC hE => ?_
  obtain ⟨⟨g, Y, cy, rfl, hg, hg3, hy⟩, _⟩ := hE
  have hownW := own_below hx2.out (hbb.trans (hC.mono hbb.size))
  have hbkW := (hC.block w4.heap.size s3).trans b1.out
  obtain ⟨_, z1, z2, z3⟩ := two_cells hbkW
  obtain ⟨y1, y2, _, y4⟩ := two_cells hg3
  have hBW := hB5.trans (hC.mono hB5.size)
  have hlW : w3.heap.size ≤ W.heap.size := Nat.le_trans hb4.size (by have := b3.out; omega)
  have p2 : d.2.length + 1 ≤ maxLen := by unfold maxLen; omega
  have p3 : (d.2.length + 1) * 32 ≤ 140737488355328 := by omega
  have hlc := hy
  replace hbkW := Lib.hid hbkW
  replace hg3 := Lib.hid hg3
  replace hlc := Lib.hid hlc
  clear hy
  go_wp2_with (at_builtin; refine wpList_append_own _ rfl _ _ 28 rfl w3.heap.size 88 i0 (.agg #[.int .i64 0, .slice none 0 0]) 2 32 Try.underlying28 hi hz0 hz1 hz2 rfl (by decide) _ _ _ rfl hownW ⟨g, 0, none⟩ 1 1 [.int .i64 (k : Int), .slice Y xs.length cy] rfl rfl ?d1 ?d2 p2 p3 hlW ?_)
  case d1 => exact World.news_of_block (cs := #[.int .i64 (k : Int), .slice Y xs.length cy]) hg3.out
  case d2 =>
    intro u hu
    simp at hu
    rcases hu with rfl | rfl <;> rfl
  intro v' w1 hown' hgrow _
  obtain ⟨A5, c5, rfl, q1, q2, q3, q4⟩ := own_any hown'
  have p8 : some w4.heap.size ≠ (Value.slice A4 d.2.length c4).ownBlock := by rw [hx3.out]; exact fun e => absurd (hA4.out _ e.symm).1 (Nat.lt_irrefl _)
  have zz := (hgrow.block w4.heap.size z3 p8).trans hbkW.out
  obtain ⟨y5, y6, y7, y8⟩ := two_cells zz
  obtain ⟨W6, hW6, g6, gr6, gs6⟩ := put_snd (u := .slice A5 (d.2.length + 1) c5) zz
  obtain ⟨y9, y10, _, _⟩ := two_cells g6
  have hrow : ∀ q, (Value.slice A4 d.2.length c4).ownBlock = some q → w3.heap.size ≤ q := fun q e => (hA4.out q (by rw [← hx3.out]; exact e)).2
  have hl3' : w.heap.size + 2 ≤ w3.heap.size := hl3
  have fz := ((gr6.block (w.heap.size + 1) (by have := hgrow.size; omega) (fun e => by simp only [Option.some.injEq] at e; omega)).trans ((hgrow.block (w.heap.size + 1) (by omega) (fun e => by have := hrow _ e.symm; omega)).trans ((hC.block (w.heap.size + 1) (by have := b3.out; omega)).trans f6.out)))
  obtain ⟨y11, y12, y13, _⟩ := two_cells fz
  obtain ⟨W9, hW9, g9, gr9, gs9⟩ := put_two (u := .slice R4 d.1.length r4) (v := .slice A5 (d.2.length + 1) c5) fz
  obtain ⟨k5, k6, _, _⟩ := two_cells g9
  have hB1 := hBW.grown hgrow hBW.size (fun q e => by have := hrow q e; omega)
  have hB6 := hB1.grown gr6 hB1.size (fun q e => by cases e; omega)
  have hB9 := hB6.grown gr9 hB6.size (fun q e => by cases e; omega)
  have hfin := Lib.hid (show Dsk (New w.heap.size W9) W9 (.agg #[.slice R4 d.1.length r4, .slice A5 (d.2.length + 1) c5]) (d.1, d.2 ++ [((k : Int), xs)]) from by
    have hne1 := own_not hown' zz (by decide)
    have hown6 := hown'.kept gr6 (.inr (Ne.symm hne1))
    have hne2 := own_not hown6 fz (by decide)
    have hown9 := own_low (hown6.kept gr9 (.inr (Ne.symm hne2))) (show w.heap.size ≤ w3.heap.size by omega)
    have hsame : ∀ b, w3.heap.size ≤ b → b < w4.heap.size → A4.map (·.block) ≠ some b → W9.heap[b]? = w4.heap[b]? := fun b h1 h2 h3 => by
      have hbW : b < W.heap.size := by have := b3.out; have := hC.size; omega
      rw [gr9.block b (by have := gs6; have := hgrow.size; omega) (fun e => by simp only [Option.some.injEq] at e; omega), gr6.block b (Nat.lt_of_lt_of_le hbW hgrow.size) (fun e => by simp only [Option.some.injEq] at e; omega),
        hgrow.block b hbW (fun e => h3 (by rw [← hx3.out]; exact e.symm)), hC.block b (by have := b3.out; omega), hbb.block b h2]
    have hst9 : ∀ p v, NewBut w3.heap.size A4 w4 p → w4.cell? p = some v → New w.heap.size W9 p ∧ W9.cell? p = some v := fun p v hp hc => by
      have hs := hsame p.block hp.1.1 hp.1.2.1 hp.2
      refine ⟨⟨by have := hp.1.1; omega, ?_, (World.frozen?_of_block hs).trans hp.1.2.2⟩, (World.cell?_of_block hs).trans hc⟩
      have := hp.1.2.1
      have := gs9
      have := gs6
      have := hgrow.size
      have := hC.size
      have := b3.out
      omega
    refine ⟨_, _, rfl, stab_sl stab_by _ _ _ _ _ _ hst9 hx1.out, ?_⟩
    have e1 : wcells ps ++ [.int .i64 (k : Int), .slice Y xs.length cy] = wcells (ps ++ [((k : Int), .slice Y xs.length cy)]) := by rw [wcells_append]; rfl
    rw [e1] at hown9
    have hpl : ps.length = d.2.length := by have := hx2.out.1; rw [wcells_length] at this; omega
    have hlen9 : (d.2 ++ [((k : Int), xs)]).length = d.2.length + 1 := by simp
    have h9 := own_wts hown9 hlen9 fun i p x hp hx => ?_
    · exact h9
    rcases Nat.lt_or_ge i ps.length with hi | hi
    · rw [List.getElem?_append_left hi] at hp
      rw [List.getElem?_append_left (by omega)] at hx
      obtain ⟨c1, c2, c3⟩ := hx4.out i p x hp hx
      exact ⟨c1, stab_by _ _ _ _ _ _ hst9 c2, c3⟩
    · rw [List.getElem?_append_right hi] at hp
      rw [List.getElem?_append_right (by omega)] at hx
      have hj0 : i - ps.length = 0 := by
        have := (List.getElem?_eq_some_iff.1 hp).1
        simp at this
        omega
      rw [hj0] at hp
      rw [← hpl, hj0] at hx
      simp at hp hx
      subst hp
      subst hx
      refine ⟨rfl, stab_by.mono (stab_by.grown (stab_by.grown (stab_by.grown hlc.out hgrow (fun q e => ?_)) gr6 (fun q e => ?_)) gr9 (fun q e => ?_)) (by have := b3.out; omega), (show (-9223372036854775808 : Int) ≤ (k : Int) by omega), (show (k : Int) ≤ 9223372036854775807 by omega)⟩
      · have := (hA4.out q (by rw [← hx3.out]; exact e)).1
        have := b3.out
        omega
      · simp only [Option.some.injEq] at e
        have := b3.out
        omega
      · simp only [Option.some.injEq] at e
        have := b3.out
        omega)
  clear hx1 hx2 hx4
  go_wp2_with fail
  exact bodyPost_ret (v := .tuple #[.agg #[.slice R4 d.1.length r4, .slice A5 (d.2.length + 1) c5], .int .i64 0]) (by simp [results, Try.results30, go_sem, k5, k6]) rfl ⟨_, rfl, hfin.out, hB9⟩
end Go.Proofs.Ytdcgcnnofjekaaa

/-
  Package dev: Barrier. Conditions: those that each lemma states.
-/
namespace Go.Proofs.Ytdcgcnnofjekaaa
open Go.RowKit

def settledD (d : Dk) : Dk := ((List.range 256).map fun k => seenD d k, [])
theorem seenD_length {d : Dk} {k : Nat} (hm : mayB d = true) (hk : k < 256) : (seenD d k).length = 128 := by
  obtain ⟨h1, h2, h3, h4⟩ := may_of hm
  refine seenW_length ?_ fun x hx => ?_
  · rw [List.getElem?_eq_getElem (by omega)]
    exact h3 k _ (List.getElem?_eq_getElem (by omega))
  · obtain ⟨j, hj⟩ := List.getElem?_of_mem hx
    exact (h4 j x hj).2.2

set_option maxHeartbeats 1000000 in
theorem barrier_bad (v : Value) (d : Dk) (w : World) (h : Dsk (Old w) w v d) (hm : mayB d = false) :
    Calls Try.prog 58 #[v] w fun e w' => e = .returned (.tuple #[.agg #[.slice none 0 0, .slice none 0 0], .int .i64 8]) ∧ Below w.heap.size w w' := by
  obtain ⟨a, b, rfl, _⟩ := id h
  obtain ⟨w2, hw2, f1, f2, f3, hsz, hB⟩ := box_two w a b #[.slice none 0 0, .slice none 0 0] 30
  have H := Lib.hid (h.below hB)
  have hc := Lib.hid (chk_bad hm)
  replace hm := Lib.hid hm
  replace hsz := Lib.hid hsz
  obtain ⟨A, c, B, e, e1, _⟩ := h.open
  cases e1
  clear h
  go_enter Try.func58, Try.ntmps58
  go_upto_region 1 with fail
  clear hw2
  go_wp2_with fail
  refine (check_any _ d _ H.out).mono ?_
  rintro e w3 ⟨rfl, hb3⟩
  rw [hc.out]
  have f4 := (hb3.block (w.heap.size + 1) (by rw [hsz.out]; omega)).trans f3
  obtain ⟨k1, k2, k3, k4⟩ := two_cells f4
  obtain ⟨W9, hW9, g9, gr9, gs9⟩ := put_two (u := .slice none 0 0) (v := .slice none 0 0) f4
  obtain ⟨k5, k6, _, _⟩ := two_cells g9
  have hB9 := (hB.trans (hb3.mono hB.size)).grown gr9 (Nat.le_trans hB.size hb3.size) (fun q e => by cases e; omega)
  replace f4 := Lib.hid f4
  replace f3 := Lib.hid f3
  replace g9 := Lib.hid g9
  clear f1 f2
  go_wp2_with fail
  exact bodyPost_ret (v := .tuple #[.agg #[.slice none 0 0, .slice none 0 0], .int .i64 8]) (by simp [results, Try.results58, go_sem, k5, k6]) rfl ⟨rfl, hB9⟩

set_option maxRecDepth 100000 in
set_option maxHeartbeats 4000000 in
theorem barrier_ok (v : Value) (d : Dk) (w : World) (h : Dsk (Old w) w v d) (hm : mayB d = true) :
    Calls Try.prog 58 #[v] w fun e w' => ∃ u, e = .returned (.tuple #[u, .int .i64 0]) ∧ Dsk (New w.heap.size w') w' u (settledD d) ∧ Below w.heap.size w w' := by
  obtain ⟨a, b, rfl, _⟩ := id h
  obtain ⟨w2, hw2, f1, f2, f3, hsz, hB⟩ := box_two w a b #[.slice none 0 0, .slice none 0 0] 30
  have H := Lib.hid (h.below hB)
  have hc := Lib.hid (chk_ok hm)
  have hl1 := (may_of hm).1
  replace hl1 := Lib.hid hl1
  replace hm := Lib.hid hm
  replace hsz := Lib.hid hsz
  obtain ⟨A, c, B, e, e1, _⟩ := h.open
  cases e1
  clear h
  go_enter Try.func58, Try.ntmps58
  go_upto_region 1 with fail
  clear hw2
  go_wp2_with fail
  refine (check_any _ d _ H.out).mono ?_
  rintro e w3 ⟨rfl, hb3⟩
  rw [hc.out]
  have hB3 := hB.trans (hb3.mono hB.size)
  have H3 := Lib.hid (H.out.below hb3)
  have g1 := (hb3.cell (p := ⟨w.heap.size, 0, none⟩) (by rw [hsz.out]; simp)).trans f1
  have g2 := (hb3.cell (p := ⟨w.heap.size, 1, none⟩) (by rw [hsz.out]; simp)).trans f2
  have g3 := (hb3.block (w.heap.size + 1) (by rw [hsz.out]; omega)).trans f3
  have hs3 : w.heap.size + 2 ≤ w3.heap.size := by have := hsz.out; have := hb3.size; omega
  clear f1 f2 f3 hB hb3
  obtain ⟨ad, w4, hmk, hada, ho, hB4, hz4⟩ := make_rows 256 (by omega) w3
  replace hmk : (Instr.makeSlice 27 (.int .i64 256) (.int .i64 256)).run Try.prog w3 = .ok (.slice (some ad) 256 256) w4 := hmk
  have l1 := World.block_lt_of_cell? _ _ g1
  have y1 := (hB4.cell l1).trans g1
  have y2 := (hB4.cell (p := ⟨w.heap.size, 1, none⟩) l1).trans g2
  have y3 := Lib.hid ((hB4.block (w.heap.size + 1) (by omega)).trans g3)
  have hBw := hB3.trans (hB4.mono hB3.size)
  have hb := own_block ho
  replace g3 := Lib.hid g3
  replace hz4 := Lib.hid hz4
  replace hada := Lib.hid hada
  go_upto_region 5 with fail
  clear hmk g1 g2 H
  go_wp2_with fail
  go_loopw [16] (fun i wr => ∃ k : Nat, k ≤ 256 ∧ i = .int .i64 k ∧ w4.grownBy wr (some ad.block) ∧ ∃ us : List Value, wr.ownsRow w3.heap.size 40 1 (.slice (some ad) 256 256) 256 us ∧
      ∀ (j : Nat) (u : Value), j < k → us[j]? = some u → rBy (New w4.heap.size wr) wr [u] (seenD d j)) (fun i _ => 256 - (intOf i).toNat)
  case atStart => exact ⟨0, by omega, rfl, grow_refl _ _, _, ho, fun j u hj => by omega⟩
  case round =>
    obtain ⟨k, hk, rfl, hgr, us, hus, hus1⟩ := hrel
    replace hus1 := Lib.hid hus1
    have hadn : Hid (∀ q, some ad.block = some q → w3.heap.size ≤ q) := Lib.hid fun q e => by
      have := hada.out
      simp only [Option.some.injEq] at e
      omega
    have hb3r : Below w3.heap.size w3 wr := hB4.grown hgr hB4.size hadn.out
    have z1 := (grow_cell hgr (p := ⟨w.heap.size, 0, none⟩) (by have := hB4.size; simp; omega) (fun e => by have := hadn.out _ e.symm; simp at this; omega)).trans y1
    have z2 := (grow_cell hgr (p := ⟨w.heap.size, 1, none⟩) (by have := hB4.size; simp; omega) (fun e => by have := hadn.out _ e.symm; simp at this; omega)).trans y2
    by_cases hlt : k < 256
    · have Hr := Lib.hid (H3.out.below hb3r)
      have hul : us.length = 256 * 1 := hus.1
      have hcu := own_at hus (j := k) (List.getElem?_eq_getElem (by omega))
      have hf := own_free hus k
      generalize us[k] = u0 at hcu
      have lt1 := World.block_lt_of_cell? _ _ hcu
      have hlen := Lib.hid (seenD_length hm.out hlt)
      replace hul := Lib.hid hul
      replace hus := Lib.hid hus
      go_wp2_with fail
      refine (seen_any _ d k (by rw [hl1.out]; exact hlt) _ Hr.out).mono ?_
      rintro e' wa ⟨u, rfl, hu, hba⟩
      have hu2 := stab_by.old hu hba
      have x1 := (hba.cell lt1).trans hcu
      have x2 := (hba.frozen lt1).trans hf
      have lt2 := World.block_lt_of_cell? _ _ x1
      clear hu
      go_wp2_with fail
      refine (clone_by u _ _ (by rw [hlen.out]; omega) hu2).mono ?_
      rintro e' wc ⟨x, rfl, hx, hbc⟩
      have x3 := (hbc.cell lt2).trans x1
      have x4 := (hbc.frozen lt2).trans x2
      obtain ⟨E, ce, rfl, _⟩ := rBy_open hx
      have hbr := hba.trans (hbc.mono hba.size)
      have hxx := Lib.hid (stab_by.mono hx hba.size)
      clear hx hu2 x1 x2
      go_wp2_with fail
      go_roundw
      case rel =>
        have hp1 : (ad.add k).block < w4.heap.size := by rw [add_block]; exact hb.2.1
        refine ⟨k + 1, by omega, by go_num, grow_put (grow_below hgr hbr) (by rw [add_block]) _, us.set k (.slice E (seenD d k).length ce), own_put (own_below hus.out hbr) (by omega) _, fun j u hj hu => ?_⟩
        rcases list_set_get (by have := hul.out; omega) hu with ⟨rfl, rfl⟩ | ⟨hne, hu'⟩
        · exact stab_by.put (stab_by.mono hxx.out hgr.size) hp1 _
        · exact stab_by.put (stab_by.new (hus1.out j u (by omega) hu') (Nat.le_refl _) hbr) hp1 _
      case measure => simp [intOf]; omega
    · have hge : 256 ≤ k := by omega
      have hz : wr.heap[w.heap.size + 1]? = some (.cells #[.slice none 0 0, .slice none 0 0] 30 (0, 0)) := (hgr.block _ (by have := hz4.out; omega) (fun e => by
        have := hada.out
        simp only [Option.some.injEq] at e
        omega)).trans y3.out
      obtain ⟨k1, k2, k3, k4⟩ := two_cells hz
      obtain ⟨W9, hW9, g9, gr9, gs9⟩ := put_two (u := .slice (some ad) 256 256) (v := .slice none 0 0) hz
      obtain ⟨k5, k6, _, _⟩ := two_cells g9
      have hBr : Below w.heap.size w wr := hBw.grown hgr hBw.size (fun q e => by
        have := hada.out
        simp only [Option.some.injEq] at e
        omega)
      have hB9 : Below w.heap.size w W9 := hBr.grown gr9 hBr.size (fun q e => by cases e; omega)
      have y4 := own_low (hus.kept gr9 (by have := own_not hus hz (by decide); exact .inr (Ne.symm this))) (show w.heap.size ≤ w3.heap.size by omega)
      have hfin : Hid (Dsk (New w.heap.size W9) W9 (.agg #[.slice (some ad) 256 256, .slice none 0 0]) (settledD d)) := Lib.hid (by
        refine ⟨_, _, rfl, own_rows y4 (by simp [settledD]) fun j u x hu hx => ?_, ⟨none, 0, rfl, by simp [settledD], by omega, fun i x hi => by simp [settledD] at hi⟩⟩
        have hjl : j < 256 := by
          have := (List.getElem?_eq_some_iff.1 hx).1
          simpa [settledD] using this
        have hx' : x = seenD d j := by
          simp only [settledD, List.getElem?_map, List.getElem?_range hjl, Option.map_some, Option.some.injEq] at hx
          exact hx.symm
        subst hx'
        exact stab_by.mono (stab_by.grown (hus1.out j u (by omega) hu) gr9 (fun q e => by cases e; have := hz4.out; omega)) hBw.size)
      clear y4 hus hus1 hgr hz g9 gr9
      go_wp2_with fail
      exact bodyPost_ret (v := .tuple #[.agg #[.slice (some ad) 256 256, .slice none 0 0], .int .i64 0]) (by simp [results, Try.results58, go_sem, k5, k6]) rfl ⟨_, rfl, hfin.out, hB9⟩
end Go.Proofs.Ytdcgcnnofjekaaa

/-
  Package dev: Crash. Conditions: those that each lemma states.
-/
namespace Go.Proofs.Ytdcgcnnofjekaaa
open Go.RowKit

def keptD (d : Dk) (ks : List Bool) : Dk := (d.1, markedW d.2 ks)
theorem markedW_mem : ∀ {ws : List Wt} {ks : List Bool} {x : Wt}, x ∈ markedW ws ks → x ∈ ws
  | [], ks, x, h => by cases ks <;> simp [markedW] at h
  | y :: r, [], x, h => by simp [markedW] at h
  | y :: r, k :: ks, x, h => by
    cases k with
    | true =>
      simp only [markedW, if_true, List.mem_cons] at h
      rcases h with rfl | h
      · exact List.mem_cons.2 (.inl rfl)
      · exact List.mem_cons.2 (.inr (markedW_mem h))
    | false =>
      simp only [markedW] at h
      exact List.mem_cons.2 (.inr (markedW_mem h))
theorem may_kept {d : Dk} {ks : List Bool} (h : mayB d = true) : mayB (keptD d ks) = true := by
  obtain ⟨h1, h2, h3, h4⟩ := may_of h
  have hl := markedW_length d.2 ks
  refine may_mk h1 (by simp only [keptD]; omega) ?_ ?_
  · rw [List.all_eq_true]
    intro x hx
    obtain ⟨j, hj⟩ := List.getElem?_of_mem hx
    simp [byB, h3 j x hj]
  · rw [List.all_eq_true]
    intro x hx
    obtain ⟨j, hj⟩ := List.getElem?_of_mem (markedW_mem hx)
    obtain ⟨a, b, c⟩ := h4 j x hj
    exact wtB_yes a b c

set_option maxHeartbeats 1000000 in
theorem crash_bad (v u : Value) (d : Dk) (ks : List Bool) (w : World) (h : Dsk (Old w) w v d) (hu : rSl 1 rBool (Old w) w [u] ks) (hm : mayB d = false) :
    Calls Try.prog 31 #[v, u] w fun e w' => e = .returned (.tuple #[.agg #[.slice none 0 0, .slice none 0 0], .int .i64 8]) ∧ Below w.heap.size w w' := by
  obtain ⟨a, b, rfl, _⟩ := id h
  obtain ⟨w2, hw2, f1, f2, f3, hsz, hB⟩ := box_two w a b #[.slice none 0 0, .slice none 0 0] 30
  have H := Lib.hid (h.below hB)
  have hc := Lib.hid (chk_bad hm)
  replace hm := Lib.hid hm
  replace hsz := Lib.hid hsz
  obtain ⟨A, c, B, e, e1, _⟩ := h.open
  cases e1
  clear h hu
  go_enter Try.func31, Try.ntmps31
  go_upto_region 1 with fail
  clear hw2
  go_wp2_with fail
  refine (check_any _ d _ H.out).mono ?_
  rintro e w3 ⟨rfl, hb3⟩
  rw [hc.out]
  have f4 := (hb3.block (w.heap.size + 1) (by rw [hsz.out]; omega)).trans f3
  obtain ⟨k1, k2, k3, k4⟩ := two_cells f4
  obtain ⟨W9, hW9, g9, gr9, gs9⟩ := put_two (u := .slice none 0 0) (v := .slice none 0 0) f4
  obtain ⟨k5, k6, _, _⟩ := two_cells g9
  have hB9 := (hB.trans (hb3.mono hB.size)).grown gr9 (Nat.le_trans hB.size hb3.size) (fun q e => by cases e; omega)
  replace f4 := Lib.hid f4
  replace f3 := Lib.hid f3
  replace g9 := Lib.hid g9
  clear f1 f2
  go_wp2_with fail
  exact bodyPost_ret (v := .tuple #[.agg #[.slice none 0 0, .slice none 0 0], .int .i64 8]) (by simp [results, Try.results31, go_sem, k5, k6]) rfl ⟨rfl, hB9⟩

set_option maxHeartbeats 1000000 in
theorem crash_len (v u : Value) (d : Dk) (ks : List Bool) (w : World) (h : Dsk (Old w) w v d) (hu : rSl 1 rBool (Old w) w [u] ks) (hm : mayB d = true) (hl : ks.length ≠ d.2.length) :
    Calls Try.prog 31 #[v, u] w fun e w' => e = .returned (.tuple #[.agg #[.slice none 0 0, .slice none 0 0], .int .i64 2]) ∧ Below w.heap.size w w' := by
  obtain ⟨a, b, rfl, _⟩ := id h
  obtain ⟨w2, hw2, f1, f2, f3, hsz, hB⟩ := box_two w a b #[.slice none 0 0, .slice none 0 0] 30
  have H := Lib.hid (h.below hB)
  have hc := Lib.hid (chk_ok hm)
  replace hm := Lib.hid hm
  replace hsz := Lib.hid hsz
  obtain ⟨A, c, B, e, e1, _⟩ := h.open
  cases e1
  obtain ⟨K, kc, rfl, _⟩ := bools_open hu
  clear h hu
  have hl' : ((ks.length : Int) != d.2.length) = true := by simp; omega
  go_enter Try.func31, Try.ntmps31
  go_upto_region 1 with fail
  clear hw2
  go_wp2_with fail
  refine (check_any _ d _ H.out).mono ?_
  rintro e w3 ⟨rfl, hb3⟩
  rw [hc.out]
  have f4 := (hb3.block (w.heap.size + 1) (by rw [hsz.out]; omega)).trans f3
  have g2 := (hb3.cell (p := ⟨w.heap.size, 1, none⟩) (by rw [hsz.out]; simp)).trans f2
  obtain ⟨k1, k2, k3, k4⟩ := two_cells f4
  obtain ⟨W9, hW9, g9, gr9, gs9⟩ := put_two (u := .slice none 0 0) (v := .slice none 0 0) f4
  obtain ⟨k5, k6, _, _⟩ := two_cells g9
  have hB9 := (hB.trans (hb3.mono hB.size)).grown gr9 (Nat.le_trans hB.size hb3.size) (fun q e => by cases e; omega)
  replace f4 := Lib.hid f4
  replace f3 := Lib.hid f3
  replace g9 := Lib.hid g9
  clear f1 f2
  go_wp2_with fail
  exact bodyPost_ret (v := .tuple #[.agg #[.slice none 0 0, .slice none 0 0], .int .i64 2]) (by simp [results, Try.results31, go_sem, k5, k6]) rfl ⟨rfl, hB9⟩

set_option maxRecDepth 100000 in
set_option maxHeartbeats 4000000 in
theorem crash_ok (v u : Value) (d : Dk) (ks : List Bool) (w : World) (h : Dsk (Old w) w v d) (hu : rSl 1 rBool (Old w) w [u] ks) (hm : mayB d = true) (hl : ks.length = d.2.length) :
    Calls Try.prog 31 #[v, u] w fun e w' => ∃ x, e = .returned (.tuple #[x, .int .i64 0]) ∧ Dsk (New w.heap.size w') w' x (settledD (keptD d ks)) ∧ Below w.heap.size w w' := by
  obtain ⟨a, b, rfl, _⟩ := id h
  obtain ⟨w2, hw2, f1, f2, f3, hsz, hB⟩ := box_two w a b #[.slice none 0 0, .slice none 0 0] 30
  have H := Lib.hid (h.below hB)
  have hc := Lib.hid (chk_ok hm)
  have hbig : d.2.length ≤ 100000 := by have := (may_of hm).2.1; omega
  replace hm := Lib.hid hm
  replace hsz := Lib.hid hsz
  obtain ⟨A, c, B, e, e1, _⟩ := h.open
  cases e1
  have hus := (show Stab (rSl 1 rBool) from stab_sl stab_bool).old hu hB
  obtain ⟨K, kc, rfl, _⟩ := bools_open hu
  clear h hu
  have hl' : ((ks.length : Int) != d.2.length) = false := by simp; omega
  replace hl := Lib.hid hl
  go_enter Try.func31, Try.ntmps31
  go_upto_region 1 with fail
  clear hw2
  go_wp2_with fail
  refine (check_any _ d _ H.out).mono ?_
  rintro e w3 ⟨rfl, hb3⟩
  rw [hc.out]
  have f4 := (hb3.block (w.heap.size + 1) (by rw [hsz.out]; omega)).trans f3
  have g1 := (hb3.cell (p := ⟨w.heap.size, 0, none⟩) (by rw [hsz.out]; simp)).trans f1
  have g2 := (hb3.cell (p := ⟨w.heap.size, 1, none⟩) (by rw [hsz.out]; simp)).trans f2
  have H3 := Lib.hid (H.out.below hb3)
  have hus3 := Lib.hid ((show Stab (rSl 1 rBool) from stab_sl stab_bool).old hus hb3)
  have hB3 := hB.trans (hb3.mono hB.size)
  replace f4 := Lib.hid f4
  clear f1 f2 f3 hus H hB hb3
  go_wp2_with fail
  have lt1 := World.block_lt_of_cell? _ _ g1
  have lt2 := World.block_lt_of_cell? _ _ g2
  have lt5 : w.heap.size + 1 < w3.heap.size := (Array.getElem?_eq_some_iff.1 f4.out).1
  have hbl := Lib.hid ((stab_sl stab_by).old H3.out.parts.1 (Below.refl w3.heap.size w3).drew)
  have hwt := Lib.hid ((stab_sl stab_wt).old H3.out.parts.2 (Below.refl w3.heap.size w3).drew)
  have hks := Lib.hid ((show Stab (rSl 1 rBool) from stab_sl stab_bool).old hus3.out (Below.refl w3.heap.size w3).drew)
  clear hus3
  go_region_held3 (fun w' => w'.cell? ⟨w.heap.size, 0, none⟩ = some (.slice A d.1.length c) ∧ w'.cell? ⟨w.heap.size, 1, none⟩ = some (.slice B d.2.length e))
    (first | go_keep | (go_split_ands; refine ⟨?_, ?_⟩ <;> (rw [hbm.cell (by assumption)]; assumption)) | (go_split_ands; refine ⟨?_, ?_⟩ <;> (rw [hbz.cell (Nat.lt_of_lt_of_le (by assumption) hbm.size), hbm.cell (by assumption)]; assumption)))
    (first
      | (go_at_call 59; refine (marked_any _ _ d.2 ks _ hwt.out hks.out hl.out.symm hbig).mono ?_; rintro e' wm ⟨xm, rfl, hxm, hbm⟩; obtain ⟨M, mc, em, _⟩ := wts_open hxm; cases em)
      | (go_at_call 58; refine (barrier_ok _ (keptD d ks) _ ⟨_, _, rfl, (stab_sl stab_by).old hbl.out hbm, hxm⟩ (may_kept hm.out)).mono ?_; rintro e' wz ⟨xz, rfl, hxz, hbz⟩; obtain ⟨A9, c9, B9, d9, rfl, _⟩ := hxz.open; obtain ⟨k1, k2, k3, k4⟩ := two_cells ((hbz.block (w.heap.size + 1) (Nat.lt_of_lt_of_le lt5 hbm.size)).trans ((hbm.block (w.heap.size + 1) lt5).trans f4.out))))
  have hz := (hbz.block (w.heap.size + 1) (Nat.lt_of_lt_of_le lt5 hbm.size)).trans ((hbm.block (w.heap.size + 1) lt5).trans f4.out)
  obtain ⟨W9, hW9, g9, gr9, gs9⟩ := put_two (u := .slice A9 (settledD (keptD d ks)).1.length c9) (v := .slice B9 (settledD (keptD d ks)).2.length d9) hz
  obtain ⟨k5, k6, _, _⟩ := two_cells g9
  have hBz : Below w.heap.size w wz := hB3.drew.trans ((hbm.trans (hbz.mono hbm.size)).mono hB3.size)
  have hB9 := hBz.grown gr9 hBz.size (fun q e => by cases e; omega)
  have hsm : w3.heap.size ≤ wm.heap.size := hbm.size
  have hfin := Lib.hid (show Dsk (New w.heap.size W9) W9 (.agg #[.slice A9 (settledD (keptD d ks)).1.length c9, .slice B9 (settledD (keptD d ks)).2.length d9]) (settledD (keptD d ks)) from
    ⟨_, _, rfl, (stab_sl stab_by).mono ((stab_sl stab_by).grown hxz.parts.1 gr9 (fun q e => by cases e; omega)) (by omega), (stab_sl stab_wt).mono ((stab_sl stab_wt).grown hxz.parts.2 gr9 (fun q e => by cases e; omega)) (by omega)⟩)
  rw [hW9]
  clear hW9 hz g9 gr9 hxz
  go_wp2_with fail
  exact bodyPost_ret (v := .tuple #[.agg #[.slice A9 (settledD (keptD d ks)).1.length c9, .slice B9 (settledD (keptD d ks)).2.length d9], .int .i64 0]) (by simp [results, Try.results31, go_sem, k5, k6]) rfl ⟨_, rfl, hfin.out, hB9⟩
end Go.Proofs.Ytdcgcnnofjekaaa

/-
  The laws' own functions of layer 3: full, alive. Conditions: those that each lemma states.
-/
namespace Go.Proofs.Ytdcgcnnofjekaaa
open Go.RowKit

theorem byte_info0 : (Try.prog.info? 5).map (fun i => (i.zero, i.size, i.bytes)) = some (some (.int .u8 0), 1, 1) := by kernel_rfl
theorem zero_len1 : zeroD.1.length = 256 := List.length_replicate
theorem zero_len2 : zeroD.2.length = 0 := rfl
theorem zero_at {k : Nat} (hk : k < 256) : zeroD.1[k]? = some (List.replicate 128 0) := by
  rw [show zeroD.1 = List.replicate 256 (List.replicate 128 0) from rfl, List.getElem?_replicate, if_pos hk]
theorem may_zero : mayB zeroD = true := by
  refine may_mk zero_len1 (by rw [zero_len2]; omega) ?_ rfl
  rw [List.all_eq_true]
  intro x hx
  obtain ⟨j, hj⟩ := List.getElem?_of_mem hx
  have hjl := (List.getElem?_eq_some_iff.1 hj).1
  rw [zero_len1] at hjl
  rw [zero_at hjl] at hj
  cases hj
  exact decide_eq_true List.length_replicate
/-- A disk with one write more. -/
def wrD (d : Dk) (k : Nat) (xs : List UInt8) : Dk := (d.1, d.2 ++ [((k : Int), xs)])
theorem wrD_fst (d : Dk) (k : Nat) (xs : List UInt8) : (wrD d k xs).1 = d.1 := rfl
theorem wrD_len (d : Dk) (k : Nat) (xs : List UInt8) : (wrD d k xs).2.length = d.2.length + 1 := by simp [wrD]
theorem may_write {d : Dk} {k : Nat} {xs : List UInt8} (h : mayB d = true) (hk : k < 256) (hl : xs.length = 128) (hf : d.2.length < 4096) : mayB (wrD d k xs) = true := by
  obtain ⟨h1, h2, h3, h4⟩ := may_of h
  refine may_mk h1 (by rw [wrD_len]; omega) ?_ ?_
  · rw [List.all_eq_true]
    intro x hx
    obtain ⟨j, hj⟩ := List.getElem?_of_mem hx
    exact decide_eq_true (h3 j x hj)
  · rw [List.all_eq_true]
    intro x hx
    rcases List.mem_append.1 hx with hx | hx
    · obtain ⟨j, hj⟩ := List.getElem?_of_mem hx
      obtain ⟨a, b, c⟩ := h4 j x hj
      exact wtB_yes a b c
    · obtain rfl := List.mem_singleton.1 hx
      exact wtB_yes (show (0 : Int) ≤ (k : Int) by omega) (show (k : Int) < 256 by omega) hl
theorem seenD_write {d : Dk} {k : Nat} {xs : List UInt8} : seenD (wrD d k xs) k = xs := by
  simp [wrD, seenD, seenW]
theorem seenD_write_ne {d : Dk} {k j : Nat} {xs : List UInt8} (h : j ≠ k) : seenD (wrD d k xs) j = seenD d j := by
  have : ¬ (k : Int) = j := by omega
  simp [wrD, seenD, seenW, this]
theorem write_wr (v u : Value) (d : Dk) (k : Nat) (xs : List UInt8) (w : World) (h : Dsk (Old w) w v d) (hu : rBy (Old w) w [u] xs) (hm : mayB d = true) (hk : k < 256) (hl : xs.length = 128) (hf : d.2.length < 4096) :
    Calls Try.prog 30 #[v, .int .i64 k, u] w fun e w' => ∃ x, e = .returned (.tuple #[x, .int .i64 0]) ∧ Dsk (New w.heap.size w') w' x (wrD d k xs) ∧ Below w.heap.size w w' := write_ok v u d k xs w h hu hm hk hl hf

end Go.Proofs.Ytdcgcnnofjekaaa

/-
  Package dev: Read, Write, Barrier, Crash at whatever arguments; a disk in its box. Conditions: those that each lemma states.
-/
namespace Go.Proofs.Ytdcgcnnofjekaaa
open Go.RowKit

/-- A disk that lies in a box. -/
def Bx (w : World) (g : Nat) (A : Option Addr) (c : Nat) (B : Option Addr) (e : Nat) (d : Dk) : Prop := w.heap[g]? = some (.cells #[.slice A d.1.length c, .slice B d.2.length e] 30 (0, 0)) ∧ Dsk (Old w) w (.agg #[.slice A d.1.length c, .slice B d.2.length e]) d
theorem Bx.below {w w' : World} {g : Nat} {A : Option Addr} {c : Nat} {B : Option Addr} {e : Nat} {d : Dk} (h : Bx w g A c B e d) (hb : Below w.heap.size w w') : Bx w' g A c B e d :=
  ⟨(hb.block g (Array.getElem?_eq_some_iff.1 h.1).1).trans h.1, h.2.below hb⟩
theorem Bx.grown {w w' : World} {g q : Nat} {A : Option Addr} {c : Nat} {B : Option Addr} {e : Nat} {d : Dk} (h : Bx w g A c B e d) (hb : w.grownBy w' (some q)) (hq : g ≠ q) (hd : Dsk (Old w') w' (.agg #[.slice A d.1.length c, .slice B d.2.length e]) d) : Bx w' g A c B e d :=
  ⟨(hb.block g (Array.getElem?_eq_some_iff.1 h.1).1 (fun e => hq (by cases e; rfl))).trans h.1, hd⟩
theorem Bx.cells {w : World} {g : Nat} {A : Option Addr} {c : Nat} {B : Option Addr} {e : Nat} {d : Dk} (h : Bx w g A c B e d) : w.cell? ⟨g, 0, none⟩ = some (.slice A d.1.length c) ∧ w.cell? ⟨g, 1, none⟩ = some (.slice B d.2.length e) ∧ (∀ o, w.frozen? ⟨g, o, none⟩ = false) ∧ g < w.heap.size := two_cells h.1
theorem Bx.dsk {w : World} {g : Nat} {A : Option Addr} {c : Nat} {B : Option Addr} {e : Nat} {d : Dk} (h : Bx w g A c B e d) : Dsk (Old w) w (.agg #[.slice A d.1.length c, .slice B d.2.length e]) d := h.2
/-- A new box. -/
theorem box_new {w : World} {A : Option Addr} {c : Nat} {B : Option Addr} {e : Nat} {d : Dk} (h : Dsk (Old w) w (.agg #[.slice A d.1.length c, .slice B d.2.length e]) d) :
    ∃ w1, w.alloc (.cells #[.slice A d.1.length c, .slice B d.2.length e] 30) = w1 ∧ Bx w1 w.heap.size A c B e d ∧ Below w.heap.size w w1 ∧ w1.heap.size = w.heap.size + 1 := by
  have hb := (Below.refl w.heap.size w).alloc (Nat.le_refl _) (.cells #[.slice A d.1.length c, .slice B d.2.length e] 30)
  exact ⟨_, rfl, ⟨heap_alloc_new _ _, h.below hb⟩, hb, by simp⟩

def emptyD : Dk := ([], [])
theorem may_empty : mayB emptyD = false := rfl
/-- What a read tells. -/
def rdB (d : Dk) (n : Int) : List UInt8 := if thereB n then seenD d n.toNat else []
def rdE (n : Int) : Int := if thereB n then 0 else 2
theorem rBy_nil (w : World) : rBy (Old w) w [.slice none 0 0] [] := ⟨none, 0, rfl, by simp, by omega, fun i x h => by simp at h⟩
theorem read_gen (v : Value) (d : Dk) (n : Int) (w : World) (h : Dsk (Old w) w v d) (hm : mayB d = true) :
    Calls Try.prog 61 #[v, .int .i64 n] w fun e w' => ∃ E c, e = .returned (.tuple #[.slice E (rdB d n).length c, .int .i64 (rdE n)]) ∧ rBy (Old w') w' [.slice E (rdB d n).length c] (rdB d n) ∧ Below w.heap.size w w' := by
  cases ht : thereB n with
  | true =>
    obtain ⟨k, rfl, hk⟩ := thereB_nat ht
    refine (read_ok v d k w h hm hk).mono ?_
    rintro e w' ⟨u, rfl, hu, hb⟩
    have e1 : rdB d (k : Int) = seenD d k := by simp [rdB, ht]
    have e2 : rdE (k : Int) = 0 := by simp [rdE, ht]
    obtain ⟨E, c, rfl, _⟩ := rBy_open hu
    rw [e1, e2]
    exact ⟨E, c, rfl, stab_by.drop hu, hb⟩
  | false =>
    refine (read_bad v d n w h (by simp [ht])).mono ?_
    rintro e w' ⟨rfl, hb⟩
    have e1 : rdB d n = [] := by simp [rdB, ht]
    have e2 : rdE n = 2 := by simp [rdE, ht]
    rw [e1, e2, chkAt_out hm ht]
    exact ⟨none, 0, rfl, rBy_nil _, hb⟩
/-- What a write leaves. -/
def wrR (d : Dk) (n : Int) (xs : List UInt8) : Dk := if wErr d n xs = 0 then wrD d n.toNat xs else emptyD
theorem write_fine {d : Dk} {n : Int} {xs : List UInt8} (h : wErr d n xs = 0) (hm : mayB d = true ∨ True) : mayB d = true ∧ thereB n = true ∧ xs.length = 128 ∧ d.2.length < 4096 := by
  unfold wErr at h
  cases h1 : mayB d with
  | false => rw [h1] at h; simp at h
  | true =>
    obtain ⟨_, h2, _⟩ := may_of h1
    rw [h1] at h
    cases ht : thereB n with
    | false => rw [ht] at h; simp at h
    | true =>
      rw [ht] at h
      by_cases h8 : xs.length = 128
      · by_cases h9 : d.2.length = 4096
        · simp [h8, h9] at h
        · exact ⟨rfl, rfl, h8, by omega⟩
      · simp [h8] at h
theorem dsk_empty (w : World) : Dsk (Old w) w (.agg #[.slice none 0 0, .slice none 0 0]) emptyD :=
  ⟨_, _, rfl, ⟨none, 0, rfl, by simp [emptyD], by omega, fun i x h => by simp [emptyD] at h⟩, ⟨none, 0, rfl, by simp [emptyD], by omega, fun i x h => by simp [emptyD] at h⟩⟩
theorem write_gen (v u : Value) (d : Dk) (n : Int) (xs : List UInt8) (w : World) (h : Dsk (Old w) w v d) (hu : rBy (Old w) w [u] xs) :
    Calls Try.prog 30 #[v, .int .i64 n, u] w fun e w' => ∃ A c B f, e = .returned (.tuple #[.agg #[.slice A (wrR d n xs).1.length c, .slice B (wrR d n xs).2.length f], .int .i64 (wErr d n xs)]) ∧ Dsk (Old w') w' (.agg #[.slice A (wrR d n xs).1.length c, .slice B (wrR d n xs).2.length f]) (wrR d n xs) ∧ Below w.heap.size w w' := by
  by_cases he : wErr d n xs = 0
  · obtain ⟨hm, ht, h8, h9⟩ := write_fine he (.inr trivial)
    obtain ⟨k, rfl, hk⟩ := thereB_nat ht
    refine (write_wr v u d k xs w h hu hm hk h8 h9).mono ?_
    rintro e w' ⟨x, rfl, hx, hb⟩
    have e1 : wrR d (k : Int) xs = wrD d k xs := by simp [wrR, he]
    obtain ⟨A, c, B, f, rfl, _⟩ := id hx.open
    rw [e1, he]
    exact ⟨A, c, B, f, rfl, hx.drop, hb⟩
  · refine (write_bad v u d n xs w h hu he).mono ?_
    rintro e w' ⟨rfl, hb⟩
    have e1 : wrR d n xs = emptyD := by simp [wrR, he]
    rw [e1]
    exact ⟨none, 0, none, 0, rfl, dsk_empty _, hb⟩
/-- What a barrier leaves. -/
theorem barrier_old (v : Value) (d : Dk) (w : World) (h : Dsk (Old w) w v d) (hm : mayB d = true) :
    Calls Try.prog 58 #[v] w fun e w' => ∃ A c B f, e = .returned (.tuple #[.agg #[.slice A (settledD d).1.length c, .slice B (settledD d).2.length f], .int .i64 0]) ∧ Dsk (Old w') w' (.agg #[.slice A (settledD d).1.length c, .slice B (settledD d).2.length f]) (settledD d) ∧ Below w.heap.size w w' := by
  refine (barrier_ok v d w h hm).mono ?_
  rintro e w' ⟨x, rfl, hx, hb⟩
  obtain ⟨A, c, B, f, rfl, _⟩ := id hx.open
  exact ⟨A, c, B, f, rfl, hx.drop, hb⟩
theorem crash_old (v u : Value) (d : Dk) (ks : List Bool) (w : World) (h : Dsk (Old w) w v d) (hu : rSl 1 rBool (Old w) w [u] ks) (hm : mayB d = true) (hl : ks.length = d.2.length) :
    Calls Try.prog 31 #[v, u] w fun e w' => ∃ A c B f, e = .returned (.tuple #[.agg #[.slice A (settledD (keptD d ks)).1.length c, .slice B (settledD (keptD d ks)).2.length f], .int .i64 0]) ∧ Dsk (Old w') w' (.agg #[.slice A (settledD (keptD d ks)).1.length c, .slice B (settledD (keptD d ks)).2.length f]) (settledD (keptD d ks)) ∧ Below w.heap.size w w' := by
  refine (crash_ok v u d ks w h hu hm hl).mono ?_
  rintro e w' ⟨x, rfl, hx, hb⟩
  obtain ⟨A, c, B, f, rfl, _⟩ := id hx.open
  exact ⟨A, c, B, f, rfl, hx.drop, hb⟩

/-! ### What follows -/
theorem settled_len1 (d : Dk) : (settledD d).1.length = 256 := by simp [settledD]
theorem settled_len2 (d : Dk) : (settledD d).2.length = 0 := rfl
theorem settled_at {d : Dk} {k : Nat} (hk : k < 256) : (settledD d).1[k]? = some (seenD d k) := by
  simp [settledD, hk]
theorem seen_settled {d : Dk} {k : Nat} (hk : k < 256) : seenD (settledD d) k = seenD d k := by
  have h1 : (settledD d).2 = [] := rfl
  have h2 := settled_at (d := d) hk
  unfold seenD
  rw [h1, h2]
  rfl
theorem may_settled {d : Dk} (h : mayB d = true) : mayB (settledD d) = true := by
  refine may_mk (settled_len1 d) (by rw [settled_len2]; omega) ?_ rfl
  rw [List.all_eq_true]
  intro x hx
  obtain ⟨j, hj⟩ := List.getElem?_of_mem hx
  have hjl := (List.getElem?_eq_some_iff.1 hj).1
  rw [settled_len1] at hjl
  rw [settled_at hjl] at hj
  cases hj
  exact decide_eq_true (seenD_length h hjl)
theorem settled_twice (d : Dk) : settledD (settledD d) = settledD d := by
  refine Prod.ext ?_ rfl
  refine List.ext_getElem? fun i => ?_
  by_cases hi : i < 256
  · rw [settled_at hi, settled_at hi, seen_settled hi]
  · rw [List.getElem?_eq_none (by rw [settled_len1]; omega), List.getElem?_eq_none (by rw [settled_len1]; omega)]
theorem markedW_all : ∀ (ws : List Wt) (ks : List Bool), ks.length = ws.length → (∀ k ∈ ks, k = true) → markedW ws ks = ws
  | [], [], _, _ => rfl
  | x :: r, k :: ks, h, hk => by
    have e := hk k (List.mem_cons.2 (.inl rfl))
    subst e
    have ih := markedW_all r ks (by simpa using h) (fun q hq => hk q (List.mem_cons.2 (.inr hq)))
    simp [markedW, ih]
theorem markedW_none : ∀ (ws : List Wt) (ks : List Bool), (∀ k ∈ ks, k = false) → markedW ws ks = []
  | [], ks, _ => by cases ks <;> rfl
  | x :: r, [], _ => rfl
  | x :: r, k :: ks, hk => by
    have e := hk k (List.mem_cons.2 (.inl rfl))
    subst e
    have ih := markedW_none r ks (fun q hq => hk q (List.mem_cons.2 (.inr hq)))
    simp [markedW, ih]
theorem rdB_settled (d : Dk) (n : Int) : rdB (settledD d) n = rdB d n := by
  unfold rdB
  cases ht : thereB n with
  | false => rfl
  | true =>
    obtain ⟨k, rfl, hk⟩ := thereB_nat ht
    simpa using seen_settled hk
theorem rdB_write {d : Dk} {n m : Int} {xs : List UInt8} (h : wErr d n xs = 0) (hne : m ≠ n) : rdB (wrR d n xs) m = rdB d m := by
  obtain ⟨_, ht, _, _⟩ := write_fine h (.inr trivial)
  obtain ⟨k, rfl, hk⟩ := thereB_nat ht
  unfold rdB
  cases hm : thereB m with
  | false => rfl
  | true =>
    obtain ⟨j, rfl, hj⟩ := thereB_nat hm
    have : wrR d (k : Int) xs = wrD d k xs := by simp [wrR, h]
    rw [this]
    simpa using seenD_write_ne (d := d) (k := k) (j := j) (xs := xs) (by omega)
theorem rdB_same {d : Dk} {n : Int} {xs : List UInt8} (h : wErr d n xs = 0) : rdB (wrR d n xs) n = xs ∧ rdE n = 0 := by
  obtain ⟨_, ht, _, _⟩ := write_fine h (.inr trivial)
  obtain ⟨k, rfl, hk⟩ := thereB_nat ht
  have : wrR d (k : Int) xs = wrD d k xs := by simp [wrR, h]
  rw [this]
  unfold rdB rdE
  rw [ht]
  exact ⟨by simpa using seenD_write, rfl⟩
theorem may_wrR {d : Dk} {n : Int} {xs : List UInt8} (h : wErr d n xs = 0) : mayB (wrR d n xs) = true ∧ (wrR d n xs).2.length = d.2.length + 1 ∧ (wrR d n xs).1 = d.1 := by
  obtain ⟨hm, ht, h8, h9⟩ := write_fine h (.inr trivial)
  obtain ⟨k, rfl, hk⟩ := thereB_nat ht
  have : wrR d (k : Int) xs = wrD d k xs := by simp [wrR, h]
  rw [this]
  exact ⟨may_write hm hk h8 h9, wrD_len _ _ _, rfl⟩

/-! ### Results that are new -/
theorem Dsk.grown {w w' : World} {lo : Nat} {v : Value} {d : Dk} {row : Option Nat} (h : Dsk (New lo w) w v d) (hg : w.grownBy w' row) (hr : ∀ q, row = some q → q < lo) : Dsk (New lo w') w' v d := by
  obtain ⟨a, b, e, h1, h2⟩ := h
  exact ⟨a, b, e, (stab_sl stab_by).grown h1 hg hr, (stab_sl stab_wt).grown h2 hg hr⟩
theorem dsk_empty_new (lo : Nat) (w : World) : Dsk (New lo w) w (.agg #[.slice none 0 0, .slice none 0 0]) emptyD :=
  ⟨_, _, rfl, ⟨none, 0, rfl, by simp [emptyD], by omega, fun i x h => by simp [emptyD] at h⟩, ⟨none, 0, rfl, by simp [emptyD], by omega, fun i x h => by simp [emptyD] at h⟩⟩
theorem write_new (v u : Value) (d : Dk) (n : Int) (xs : List UInt8) (w : World) (h : Dsk (Old w) w v d) (hu : rBy (Old w) w [u] xs) :
    Calls Try.prog 30 #[v, .int .i64 n, u] w fun e w' => ∃ A c B f, e = .returned (.tuple #[.agg #[.slice A (wrR d n xs).1.length c, .slice B (wrR d n xs).2.length f], .int .i64 (wErr d n xs)]) ∧ Dsk (New w.heap.size w') w' (.agg #[.slice A (wrR d n xs).1.length c, .slice B (wrR d n xs).2.length f]) (wrR d n xs) ∧ Below w.heap.size w w' := by
  by_cases he : wErr d n xs = 0
  · obtain ⟨hm, ht, h8, h9⟩ := write_fine he (.inr trivial)
    obtain ⟨k, rfl, hk⟩ := thereB_nat ht
    refine (write_wr v u d k xs w h hu hm hk h8 h9).mono ?_
    rintro e w' ⟨x, rfl, hx, hb⟩
    have e1 : wrR d (k : Int) xs = wrD d k xs := by simp [wrR, he]
    obtain ⟨A, c, B, f, rfl, _⟩ := id hx.open
    rw [e1, he]
    exact ⟨A, c, B, f, rfl, hx, hb⟩
  · refine (write_bad v u d n xs w h hu he).mono ?_
    rintro e w' ⟨rfl, hb⟩
    have e1 : wrR d n xs = emptyD := by simp [wrR, he]
    rw [e1]
    exact ⟨none, 0, none, 0, rfl, dsk_empty_new _ _, hb⟩
theorem wrR_nat {d : Dk} {k : Nat} {xs : List UInt8} (h : wErr d (k : Int) xs = 0) : wrR d (k : Int) xs = wrD d k xs := by simp [wrR, h]
end Go.Proofs.Ytdcgcnnofjekaaa

/-
  append of whatever lies there, as an equation (app_any); the document's answers of layer 3: With. Conditions: those that each lemma states.
-/
namespace Go.Proofs.Ytdcgcnnofjekaaa
open Go.RowKit

/-- 'append(v, x...)': v a row of the call's own, x whatever cells lie there. -/
theorem app_any {P : Program} {w : World} (base : Nat) (t ty e : TypeId) (i : TypeInfo) (z : Value) (size bytes : Nat) (ht : P.underlying t = some (.slice e)) (hi : P.info? e = some i) (hz : i.zero = some z)
    (hsize : i.size = size) (hby : i.bytes = bytes) (hzs : z.cells.size = size) (hsz : 0 < size)
    (v : Value) (n : Nat) (xs : List Value) (hown : w.ownsRow base e size v n xs)
    (A : Option Addr) (m c : Nat) (news : List Value) (hl : news.length = m * size) (hnews : ∀ j u, news[j]? = some u → ∃ ad, A = some ad ∧ w.cell? (ad.add j) = some u) (h1 : ∀ u ∈ news, u.oneCell' = true)
    (h63 : n + m ≤ maxLen) (hbytes : (n + m) * bytes ≤ 140737488355328) (hbase : base ≤ w.heap.size) :
    ∃ v' w', (Builtin.append_ #[t, t] ty #[v, .slice A m c]).run P w = .ok v' w' ∧ w'.ownsRow base e size v' (n + m) (xs ++ news) ∧ w.grownBy w' v.ownBlock ∧ Below base w w' := by
  rcases A with _ | ad
  · have hx : news = [] := by
      cases news with
      | nil => rfl
      | cons a r =>
        obtain ⟨_, e, _⟩ := hnews 0 a rfl
        cases e
    subst hx
    obtain rfl : m = 0 := by
      rcases Nat.eq_zero_or_pos m with h | h
      · exact h
      · have := Nat.mul_pos h hsz
        simp at hl
        omega
    refine ⟨v, w, ?_, by simpa using hown, grow_refl _ _, Below.refl _ _⟩
    rcases hown.2 with ⟨rfl, rfl⟩ | ⟨g, cap, cur, rfl, _, _, hnc, _⟩
    · simp [Builtin.append_, run_underlying ht, sizeOf, typeInfo, hi, Builtin.lenOf, Builtin.firstCells]
    · simp [Builtin.append_, run_underlying ht, sizeOf, typeInfo, hi, Builtin.lenOf, Builtin.firstCells, hnc, storeCells]
  · obtain ⟨v', w', hr, h2, h3, _, _⟩ := run_append_own_at (P := P) w base t ty e i z size bytes ht hi hz hsize hby hzs hsz v n xs hown ad m c news hl (fun j u hj => by
      obtain ⟨_, e, h⟩ := hnews j u hj
      cases e
      exact h) h1 h63 hbytes hbase
    exact ⟨v', w', hr, h2, h3, (Below.refl base w).grown h3 hbase (fun k hk => (hown.lt k hk).1)⟩

/-- Cells that lay at w0, or were made behind w. -/
def Apart (w0 w w' : World) (p : Addr) : Prop := p.block < w0.heap.size ∨ (w.heap.size ≤ p.block ∧ p.block < w'.heap.size)
set_option maxRecDepth 100000 in
set_option maxHeartbeats 4000000 in
theorem refWith_in (v u : Value) (d : Dk) (k : Nat) (xs : List UInt8) (w0 w : World) (hW : Below w0.heap.size w0 w) (h : Dsk (Old w0) w0 v d) (hu : rBy (Old w0) w0 [u] xs) (hf : d.2.length < 4096) (hk : k < 256) :
    Calls Try.prog 78 #[v, .int .i64 k, u] w fun e w' => ∃ x, e = .returned x ∧ Dsk (Apart w0 w w') w' x (wrD d k xs) ∧ Below w.heap.size w w' := by
  obtain ⟨i0, hi, hz0, hz1, hz2⟩ := info_parts wts_info0
  obtain ⟨A, c, B, c', rfl, l1, m1, l2, m2, _, hB⟩ := h.open
  obtain ⟨E, ce, rfl, lE, mE, _⟩ := id (rBy_open hu)
  obtain ⟨ps, hps, hpc, hp1, hpx⟩ := wts_cells hB
  have hrows := h.parts.1
  have hub := Lib.hid hu
  have hpx' := Lib.hid hpx
  clear hB h hu hpx
  obtain ⟨n, hn⟩ : ∃ n, d.1.length = n := ⟨_, rfl⟩
  obtain ⟨m, hm⟩ : ∃ m, d.2.length = m := ⟨_, rfl⟩
  rw [hn] at l1 hrows ⊢
  replace hrows := Lib.hid hrows
  rw [hm] at l2 hps hf ⊢
  replace hn := Lib.hid hn
  replace hm := Lib.hid hm
  obtain ⟨w2, hw2, f1, f2, f3, hsz, hB2⟩ := box_two w (.slice A n c) (.slice B m c') #[.slice none 0 0, .slice none 0 0] 30
  obtain ⟨w3, hw3, g3, hs3, hB3⟩ := box_pair' w2 (.slice A n c) (.slice none 0 0) 30
  have hB23 := hB2.trans (hB3.mono hB2.size)
  have hW3 := hW.trans (hB23.mono hW.size)
  -- the waits, copied
  obtain ⟨v1, w4, hr1, own1, gr1, ba1⟩ := app_any (P := Try.prog) (w := w3) w3.heap.size 28 28 88 i0 (.agg #[.int .i64 0, .slice none 0 0]) 2 32 Try.underlying28 hi hz0 hz1 hz2 rfl (by decide) (.slice none 0 0) 0 [] (World.ownsRow_nil _ _ _ _) B m c' (wcells ps) (by rw [wcells_length, hps])
    (fun j u hj => by
      obtain ⟨ad, e, ho, hc⟩ := hpc j u hj
      exact ⟨ad, e, (hW3.cell (p := ad.add j) (by rw [add_block]; exact ho)).trans hc⟩) hp1 (by unfold maxLen; omega) (by omega) (Nat.le_refl _)
  rw [Nat.zero_add, List.nil_append] at own1
  obtain ⟨A1, c1, rfl, o1, o2, _, _⟩ := own_any own1
  have g4 := (ba1.block w2.heap.size (by omega)).trans g3
  obtain ⟨w5, hw5, g5, gr5, gs5⟩ := put_snd (u := .slice A1 m c1) g4
  have own5 := own1.kept gr5 (.inr (fun e => by have := (own1.lt _ e).1; omega))
  obtain ⟨w6, hw6, g6, hs6, hB6⟩ := box_pair' w5 (.int .i64 k) (.slice E xs.length ce) 88
  have own6 := own_below own5 hB6
  have s4 := ba1.size
  -- one write more
  obtain ⟨v2, w7, hr2, own7, gr7, ba2⟩ := app_any (P := Try.prog) (w := w6) w3.heap.size 28 28 88 i0 (.agg #[.int .i64 0, .slice none 0 0]) 2 32 Try.underlying28 hi hz0 hz1 hz2 rfl (by decide) (.slice A1 m c1) m (wcells ps) own6 (some ⟨w5.heap.size, 0, none⟩) 1 1 [.int .i64 (k : Int), .slice E xs.length ce] rfl
    (fun j u hj => ⟨_, rfl, World.news_of_block (cs := #[.int .i64 (k : Int), .slice E xs.length ce]) g6 j u hj⟩) (fun u hu => by
      simp at hu
      rcases hu with rfl | rfl <;> rfl) (by unfold maxLen; omega) (by omega) (by omega)
  obtain ⟨A2, c2, rfl, q1, q2, _, _⟩ := own_any own7
  have g7 := (ba2.block w2.heap.size (by omega)).trans ((hB6.block w2.heap.size (by omega)).trans g5)
  obtain ⟨w8, hw8, g8, gr8, gs8⟩ := put_snd (u := .slice A2 (m + 1) c2) g7
  have s7 := ba2.size
  have b8 : w8.heap[w.heap.size + 1]? = some (.cells #[.slice none 0 0, .slice none 0 0] 30 (0, 0)) :=
    (gr8.block _ (by omega) (fun e => by simp only [Option.some.injEq] at e; omega)).trans ((ba2.block _ (by omega)).trans ((hB6.block _ (by omega)).trans ((gr5.block _ (by omega) (fun e => by simp only [Option.some.injEq] at e; omega)).trans ((ba1.block _ (by omega)).trans ((hB3.block _ (by omega)).trans f3)))))
  obtain ⟨w9, hw9, g9, gr9, gs9⟩ := put_two (u := .slice A n c) (v := .slice A2 (m + 1) c2) b8
  obtain ⟨k5, k6, _, _⟩ := two_cells g9
  have own9 := (own7.kept gr8 (.inr (fun e => by have := (own7.lt _ e).1; omega))).kept gr9 (.inr (fun e => by have := (own7.lt _ e).1; omega))
  have B4 : Below w.heap.size w w4 := hB23.trans (ba1.mono hB23.size)
  have B5 := B4.grown gr5 B4.size (fun q e => by cases e; omega)
  have B6 := B5.trans (hB6.mono B5.size)
  have B7 : Below w.heap.size w w7 := B6.trans (ba2.mono hB23.size)
  have B8 := B7.grown gr8 B7.size (fun q e => by cases e; omega)
  have B9 := B8.grown gr9 B8.size (fun q e => by cases e; omega)
  have W9 := hW.trans (B9.mono hW.size)
  have mp : ∀ p v, Old w0 p → w0.cell? p = some v → Apart w0 w w9 p ∧ w9.cell? p = some v := fun p v hp hc => ⟨.inl hp, (W9.cell hp).trans hc⟩
  have hfin := Lib.hid (show Dsk (Apart w0 w w9) w9 (.agg #[.slice A n c, .slice A2 (m + 1) c2]) (wrD d k xs) from by
    refine ⟨_, _, rfl, stab_sl stab_by _ _ _ _ _ _ mp hrows.out, ?_⟩
    have e1 : wcells ps ++ [.int .i64 (k : Int), .slice E xs.length ce] = wcells (ps ++ [((k : Int), .slice E xs.length ce)]) := by rw [wcells_append]; rfl
    rw [e1] at own9
    refine own_wts_ok (fun p _ hp => .inr ⟨Nat.le_trans (by omega) hp.1, hp.2.1⟩) own9 (by simp [wrD, hm.out]) (fun i p x hp hx => ?_)
    rcases Nat.lt_or_ge i m with hi | hi
    · rw [List.getElem?_append_left (by omega)] at hp
      rw [show (wrD d k xs).2 = d.2 ++ [((k : Int), xs)] from rfl, List.getElem?_append_left (by rw [hm.out]; exact hi)] at hx
      obtain ⟨e, h1, h2, h3⟩ := hpx'.out i p x hp hx
      exact ⟨e, stab_by _ _ _ _ _ _ mp h1, h2, h3⟩
    · rw [List.getElem?_append_right (by omega)] at hp
      rw [show (wrD d k xs).2 = d.2 ++ [((k : Int), xs)] from rfl, List.getElem?_append_right (by rw [hm.out]; exact hi)] at hx
      have hi0 : i - ps.length = 0 := by
        have := (List.getElem?_eq_some_iff.1 hp).1
        simp at this
        omega
      rw [hi0] at hp
      rw [show i - d.2.length = 0 by have := hm.out; omega] at hx
      cases hp
      cases hx
      exact ⟨rfl, stab_by _ _ _ _ _ _ mp hub.out, by omega, by omega⟩)
  have H1 := Lib.hid hr1
  have H2 := Lib.hid hr2
  obtain ⟨z1, z2, z3, _⟩ := two_cells g4
  obtain ⟨z4, z5, z6, _⟩ := two_cells g5
  obtain ⟨y1, y2, y3, _⟩ := two_cells g7
  obtain ⟨y4, y5, _, _⟩ := two_cells g8
  obtain ⟨x1, x2, x3, _⟩ := two_cells b8
  obtain ⟨x4, x5, _, _⟩ := two_cells g3
  have f4 := (hB3.cell (p := ⟨w.heap.size, 1, none⟩) (show w.heap.size < w2.heap.size by omega)).trans f2
  replace B9 := Lib.hid B9
  replace W9 := Lib.hid W9
  replace mp := Lib.hid mp
  clear hW hW3 hr1 hr2 own1 own5 own6 own7 own9 gr1 gr5 gr7 gr8 gr9 B4 B5 B6 B7 B8 hpc hp1 hps g3 g4 g5 g6 g7 g8 b8 ba1 ba2 hB6 hB23 hB2 hB3 f3
  replace hsz := Lib.hid hsz
  replace hs3 := Lib.hid hs3
  replace hs6 := Lib.hid hs6
  replace gs5 := Lib.hid gs5
  replace gs8 := Lib.hid gs8
  replace gs9 := Lib.hid gs9
  clear s4 s7
  replace hw3 := Lib.hid hw3
  go_enter Try.func78, Try.ntmps78
  go_upto_region 2 with fail
  rw [hw3.out]
  clear hw3 hw2 x4
  go_wp2_with (first
    | (at_builtin; refine wpList_append_run rfl _ _ _ rfl rfl rfl H1.out ?_; clear H1)
    | (at_builtin; refine wpList_append_run rfl _ _ _ rfl rfl rfl H2.out ?_; clear H2))
  trace_state
  exact bodyPost_ret (v := .agg #[.slice A n c, .slice A2 (m + 1) c2]) (by simp [results, Try.results78, go_sem, k5, k6]) rfl ⟨_, rfl, hfin.out, B9.out⟩
end Go.Proofs.Ytdcgcnnofjekaaa

/-
  The document's answers of layer 3: Seen, Read. Conditions: those that each lemma states.
-/
namespace Go.Proofs.Ytdcgcnnofjekaaa
open Go.RowKit

theorem take_snoc {α : Type} {xs : List α} {j : Nat} {x : α} (h : xs[j]? = some x) : xs.take (j + 1) = xs.take j ++ [x] := by
  rw [List.take_add_one, h]
  rfl
theorem seen_hit {ws : List Wt} {b : List UInt8} {n : Int} {j : Nat} {x : Wt} (h : ws[j]? = some x) (e : x.1 = n) : seenW (ws.take (j + 1)) b n = x.2 := by
  rw [take_snoc h, seenW_append]
  simp [seenW, e]
theorem seen_miss {ws : List Wt} {b : List UInt8} {n : Int} {j : Nat} {x : Wt} (h : ws[j]? = some x) (e : x.1 ≠ n) : seenW (ws.take (j + 1)) b n = seenW (ws.take j) b n := by
  rw [take_snoc h, seenW_append]
  simp [seenW, e]

set_option maxRecDepth 100000 in
set_option maxHeartbeats 2000000 in
theorem refSeen_any (v : Value) (d : Dk) (k : Nat) (hk : k < d.1.length) (w : World) (h : Dsk (Old w) w v d) :
    Calls Try.prog 79 #[v, .int .i64 k] w fun e W' => ∃ u, e = .returned u ∧ rBy (Old w) w [u] (seenD d k) ∧ Below w.heap.size w W' := by
  obtain ⟨A, c, B, c', rfl, l1, m1, l2, m2, hA, hB⟩ := h.open
  obtain ⟨b, hb⟩ : ∃ b, d.1[k]? = some b := ⟨_, List.getElem?_eq_getElem hk⟩
  obtain ⟨ad, bv, rfl, ho1, hc1, hby1⟩ := hA k b hb
  have HB := Lib.hid hB
  have hsd : Hid (seenD d k = seenW d.2 b k) := Lib.hid (by unfold seenD; rw [hb]; rfl)
  replace hby1 := Lib.hid hby1
  clear hA hB h hb
  obtain ⟨n, hn⟩ : ∃ n, d.1.length = n := ⟨_, rfl⟩
  obtain ⟨m, hm⟩ : ∃ m, d.2.length = m := ⟨_, rfl⟩
  rw [hn] at l1 hk ⊢
  rw [hm] at l2 ⊢
  replace hn := Lib.hid hn
  replace hm := Lib.hid hm
  obtain ⟨w0, hw0, f1, f2, f3, hB1, _⟩ := box_disk w (.slice (some ad) n c) (.slice B m c')
  have g1 := (hB1.cell ho1).trans hc1
  have lt0 : w.heap.size < w0.heap.size := by omega
  clear hc1
  replace f3 := Lib.hid f3
  go_enter Try.func79, Try.ntmps79
  go_upto_region 1 with fail
  rw [← hw0]
  clear hw0
  go_wp2_with fail
  go_loopw [5] (fun i wr => ∃ j : Nat, j ≤ m ∧ i = .int .i64 ((j : Int) - 1) ∧ seenW d.2 b k = seenW (d.2.take j) b k ∧ wr = w0) (fun i _ => (intOf i + 1).toNat)
  case atStart => exact ⟨m, by omega, by go_num, by rw [List.take_of_length_le (by rw [hm.out]; omega)], rfl⟩
  case round =>
    obtain ⟨j, hj, rfl, hs, rfl⟩ := hrel
    replace hs := Lib.hid hs
    match j with
    | 0 =>
      have hfin : Hid (seenD d k = b) := Lib.hid (by rw [hsd.out, hs.out]; rfl)
      have t1 : ¬ (0 : Int) ≤ ((0 : Nat) : Int) - 1 := by omega
      have i1 : (0 : Int) ≤ (k : Int) := by omega
      have i2 : (k : Int) < (n : Int) := by omega
      go_wp2_with fail
      go_ret
      exact ⟨_, rfl, by rw [hfin.out]; exact hby1.out, hB1⟩
    | j + 1 =>
      obtain ⟨x, hx⟩ : ∃ x, d.2[j]? = some x := ⟨_, List.getElem?_eq_getElem (by rw [hm.out]; omega)⟩
      obtain ⟨bd, u, rfl, hok, hok', hc, hc', hby, _, _⟩ := HB.out j x hx
      replace hx := Lib.hid hx
      replace hc := (hB1.cell hok).trans hc
      replace hc' := (hB1.cell hok').trans hc'
      rw [add_next] at hc'
      replace hby := Lib.hid hby
      have ej : (((j + 1 : Nat) : Int) - 1) = (j : Int) := by omega
      rw [ej]
      have i1 : (0 : Int) ≤ (j : Int) := by omega
      have i2 : (j : Int) < (m : Int) := by omega
      have i3 : j < m := by omega
      by_cases e : x.1 = k
      · have he : (x.1 == (k : Int)) = true := by simpa using e
        have hfin : Hid (seenD d k = x.2) := Lib.hid (by rw [hsd.out, hs.out]; exact seen_hit hx.out e)
        clear e
        go_wp2_with fail
        go_ret
        exact ⟨_, rfl, by rw [hfin.out]; exact hby.out, hB1⟩
      · have he : (x.1 == (k : Int)) = false := by simpa using e
        replace e := Lib.hid e
        go_wp2_with fail
        go_roundw
        case rel => exact ⟨j, by omega, by go_num, by rw [hs.out]; exact seen_miss hx.out e.out, by first | rfl | trivial⟩
        case measure => simp [intOf]

/-- What both answer to a read. -/
def rdX (d : Dk) (n : Int) : List UInt8 := if chkAt d n = 0 then seenD d n.toNat else []
theorem rBy_none (w : World) : rBy (Old w) w [.slice none 0 0] [] := ⟨none, 0, rfl, by simp, by omega, fun i x h => by simp at h⟩
end Go.Proofs.Ytdcgcnnofjekaaa

/-
  The document's answers of layer 3: Settled. Conditions: those that each lemma states.
-/
namespace Go.Proofs.Ytdcgcnnofjekaaa
open Go.RowKit

theorem rows_cells2 {w0 w : World} {A : Option Addr} {xss : List (List UInt8)} (h : ∀ i x, xss[i]? = some x → ∃ ad v, A = some ad ∧ Old w (ad.add i) ∧ w.cell? (ad.add i) = some v ∧ rBy (Old w0) w0 [v] x) :
    ∃ vs : List Value, vs.length = xss.length ∧ (∀ j v, vs[j]? = some v → ∃ ad, A = some ad ∧ ad.block < w.heap.size ∧ w.cell? (ad.add j) = some v) ∧ (∀ u ∈ vs, u.oneCell' = true) ∧ ∀ (i : Nat) (v : Value) (x : List UInt8), vs[i]? = some v → xss[i]? = some x → rBy (Old w0) w0 [v] x := by
  obtain ⟨vs, hl, hv⟩ := list_of (n := xss.length) (p := fun i v => ∃ ad, A = some ad ∧ ad.block < w.heap.size ∧ w.cell? (ad.add i) = some v ∧ v.oneCell' = true ∧ ∀ x, xss[i]? = some x → rBy (Old w0) w0 [v] x) (fun i hi => by
    obtain ⟨ad, v, e, ho, hc, hb⟩ := h i _ (List.getElem?_eq_getElem hi)
    obtain ⟨E, c, rfl, _⟩ := rBy_open hb
    refine ⟨_, ad, e, by unfold Old at ho; rwa [add_block] at ho, hc, rfl, fun x hx => ?_⟩
    rw [List.getElem?_eq_getElem hi] at hx
    cases hx
    exact hb)
  refine ⟨vs, hl, fun j v hj => ?_, fun u hu => ?_, fun i v x hi hx => ?_⟩
  · obtain ⟨ad, e, hb, hc, _⟩ := hv j v hj
    exact ⟨ad, e, hb, hc⟩
  · obtain ⟨j, hj⟩ := List.getElem?_of_mem hu
    obtain ⟨_, _, _, _, h1, _⟩ := hv j u hj
    exact h1
  · obtain ⟨_, _, _, _, _, h1⟩ := hv i v hi
    exact h1 x hx
end Go.Proofs.Ytdcgcnnofjekaaa

/-
  The document's answers of layer 3: Barrier. Conditions: those that each lemma states.
-/
namespace Go.Proofs.Ytdcgcnnofjekaaa
open Go.RowKit

/-- What both answer to a barrier. -/
def barX (d : Dk) : Dk := if mayB d then settledD d else emptyD
/-- A disk of cells that lay at w0 or were made behind w is one behind a store into another block. -/
theorem apart_put {w0 w w4 W9 : World} {x : Value} {d : Dk} {g : Nat} (hx : Dsk (Apart w0 w w4) w4 x d) (gr : w4.grownBy W9 (some g)) (h0 : w0.heap.size ≤ g) (h1 : g < w.heap.size) (h2 : w.heap.size ≤ w4.heap.size) (h3 : W9.heap.size = w4.heap.size) : Dsk (Old W9) W9 x d :=
  hx.map fun p v hp hc => by
    have hlt : p.block < w4.heap.size := hp.elim (fun hp => by omega) (fun hp => hp.2)
    have hs : W9.heap[p.block]? = w4.heap[p.block]? := gr.block _ hlt (fun e => by simp only [Option.some.injEq] at e; rcases hp with hp | hp <;> omega)
    exact ⟨show p.block < W9.heap.size by omega, (World.cell?_of_block hs).trans hc⟩
end Go.Proofs.Ytdcgcnnofjekaaa

/-
  The document's answers of layer 3: Kept. Conditions: those that each lemma states.
-/
namespace Go.Proofs.Ytdcgcnnofjekaaa
open Go.RowKit

theorem apart_put2 {w0 w w1 w4 W9 : World} {x : Value} {d : Dk} {g : Nat} (hx : Dsk (Apart w0 w w4) w4 x d) (gr : w4.grownBy W9 (some g)) (h0 : w0.heap.size ≤ g) (h1 : g < w.heap.size) (h2 : w.heap.size ≤ w4.heap.size) (h3 : W9.heap.size = w4.heap.size) (h4 : w1.heap.size ≤ w.heap.size) : Dsk (Apart w0 w1 W9) W9 x d :=
  hx.map fun p v hp hc => by
    have hlt : p.block < w4.heap.size := hp.elim (fun hp => by omega) (fun hp => hp.2)
    have hs : W9.heap[p.block]? = w4.heap[p.block]? := gr.block _ hlt (fun e => by simp only [Option.some.injEq] at e; rcases hp with hp | hp <;> omega)
    exact ⟨hp.elim .inl (fun hp => .inr ⟨by omega, by omega⟩), (World.cell?_of_block hs).trans hc⟩

end Go.Proofs.Ytdcgcnnofjekaaa

/-
  The document's answers of layer 3: Crash. Conditions: those that each lemma states.
-/
namespace Go.Proofs.Ytdcgcnnofjekaaa
open Go.RowKit

/-- What both answer to a crash. -/
def craE (d : Dk) (ks : List Bool) : Int := if mayB d then (if ks.length = d.2.length then 0 else 2) else 8
def craX (d : Dk) (ks : List Bool) : Dk := if mayB d then (if ks.length = d.2.length then settledD (keptD d ks) else emptyD) else emptyD
end Go.Proofs.Ytdcgcnnofjekaaa

/-
  The document's answers of layer 3: Write. Conditions: those that each lemma states.
-/
namespace Go.Proofs.Ytdcgcnnofjekaaa
open Go.RowKit

set_option maxRecDepth 100000 in
set_option maxHeartbeats 4000000 in
theorem refWrite_any (v u : Value) (d : Dk) (n : Int) (xs : List UInt8) (w : World) (h : Dsk (Old w) w v d) (hu : rBy (Old w) w [u] xs) :
    Calls Try.prog 53 #[v, .int .i64 n, u] w fun e w' => ∃ x, e = .returned (.tuple #[x, .int .i64 (wErr d n xs)]) ∧ Dsk (Old w') w' x (wrR d n xs) ∧ Below w.heap.size w w' := by
  obtain ⟨A, c, B, c', rfl, _⟩ := id h.open
  obtain ⟨E, ce, rfl, _⟩ := id (rBy_open hu)
  obtain ⟨w2, hw2, f1, f2, f3, hsz, hB⟩ := box_two w (.slice A d.1.length c) (.slice B d.2.length c') #[.slice none 0 0, .slice none 0 0] 30
  have H := Lib.hid (h.below hB)
  have U := Lib.hid (stab_by.old hu hB)
  replace h := Lib.hid h
  replace hu := Lib.hid hu
  replace hsz := Lib.hid hsz
  go_enter Try.func53, Try.ntmps53
  go_upto_region 1 with fail
  clear hw2
  go_wp2_with fail
  with_reducible refine (may_any _ d _ H.out).mono ?_
  rintro er w3 ⟨rfl, hb3⟩
  have H3 := Lib.hid (H.out.below hb3)
  have U3 := Lib.hid (stab_by.old U.out hb3)
  have f4 := (hb3.block (w.heap.size + 1) (by rw [hsz.out]; omega)).trans f3
  have g1 := (hb3.cell (p := ⟨w.heap.size, 0, none⟩) (by rw [hsz.out]; simp)).trans f1
  have g2 := (hb3.cell (p := ⟨w.heap.size, 1, none⟩) (by rw [hsz.out]; simp)).trans f2
  obtain ⟨k1, k2, k3, k4⟩ := two_cells f4
  have hB3 := hB.trans (hb3.mono hB.size)
  have hl3 : w.heap.size + 2 ≤ w3.heap.size := by have := hsz.out; have := hb3.size; omega
  clear f1 f2 H U
  replace f3 := Lib.hid f3
  by_cases he : wErr d n xs = 0
  · obtain ⟨hm, ht, h8, h9⟩ := write_fine he (.inr trivial)
    obtain ⟨k, rfl, hk⟩ := thereB_nat ht
    have hr : Hid (wrR d (k : Int) xs = wrD d k xs) := Lib.hid (by simp [wrR, he])
    have hw := Lib.hid he
    rw [hm]
    have i1 : ¬ (k : Int) < 0 := by omega
    have i2 : ¬ (256 : Int) ≤ (k : Int) := by omega
    have i3 : ((xs.length : Int) != 128) = false := by rw [h8]; rfl
    have i4 : ¬ (4096 : Int) ≤ (d.2.length : Int) := by omega
    replace h8 := Lib.hid h8
    replace f4 := Lib.hid f4
    clear he hm ht
    go_wp2_with fail
    with_reducible refine (refWith_in _ _ d k xs w _ hB3 h.out hu.out h9 hk).mono ?_
    rintro es w4 ⟨x, rfl, hx, hb4⟩
    obtain ⟨A4, c4, B4, d4, rfl, _⟩ := id hx.open
    have f5 := (hb4.block (w.heap.size + 1) (by omega)).trans f4.out
    obtain ⟨y1, y2, y3, _⟩ := two_cells f5
    obtain ⟨W9, hW9, g9, gr9, gs9⟩ := put_two (u := .slice A4 (wrD d k xs).1.length c4) (v := .slice B4 (wrD d k xs).2.length d4) f5
    obtain ⟨k5, k6, _, _⟩ := two_cells g9
    have hB9 := (hB3.trans (hb4.mono hB3.size)).grown gr9 (Nat.le_trans hB3.size hb4.size) (fun q e => by cases e; omega)
    have hfin := Lib.hid (show Dsk (Old W9) W9 (.agg #[.slice A4 (wrD d k xs).1.length c4, .slice B4 (wrD d k xs).2.length d4]) (wrD d k xs) from
      hx.map fun p v hp hc => by
        have hlt : p.block < w4.heap.size := hp.elim (fun hp => Nat.lt_of_lt_of_le hp (Nat.le_trans hB3.size hb4.size)) (fun hp => hp.2)
        have hs : W9.heap[p.block]? = w4.heap[p.block]? := gr9.block _ hlt (fun e => by simp only [Option.some.injEq] at e; rcases hp with hp | hp <;> omega)
        exact ⟨show p.block < W9.heap.size by omega, (World.cell?_of_block hs).trans hc⟩)
    replace f5 := Lib.hid f5
    replace g9 := Lib.hid g9
    clear hx gr9
    go_wp2_with fail
    exact bodyPost_ret (v := .tuple #[.agg #[.slice A4 (wrD d k xs).1.length c4, .slice B4 (wrD d k xs).2.length d4], .int .i64 0]) (by simp [results, Try.results53, go_sem, k5, k6]) rfl ⟨_, by rw [hw.out], by rw [hr.out]; exact hfin.out, hB9⟩
  · have hr : Hid (wrR d n xs = emptyD) := Lib.hid (by simp [wrR, he])
    obtain ⟨W9, hW9, g9, gr9, gs9⟩ := put_two (u := .slice none 0 0) (v := .slice none 0 0) f4
    obtain ⟨k5, k6, _, _⟩ := two_cells g9
    have hB9 := hB3.grown gr9 hB3.size (fun q e => by cases e; omega)
    replace f4 := Lib.hid f4
    replace g9 := Lib.hid g9
    cases hm : mayB d with
    | false =>
      have hw := Lib.hid (show wErr d n xs = 8 by simp [wErr, hm])
      clear he hm
      go_wp2_with fail
      exact bodyPost_ret (v := .tuple #[.agg #[.slice none 0 0, .slice none 0 0], .int .i64 8]) (by simp [results, Try.results53, go_sem, k5, k6]) rfl ⟨_, by rw [hw.out], by rw [hr.out]; exact (dsk_empty_new 0 W9).drop, hB9⟩
    | true =>
      cases ht : thereB n with
      | false =>
        have hw := Lib.hid (show wErr d n xs = 2 by simp [wErr, hm, ht])
        by_cases h0 : n < 0
        · clear he hm ht
          go_wp2_with fail
          exact bodyPost_ret (v := .tuple #[.agg #[.slice none 0 0, .slice none 0 0], .int .i64 2]) (by simp [results, Try.results53, go_sem, k5, k6]) rfl ⟨_, by rw [hw.out], by rw [hr.out]; exact (dsk_empty_new 0 W9).drop, hB9⟩
        · have h1 : (256 : Int) ≤ n := by
            simp only [thereB, Bool.and_eq_false_iff, decide_eq_false_iff_not] at ht
            omega
          clear he hm ht
          go_wp2_with fail
          exact bodyPost_ret (v := .tuple #[.agg #[.slice none 0 0, .slice none 0 0], .int .i64 2]) (by simp [results, Try.results53, go_sem, k5, k6]) rfl ⟨_, by rw [hw.out], by rw [hr.out]; exact (dsk_empty_new 0 W9).drop, hB9⟩
      | true =>
        obtain ⟨k, rfl, hk⟩ := thereB_nat ht
        have i1 : ¬ (k : Int) < 0 := by omega
        have i2 : ¬ (256 : Int) ≤ (k : Int) := by omega
        by_cases h8 : xs.length = 128
        · have h9 : d.2.length = 4096 := by
            unfold wErr at he
            simp [hm, ht, h8] at he
            exact he
          have hw := Lib.hid (show wErr d k xs = 9 by simp [wErr, hm, ht, h8, h9])
          have i3 : ((xs.length : Int) != 128) = false := by rw [h8]; rfl
          have i4 : (4096 : Int) ≤ (d.2.length : Int) := by omega
          replace h8 := Lib.hid h8
          replace h9 := Lib.hid h9
          clear he hm ht
          go_wp2_with fail
          exact bodyPost_ret (v := .tuple #[.agg #[.slice none 0 0, .slice none 0 0], .int .i64 9]) (by simp [results, Try.results53, go_sem, k5, k6]) rfl ⟨_, by rw [hw.out], by rw [hr.out]; exact (dsk_empty_new 0 W9).drop, hB9⟩
        · have hw := Lib.hid (show wErr d k xs = 3 by simp [wErr, hm, ht, h8])
          have i3 : ((xs.length : Int) != 128) = true := by simp; omega
          clear he hm ht h8
          go_wp2_with fail
          exact bodyPost_ret (v := .tuple #[.agg #[.slice none 0 0, .slice none 0 0], .int .i64 3]) (by simp [results, Try.results53, go_sem, k5, k6]) rfl ⟨_, by rw [hw.out], by rw [hr.out]; exact (dsk_empty_new 0 W9).drop, hB9⟩
end Go.Proofs.Ytdcgcnnofjekaaa

/-
  Rows of the call's own to which elements are pushed, one by one: elements may hold memory that the call made, none of it in the row. Conditions: those that each lemma states.
-/
namespace Go.Proofs.Ytdcgcnnofjekaaa
open Go.RowKit

/-- 'append(v, x...)' onto a row of the call's own: where the row lies then. -/
theorem app_own {P : Program} {w : World} (base : Nat) (t ty e : TypeId) (i : TypeInfo) (z : Value) (size bytes : Nat) (ht : P.underlying t = some (.slice e)) (hi : P.info? e = some i) (hz : i.zero = some z)
    (hsize : i.size = size) (hby : i.bytes = bytes) (hzs : z.cells.size = size) (hsz : 0 < size)
    (v : Value) (n : Nat) (xs : List Value) (hown : w.ownsRow base e size v n xs)
    (ad : Addr) (m c : Nat) (news : List Value) (hl : news.length = m * size) (hnews : ∀ j u, news[j]? = some u → w.cell? (ad.add j) = some u) (h1 : ∀ u ∈ news, u.oneCell' = true)
    (h63 : n + m ≤ maxLen) (hbytes : (n + m) * bytes ≤ 140737488355328) (hbase : base ≤ w.heap.size) :
    ∃ v' w', (Builtin.append_ #[t, t] ty #[v, .slice (some ad) m c]).run P w = .ok v' w' ∧ w'.ownsRow base e size v' (n + m) (xs ++ news) ∧ w.grownBy w' v.ownBlock ∧ Below base w w' ∧ (v'.ownBlock = v.ownBlock ∨ v'.ownBlock = some w.heap.size) := by
  obtain ⟨v', w', hr, h2, h3, _, h5⟩ := run_append_own_at (P := P) w base t ty e i z size bytes ht hi hz hsize hby hzs hsz v n xs hown ad m c news hl hnews h1 h63 hbytes hbase
  exact ⟨v', w', hr, h2, h3, (Below.refl base w).grown h3 hbase (fun k hk => (hown.lt k hk).1), h5⟩

theorem NewBut.below {lo : Nat} {A : Option Addr} {w w' : World} {p : Addr} {v : Value} (hb : Below w.heap.size w w') (hp : NewBut lo A w p) (hc : w.cell? p = some v) : NewBut lo A w' p ∧ w'.cell? p = some v :=
  ⟨⟨⟨hp.1.1, Nat.lt_of_lt_of_le hp.1.2.1 hb.size, (hb.frozen hp.1.2.1).trans hp.1.2.2⟩, hp.2⟩, (hb.cell hp.1.2.1).trans hc⟩
theorem NewBut.grown {lo : Nat} {A : Option Addr} {w w' : World} {p : Addr} {v : Value} {row : Option Nat} (hg : w.grownBy w' row) (hr : ∀ q, row = some q → q < lo) (hp : NewBut lo A w p) (hc : w.cell? p = some v) : NewBut lo A w' p ∧ w'.cell? p = some v := by
  have hb := hg.block p.block hp.1.2.1 (fun e => by have := hr _ e.symm; have := hp.1.1; omega)
  exact ⟨⟨⟨hp.1.1, Nat.lt_of_lt_of_le hp.1.2.1 hg.size, (World.frozen?_of_block hb).trans hp.1.2.2⟩, hp.2⟩, (World.cell?_of_block hb).trans hc⟩

/-- A row of the call's own, whose elements read as xs. -/
def RowOf {α : Type} (R : Rel α) (size : Nat) (t : TypeId) (lo : Nat) (w : World) (A : Option Addr) (c : Nat) (xs : List α) : Prop :=
  ∃ cs, w.ownsRow lo t size (.slice A xs.length c) xs.length cs ∧ ∀ i x, xs[i]? = some x → ∃ vs, vs.length = size ∧ (∀ j u, vs[j]? = some u → cs[i * size + j]? = some u) ∧ R (NewBut lo A w) w vs x
section
variable {α : Type} {R : Rel α} {size : Nat} {t : TypeId} {lo : Nat} {w w' : World} {A : Option Addr} {c : Nat} {xs : List α}
theorem RowOf.nil (R : Rel α) (size : Nat) (t : TypeId) (lo : Nat) (w : World) : RowOf R size t lo w none 0 [] := ⟨[], World.ownsRow_nil _ _ _ _, fun i x h => by simp at h⟩
theorem RowOf.below (hR : Stab R) (h : RowOf R size t lo w A c xs) (hb : Below w.heap.size w w') : RowOf R size t lo w' A c xs := by
  obtain ⟨cs, h1, h2⟩ := h
  refine ⟨cs, own_below h1 hb, fun i x hi => ?_⟩
  obtain ⟨vs, e1, e2, e3⟩ := h2 i x hi
  exact ⟨vs, e1, e2, hR _ _ _ _ _ _ (fun p v hp hc => NewBut.below hb hp hc) e3⟩
theorem RowOf.grown (hR : Stab R) (h : RowOf R size t lo w A c xs) {row : Option Nat} (hg : w.grownBy w' row) (hr : ∀ q, row = some q → q < lo) : RowOf R size t lo w' A c xs := by
  obtain ⟨cs, h1, h2⟩ := h
  have hk : (Value.slice A xs.length c).ownBlock = none ∨ (Value.slice A xs.length c).ownBlock ≠ row := by
    rcases row with _ | q
    · by_cases e : (Value.slice A xs.length c).ownBlock = none
      · exact .inl e
      · exact .inr e
    · refine .inr fun e => ?_
      have := (h1.lt q e).1
      have := hr q rfl
      omega
  have h1' : w'.ownsRow lo t size (.slice A xs.length c) xs.length cs := h1.kept hg hk
  refine ⟨cs, h1', fun i x hi => ?_⟩
  obtain ⟨vs, e1, e2, e3⟩ := h2 i x hi
  exact ⟨vs, e1, e2, hR _ _ _ _ _ _ (fun p v hp hc => NewBut.grown hg hr hp hc) e3⟩
theorem RowOf.low (hR : Stab R) (h : RowOf R size t lo w A c xs) {lo' : Nat} (hl : lo' ≤ lo) : RowOf R size t lo' w A c xs := by
  obtain ⟨cs, h1, h2⟩ := h
  refine ⟨cs, own_low h1 hl, fun i x hi => ?_⟩
  obtain ⟨vs, e1, e2, e3⟩ := h2 i x hi
  exact ⟨vs, e1, e2, hR _ _ _ _ _ _ (fun p v hp hc => ⟨⟨⟨Nat.le_trans hl hp.1.1, hp.1.2⟩, hp.2⟩, hc⟩) e3⟩
theorem RowOf.rel (hR : Stab R) (h : RowOf R size t lo w A c xs) : rSl size R (New lo w) w [.slice A xs.length c] xs := by
  obtain ⟨cs, h1, h2⟩ := h
  refine own_sl h1 rfl fun i x hi => ?_
  obtain ⟨vs, e1, e2, e3⟩ := h2 i x hi
  exact ⟨vs, e1, e2, hR _ _ _ _ _ _ (fun p v hp hc => ⟨hp.1, hc⟩) e3⟩
theorem RowOf.form (h : RowOf R size t lo w A c xs) : xs.length ≤ c ∧ c ≤ 9223372036854775807 ∧ (Value.slice A xs.length c).ownBlock = A.map (·.block) ∧ (0 < xs.length → ∃ ad, A = some ad) := by
  obtain ⟨cs, h1, _⟩ := h
  obtain ⟨A', c', e, h2, h3, h4, h5⟩ := own_any h1
  cases e
  exact ⟨h2, h3, h4, h5⟩
/-- One more. -/
theorem RowOf.push {P : Program} (hR : Stab R) (h : RowOf R size t lo w A c xs) (st ty : TypeId) (i : TypeInfo) (z : Value) (bytes : Nat) (ht : P.underlying st = some (.slice t)) (hi : P.info? t = some i) (hz : i.zero = some z)
    (hsize : i.size = size) (hby : i.bytes = bytes) (hzs : z.cells.size = size) (hsz : 0 < size) (ad : Addr) (m : Nat) (news : List Value) (x : α) (hl : news.length = size) (hnews : ∀ j u, news[j]? = some u → w.cell? (ad.add j) = some u) (h1 : ∀ u ∈ news, u.oneCell' = true)
    (h63 : xs.length + 1 ≤ maxLen) (hbytes : (xs.length + 1) * bytes ≤ 140737488355328) (hbase : lo ≤ w.heap.size) (hx : R (NewBut lo A w) w news x) :
    ∃ A' c' w', (Builtin.append_ #[st, st] ty #[.slice A xs.length c, .slice (some ad) 1 m]).run P w = .ok (.slice A' (xs.length + 1) c') w' ∧ RowOf R size t lo w' A' c' (xs ++ [x]) ∧ w.grownBy w' (A.map (·.block)) ∧ Below lo w w' := by
  obtain ⟨cs, ho, hcs⟩ := h
  obtain ⟨A1, c1, e, _, _, e4, _⟩ := own_any ho
  cases e
  obtain ⟨v', w', hr, o1, g1, b1, k1⟩ := app_own (P := P) (w := w) lo st ty t i z size bytes ht hi hz hsize hby hzs hsz _ _ cs ho ad 1 m news (by omega) hnews h1 h63 hbytes hbase
  obtain ⟨A2, c2, rfl, _, _, e5, _⟩ := own_any o1
  rw [e4] at g1 k1
  rw [e5] at k1
  have mp : ∀ p v, NewBut lo A w p → w.cell? p = some v → NewBut lo A2 w' p ∧ w'.cell? p = some v := fun p v hp hc => by
    have hb := g1.block p.block hp.1.2.1 (fun e => hp.2 e.symm)
    refine ⟨⟨⟨hp.1.1, Nat.lt_of_lt_of_le hp.1.2.1 g1.size, (World.frozen?_of_block hb).trans hp.1.2.2⟩, fun e => ?_⟩, (World.cell?_of_block hb).trans hc⟩
    rcases k1 with k | k
    · exact hp.2 (k ▸ e)
    · rw [k] at e
      simp only [Option.some.injEq] at e
      have := hp.1.2.1
      omega
  refine ⟨A2, c2, w', hr, ⟨cs ++ news, by rw [List.length_append]; exact o1, fun j y hj => ?_⟩, g1, b1⟩
  have hcl : cs.length = xs.length * size := ho.1
  rcases Nat.lt_or_ge j xs.length with hjl | hjl
  · rw [List.getElem?_append_left hjl] at hj
    obtain ⟨vs, e1, e2, e3⟩ := hcs j y hj
    refine ⟨vs, e1, fun k u hk => ?_, hR _ _ _ _ _ _ mp e3⟩
    have hcu := e2 k u hk
    rw [List.getElem?_append_left (List.getElem?_eq_some_iff.1 hcu).1]
    exact hcu
  · rw [List.getElem?_append_right hjl] at hj
    have hj0 : j = xs.length := by
      have := (List.getElem?_eq_some_iff.1 hj).1
      simp at this
      omega
    subst hj0
    simp at hj
    subst hj
    refine ⟨news, hl, fun k u hk => ?_, hR _ _ _ _ _ _ mp hx⟩
    rw [List.getElem?_append_right (by omega), hcl, Nat.add_sub_cancel_left]
    exact hk
end

/-- 'append([]byte(nil), b...)': the same bytes in new memory. -/
theorem app_copy (v : Value) (xs : List UInt8) (w : World) (hbig : xs.length ≤ 1000000000) (h : rBy (Old w) w [v] xs) :
    ∃ v' w', (Builtin.append_ #[40, 40] 40 #[.slice none 0 0, v]).run Try.prog w = .ok v' w' ∧ rBy (New w.heap.size w') w' [v'] xs ∧ Below w.heap.size w w' := by
  obtain ⟨i0, hi, hz0, hz1, hz2⟩ := info_parts u8_info0
  obtain ⟨A, cap, rfl, _, _, hb⟩ := rBy_byt (B := w.heap.size) (fun p hp => hp) h
  obtain ⟨v', w', hr, ho, hB⟩ := app_byt (P := Try.prog) (w := w) w.heap.size 40 40 5 i0 Try.underlying40 hi hz0 hz1 hz2 (.slice none 0 0) 0 [] (World.ownsRow_nil _ _ _ _) w.heap.size A xs.length cap xs hb rfl (by omega) (Nat.le_refl _)
  rw [Nat.zero_add, List.nil_append] at ho
  exact ⟨v', w', hr, own_by ho, hB⟩
theorem does_append {P : Program} {w w' : World} {o : Oper} {a : Act} {R : Value → World → Prop} (s x : Operand) (t : TypeId)
    (ho : o.op = .call { callee := .builtin .append, args := #[s, x], argTypes := #[t, t] }) {v u v' : Value} (hs : a.eval s = v) (hx : a.eval x = u)
    (hrun : (Builtin.append_ #[t, t] o.type #[v, u]).run P w = .ok v' w') (h : R v' w') : doesUpon P R ((execOp a.eval o).run P w) := by
  unfold execOp
  simp only [ho, resolve, invoke, builtin, Sem.run_bind, Sem.run_pure, Result.andThen_ok, List.map_toArray, List.map_cons, List.map_nil, hs, hx, hrun]
  exact h
theorem grow_later {a b c : World} {row : Option Nat} (h : a.grownBy b row) (h' : Below a.heap.size b c) : a.grownBy c row :=
  ⟨h'.os.trans h.os, h'.tape.trans h.tape, h'.output.trans h.output, Nat.le_trans h.size h'.size, fun k hk hn => (h'.block k hk).trans (h.block k hk hn)⟩
end Go.Proofs.Ytdcgcnnofjekaaa

/-
  The document's answers of layer 3: New, Twin. Conditions: those that each lemma states.
-/
namespace Go.Proofs.Ytdcgcnnofjekaaa
open Go.RowKit

theorem rows_push {w : World} {lo : Nat} {A : Option Addr} {c : Nat} {xss : List (List UInt8)} (h : RowOf rBy 1 40 lo w A c xss) (g : Nat) (u : Value) (m : Nat) (x : List UInt8) (hg : w.heap[g]? = some (.cells #[u] 40 (0, 0))) (hs : xss.length < 100000) (hbase : lo ≤ w.heap.size) (hx : rBy (NewBut lo A w) w [u] x) :
    ∃ A' c' w', (Builtin.append_ #[27, 27] 27 #[.slice A xss.length c, .slice (some ⟨g, 0, none⟩) 1 m]).run Try.prog w = .ok (.slice A' (xss.length + 1) c') w' ∧ RowOf rBy 1 40 lo w' A' c' (xss ++ [x]) ∧ w.grownBy w' (A.map (·.block)) ∧ Below lo w w' := by
  obtain ⟨i0, hi, hz0, hz1, hz2⟩ := info_parts rows_info0
  obtain ⟨E, ce, rfl, _⟩ := id (rBy_open hx)
  exact RowOf.push stab_by h 27 27 i0 (.slice none 0 0) 24 Try.underlying27 hi hz0 hz1 hz2 rfl (by decide) ⟨g, 0, none⟩ m _ x rfl (World.news_of_block (cs := #[.slice E x.length ce]) hg) (fun u hu => by
    simp at hu
    subst hu
    rfl) (by unfold maxLen; omega) (by omega) hbase hx

end Go.Proofs.Ytdcgcnnofjekaaa

/-
  The document's answers of layer 3: Twin. Conditions: those that each lemma states.
-/
namespace Go.Proofs.Ytdcgcnnofjekaaa
open Go.RowKit

theorem wts_push {w : World} {lo : Nat} {A : Option Addr} {c : Nat} {ws : List Wt} (h : RowOf rWt 2 88 lo w A c ws) (g : Nat) (n : Int) (u : Value) (m : Nat) (x : List UInt8) (hg : w.heap[g]? = some (.cells #[.int .i64 n, u] 88 (0, 0))) (hs : ws.length < 100000) (hbase : lo ≤ w.heap.size) (h1 : -9223372036854775808 ≤ n) (h2 : n ≤ 9223372036854775807) (hx : rBy (NewBut lo A w) w [u] x) :
    ∃ A' c' w', (Builtin.append_ #[28, 28] 28 #[.slice A ws.length c, .slice (some ⟨g, 0, none⟩) 1 m]).run Try.prog w = .ok (.slice A' (ws.length + 1) c') w' ∧ RowOf rWt 2 88 lo w' A' c' (ws ++ [(n, x)]) ∧ w.grownBy w' (A.map (·.block)) ∧ Below lo w w' := by
  obtain ⟨i0, hi, hz0, hz1, hz2⟩ := info_parts wts_info0
  obtain ⟨E, ce, rfl, _⟩ := id (rBy_open hx)
  exact RowOf.push stab_wt h 28 28 i0 (.agg #[.int .i64 0, .slice none 0 0]) 32 Try.underlying28 hi hz0 hz1 hz2 rfl (by decide) ⟨g, 0, none⟩ m _ (n, x) rfl (World.news_of_block (cs := #[.int .i64 n, .slice E x.length ce]) hg) (fun u hu => by
    simp at hu
    rcases hu with rfl | rfl <;> rfl) (by unfold maxLen; omega) (by omega) hbase (rWt_mk h1 h2 hx)

/-- The cells of a row's elements of the call's own: none lies in the row. -/
theorem RowOf.but {α : Type} {R : Rel α} {size : Nat} {t : TypeId} {lo lo' : Nat} {w w' : World} {A : Option Addr} {c : Nat} {xs : List α} (h : RowOf R size t lo w A c xs) {p : Addr} (hl : w.heap.size ≤ lo') (h2 : lo ≤ lo') (hp : New lo' w' p) : NewBut lo A w' p :=
  ⟨⟨Nat.le_trans h2 hp.1, hp.2⟩, fun e => by
    obtain ⟨cs, hcs, _⟩ := h
    obtain ⟨_, _, e0, _, _, e4, _⟩ := own_any hcs
    cases e0
    have := (hcs.lt _ (by rw [e4]; exact e)).2
    have := hp.1
    omega⟩

set_option maxRecDepth 100000 in
set_option maxHeartbeats 4000000 in
theorem refTwin_any (v : Value) (d : Dk) (w : World) (hs : Small d) (h : Dsk (Old w) w v d) : Calls Try.prog 25 #[v] w fun e w' => ∃ u, e = .returned u ∧ Dsk (New w.heap.size w') w' u d ∧ Below w.heap.size w w' := by
  obtain ⟨A, c, B, c', rfl, l1, m1, l2, m2, hA, hB⟩ := h.open
  have p1 := hs.rows
  have p2 := hs.waits
  have HS := Lib.hid hs
  have HA := Lib.hid hA
  have HB := Lib.hid hB
  clear hA hB h hs
  obtain ⟨n, hn⟩ : ∃ n, d.1.length = n := ⟨_, rfl⟩
  obtain ⟨m, hm⟩ : ∃ m, d.2.length = m := ⟨_, rfl⟩
  rw [hn] at l1 p1 ⊢
  rw [hm] at l2 p2 ⊢
  replace hn := Lib.hid hn
  replace hm := Lib.hid hm
  obtain ⟨w2, hw2, f1, f2, f3, hsz, hB2⟩ := box_two w (.slice A n c) (.slice B m c') #[.slice none 0 0, .slice none 0 0] 30
  obtain ⟨w3, hw3, g3, hs3, hB3⟩ := box_pair' w2 (.slice none 0 0) (.slice none 0 0) 30
  have S5 : Hid (w.heap.size + 2 = w2.heap.size ∧ w2.heap.size + 1 = w3.heap.size) := Lib.hid ⟨by omega, by omega⟩
  replace hsz := Lib.hid hsz
  replace hs3 := Lib.hid hs3
  replace g3 := Lib.hid g3
  replace f3 := Lib.hid f3
  replace hw3 := Lib.hid hw3
  have hB2' := Lib.hid hB2
  have lt0 : w.heap.size < w2.heap.size := by have := S5.out; omega
  clear hB2
  go_enter Try.func25, Try.ntmps25
  go_upto_region 2 with fail
  rw [hw3.out]
  clear hw3 hw2
  go_wp2_with fail
  go_loopw [4] (fun i wr => ∃ k : Nat, k ≤ n ∧ i = .int .i64 k ∧ Below w2.heap.size w2 wr ∧ ∃ (A1 : Option Addr) (c1 : Nat), wr.heap[w2.heap.size]? = some (.cells #[.slice A1 k c1, .slice none 0 0] 30 (0, 0)) ∧
      RowOf rBy 1 40 w3.heap.size wr A1 c1 (d.1.take k)) (fun i _ => n - (intOf i).toNat)
  case atStart => exact ⟨0, by omega, rfl, hB3, none, 0, g3.out, RowOf.nil _ _ _ _ _⟩
  case round =>
    obtain ⟨k, hk, rfl, hb, A1, c1, hz, hrow⟩ := hrel
    obtain ⟨r2, r3, r4, r5⟩ := two_cells hz
    have r1 := (hb.cell (p := ⟨w.heap.size, 0, none⟩) lt0).trans f1
    have htl := Lib.hid (show (d.1.take k).length = k by rw [List.length_take, hn.out]; omega)
    replace hrow := Lib.hid hrow
    by_cases hlt : k < n
    · obtain ⟨x, hx⟩ : ∃ x, d.1[k]? = some x := ⟨_, List.getElem?_eq_getElem (by rw [hn.out]; exact hlt)⟩
      obtain ⟨ad, u, rfl, hok, hc, hby⟩ := HA.out k x hx
      have hWr : Below w.heap.size w wr := hB2'.out.trans (hb.mono hB2'.out.size)
      have hcr := (hWr.cell hok).trans hc
      have hbr := stab_by.old hby hWr
      have hbig := HS.out.block k x hx
      have htk := Lib.hid (show d.1.take (k + 1) = d.1.take k ++ [x] by rw [List.take_add_one, hx]; rfl)
      obtain ⟨E, ce, rfl, _⟩ := id (rBy_open hby)
      have t1 := World.block_lt_of_cell? _ _ r1
      have t3 := World.block_lt_of_cell? _ _ hcr
      have i1 : (0 : Int) ≤ (k : Int) := by omega
      have i2 : (k : Int) < (n : Int) := by omega
      replace hx := Lib.hid hx
      replace hbr := Lib.hid hbr
      have hz' := Lib.hid hz
      have hb' := Lib.hid hb
      clear hz hb hc hby hok
      go_wp2_with fail
      refine wp_region_tails (by kernel_rfl) 9 (fun W => Below wr.heap.size wr W) (fun i => match i with
          | 7 => some (fun v W => rBy (New wr.heap.size W) W [v] x)
          | 8 => some (fun v W => ∃ g, v = .slice (some ⟨g, 0, none⟩) 1 1 ∧ wr.heap.size ≤ g ∧ ∃ u, W.heap[g]? = some (.cells #[u] 40 (0, 0)) ∧ rBy (New wr.heap.size W) W [u] x)
          | _ => none) (fun _ => none) (by decide) (by kernel_rfl) (by kernel_rfl) (Below.refl _ _).drew (fun w w' h hb => h.trans (hb.mono h.size)) ?tst ?_
      case tst =>
        intro j φ x W W' hp hx hb
        match j, hp with
        | 7, hp => cases hp; exact stab_by.new hx (Nat.le_refl _) hb
        | 8, hp =>
          cases hp
          obtain ⟨g, e1, e2, u, e3, e4⟩ := hx
          exact ⟨g, e1, e2, u, (hb.block g (Array.getElem?_eq_some_iff.1 e3).1).trans e3, stab_by.new e4 (Nat.le_refl _) hb⟩
      simp only [List.take_succ_cons, List.take_zero, List.drop_succ_cons, List.drop_zero]
      repeat (first
        | (refine wpAs_skip rfl ?_; simp only [Act.put, List.setIfInBounds_toArray, List.set_cons_zero, List.set_cons_succ])
        | (refine wpAs_pure (v := ?_) rfl rfl ?_ ?_; rotate_left; (intro W hC hE; clear hE; (have z1 := (hC.cell t1).trans r1; have z2 := (hC.cell (p := ⟨w2.heap.size, 0, none⟩) r5).trans r2; have z3 := (hC.cell t3).trans hcr); clear hC; go_simp; done); simp only [Act.put, List.setIfInBounds_toArray, List.set_cons_zero, List.set_cons_succ])
        | (refine wpAs_pure (v := ?_) rfl rfl ?_ ?_; rotate_left; (intro W hC hE; clear hE; (have z1 := (hC.cell t1).trans r1; have z2 := (hC.cell (p := ⟨w2.heap.size, 0, none⟩) r5).trans r2; have z3 := (hC.cell t3).trans hcr); clear hC; go_simp; with_reducible rfl); simp only [Act.put, List.setIfInBounds_toArray, List.set_cons_zero, List.set_cons_succ]))
      refine wpAs_act rfl rfl ?_ ?_
      · intro W hC hE
        clear hE
        obtain ⟨v', W', hr, h1, h2⟩ := app_copy (.slice E x.length ce) x W (by omega) (stab_by.old hbr.out hC)
        exact does_append _ _ _ rfl rfl rfl hr ⟨stab_by.mono h1 hC.size, h2⟩
      simp only [Act.put, List.setIfInBounds_toArray, List.set_cons_zero, List.set_cons_succ, envAdd]
      intro x20
      refine wpAs_act rfl rfl ?_ ?_
      · intro W hC hE
        have h9 := hE.1 rfl
        obtain ⟨E, ce, rfl, _⟩ := rBy_open h9
        have hsw := hC.size
        have h9' := Lib.hid (stab_by.new h9 (Nat.le_refl _) ((Below.refl W.heap.size W).alloc (Nat.le_refl _) (.cells #[.slice E x.length ce] 40)))
        clear hE hC h9
        go_simp
        exact ⟨⟨W.heap.size, rfl, hsw, _, heap_alloc_new _ _, h9'.out⟩, (Below.refl _ _).alloc (Nat.le_refl _) _⟩
      simp only [Act.put, List.setIfInBounds_toArray, List.set_cons_zero, List.set_cons_succ, envAdd]
      intro x21
      refine wpAs_end fun W hC hE => ?_
      obtain ⟨⟨g, rfl, hg, u, hg3, hu⟩, _⟩ := hE
      have s5 := S5.out
      have hwr := hb'.out.size
      have hrowW := RowOf.below stab_by hrow.out hC
      have hlo : w3.heap.size ≤ wr.heap.size := by omega
      obtain ⟨A2, c2, w7, hr2, row7, gr7, ba7⟩ := rows_push hrowW g u 1 x hg3 (by rw [htl.out]; omega) (Nat.le_trans hlo hC.size) (stab_by _ _ _ _ _ _ (fun p v hp hc => ⟨hrow.out.but (Nat.le_refl _) hlo hp, hc⟩) hu)
      rw [htl.out] at hr2
      have g7 := (ba7.block w2.heap.size (by omega)).trans ((hC.block w2.heap.size r5).trans hz'.out)
      obtain ⟨w8, hw8, g8, gr8, gs8⟩ := put_fst (u := .slice A2 (k + 1) c2) g7
      have row8 := Lib.hid (RowOf.grown stab_by row7 gr8 (fun q e => by cases e; omega))
      have hb7 : Below w2.heap.size w2 w7 := (hb'.out.trans (hC.mono hb'.out.size)).trans (ba7.mono (by omega))
      have hb8 := Lib.hid (hb7.grown gr8 hb7.size (fun q e => by cases e; omega))
      have z2 := (hC.cell (p := ⟨w2.heap.size, 0, none⟩) r5).trans r2
      obtain ⟨y1, y2, y3, y4⟩ := two_cells g7
      have H2 := Lib.hid hr2
      replace g8 := Lib.hid g8
      replace g7 := Lib.hid g7
      replace hg3 := Lib.hid hg3
      clear hr2 row7 gr7 gr8 ba7 hb7 hrowW hC gs8 hu s5
      go_wp2_with (at_builtin; refine wpList_append_run rfl _ _ _ rfl rfl rfl H2.out ?_; clear H2)
      go_roundw
      case rel => exact ⟨k + 1, by omega, by go_num, hb8.out, A2, c2, g8.out, by rw [htk.out]; exact row8.out⟩
      case measure => simp [intOf]; omega
    · have hge : n ≤ k := by omega
      have hkn := Lib.hid (show k = n by omega)
      have hd1 := Lib.hid (show d.1.take k = d.1 from List.take_of_length_le (by rw [hn.out]; omega))
      replace hrow := Lib.hid (show RowOf rBy 1 40 w3.heap.size wr A1 c1 d.1 by rw [← hd1.out]; exact hrow.out)
      have r1' := (hb.cell (p := ⟨w.heap.size, 1, none⟩) lt0).trans f2
      have hz' := Lib.hid hz
      have hb' := Lib.hid hb
      obtain ⟨wo, rfl⟩ : ∃ wo : World, wo = wr := ⟨_, rfl⟩
      have hws : w3.heap.size ≤ wo.heap.size := by have := S5.out; omega
      clear hz hb
      go_wp2_with fail
      go_loopw [5] (fun i wr => ∃ j : Nat, j ≤ m ∧ i = .int .i64 j ∧ wo.grownBy wr (some w2.heap.size) ∧ ∃ (A2 : Option Addr) (c2 : Nat), wr.heap[w2.heap.size]? = some (.cells #[.slice A1 k c1, .slice A2 j c2] 30 (0, 0)) ∧
          RowOf rWt 2 88 wo.heap.size wr A2 c2 (d.2.take j)) (fun i _ => m - (intOf i).toNat)
      case atStart => exact ⟨0, by omega, rfl, grow_refl _ _, none, 0, hz'.out, RowOf.nil _ _ _ _ _⟩
      case round =>
        obtain ⟨j, hj, rfl, hgr, A2, c2, hz, hrw⟩ := hrel
        obtain ⟨q2, q3, q4, q5⟩ := two_cells hz
        have q1 := (grow_cell hgr (p := ⟨w.heap.size, 1, none⟩) (by have := S5.out; show w.heap.size < _; omega) (fun e => by simp only [Option.some.injEq] at e; omega)).trans r1'
        have htl := Lib.hid (show (d.2.take j).length = j by rw [List.length_take, hm.out]; omega)
        replace hrw := Lib.hid hrw
        have hb2 : Below w2.heap.size w2 wr := hb'.out.grown hgr hb'.out.size (fun q e => by cases e; omega)
        by_cases hlt2 : j < m
        · obtain ⟨x, hx⟩ : ∃ x, d.2[j]? = some x := ⟨_, List.getElem?_eq_getElem (by rw [hm.out]; exact hlt2)⟩
          obtain ⟨ad, u, rfl, hok, hok', hc, hc', hby, b1, b2⟩ := HB.out j x hx
          have hWr : Below w.heap.size w wr := hB2'.out.trans (hb2.mono hB2'.out.size)
          have hcr := (hWr.cell hok).trans hc
          have hcr' := (hWr.cell hok').trans hc'
          rw [add_next] at hcr'
          have hbr := stab_by.old hby hWr
          have hbig := HS.out.wait j x hx
          have htk := Lib.hid (show d.2.take (j + 1) = d.2.take j ++ [x] by rw [List.take_add_one, hx]; rfl)
          obtain ⟨E, ce, rfl, _⟩ := id (rBy_open hby)
          obtain ⟨xi, xb⟩ := x
          obtain ⟨q, hq'⟩ : ∃ q, xb.length = q := ⟨_, rfl⟩
          replace hbr : rBy (Old wr) wr [.slice E xb.length ce] xb := hbr
          replace hcr' : wr.cell? _ = some (.slice E xb.length ce) := hcr'
          rw [hq'] at hcr' hbr
          replace hq' := Lib.hid hq'
          have t1 := World.block_lt_of_cell? _ _ q1
          have t3 := World.block_lt_of_cell? _ _ hcr
          have t4 := World.block_lt_of_cell? _ _ hcr'
          have i1 : (0 : Int) ≤ (j : Int) := by omega
          have i2 : (j : Int) < (m : Int) := by omega
          replace hx := Lib.hid hx
          replace hbr := Lib.hid hbr
          have hz2 := Lib.hid hz
          have hgr' := Lib.hid hgr
          have hb2' := Lib.hid hb2
          clear hz hgr hb2 hc hc' hby hok hok' hWr
          go_wp2_with fail
          refine wp_region_tails (by kernel_rfl) 17 (fun W => Below wr.heap.size wr W) (fun i => match i with
              | 14 => some (fun v W => rBy (New wr.heap.size W) W [v] xb)
              | 15 => some (fun v W => ∃ E ce, v = .agg #[.int .i64 xi, .slice E q ce] ∧ rBy (New wr.heap.size W) W [.slice E q ce] xb)
              | 16 => some (fun v W => ∃ g, v = .slice (some ⟨g, 0, none⟩) 1 1 ∧ wr.heap.size ≤ g ∧ ∃ u, W.heap[g]? = some (.cells #[.int .i64 xi, u] 88 (0, 0)) ∧ rBy (New wr.heap.size W) W [u] xb)
              | _ => none) (fun _ => none) (by decide) (by kernel_rfl) (by kernel_rfl) (Below.refl _ _).drew (fun w w' h hb => h.trans (hb.mono h.size)) ?tst2 ?_
          case tst2 =>
            intro j φ x W W' hp hx hb
            match j, hp with
            | 14, hp => cases hp; exact stab_by.new hx (Nat.le_refl _) hb
            | 15, hp =>
              cases hp
              obtain ⟨E, ce, e1, e2⟩ := hx
              exact ⟨E, ce, e1, stab_by.new e2 (Nat.le_refl _) hb⟩
            | 16, hp =>
              cases hp
              obtain ⟨g, e1, e2, u, e3, e4⟩ := hx
              exact ⟨g, e1, e2, u, (hb.block g (Array.getElem?_eq_some_iff.1 e3).1).trans e3, stab_by.new e4 (Nat.le_refl _) hb⟩
          simp only [List.take_succ_cons, List.take_zero, List.drop_succ_cons, List.drop_zero]
          repeat (first
            | (refine wpAs_skip rfl ?_; simp only [Act.put, List.setIfInBounds_toArray, List.set_cons_zero, List.set_cons_succ])
            | (refine wpAs_pure (v := ?_) rfl rfl ?_ ?_; rotate_left; (intro W hC hE; clear hE; (have z1 := (hC.cell t1).trans q1; have z2 := (hC.cell (p := ⟨w2.heap.size, 1, none⟩) q5).trans q3; have z3 := (hC.cell t3).trans hcr; have z4 := (hC.cell (p := ⟨(ad.add (j * 2)).block, (ad.add (j * 2)).off + 1, none⟩) t4).trans hcr'); clear hC; go_simp; done); simp only [Act.put, List.setIfInBounds_toArray, List.set_cons_zero, List.set_cons_succ])
            | (refine wpAs_pure (v := ?_) rfl rfl ?_ ?_; rotate_left; (intro W hC hE; clear hE; (have z1 := (hC.cell t1).trans q1; have z2 := (hC.cell (p := ⟨w2.heap.size, 1, none⟩) q5).trans q3; have z3 := (hC.cell t3).trans hcr; have z4 := (hC.cell (p := ⟨(ad.add (j * 2)).block, (ad.add (j * 2)).off + 1, none⟩) t4).trans hcr'); clear hC; go_simp; with_reducible rfl); simp only [Act.put, List.setIfInBounds_toArray, List.set_cons_zero, List.set_cons_succ]))
          refine wpAs_act rfl rfl ?_ ?_
          · intro W hC hE
            clear hE
            obtain ⟨v', W', hr, h1, h2⟩ := app_copy (.slice E q ce) xb W (by have := hq'.out; omega) (stab_by.old hbr.out hC)
            exact does_append _ _ _ rfl rfl rfl hr ⟨stab_by.mono h1 hC.size, h2⟩
          simp only [Act.put, List.setIfInBounds_toArray, List.set_cons_zero, List.set_cons_succ, envAdd]
          intro x45
          refine wpAs_act rfl rfl ?_ ?_
          · intro W hC hE
            have h9 := hE.1 rfl
            obtain ⟨E, ce, rfl, _⟩ := rBy_open h9
            rw [hq'.out] at h9
            clear hE hC
            have h9' := Lib.hid h9
            clear h9
            go_simp
            have := hq'.out
            exact ⟨⟨E, ce, by rw [this], h9'.out⟩, Below.refl _ _⟩
          simp only [Act.put, List.setIfInBounds_toArray, List.set_cons_zero, List.set_cons_succ, envAdd]
          intro x46
          refine wpAs_act rfl rfl ?_ ?_
          · intro W hC hE
            obtain ⟨E, ce, rfl, h9⟩ := hE.1 rfl
            have hsw := hC.size
            have h9' := Lib.hid (stab_by.new h9 (Nat.le_refl _) ((Below.refl W.heap.size W).alloc (Nat.le_refl _) (.cells #[.int .i64 xi, .slice E q ce] 88)))
            clear hE hC h9
            go_simp
            exact ⟨⟨W.heap.size, rfl, hsw, _, heap_alloc_new _ _, h9'.out⟩, (Below.refl _ _).alloc (Nat.le_refl _) _⟩
          simp only [Act.put, List.setIfInBounds_toArray, List.set_cons_zero, List.set_cons_succ, envAdd]
          intro x47
          refine wpAs_end fun W hC hE => ?_
          obtain ⟨⟨g, rfl, hg, u, hg3, hu⟩, _⟩ := hE
          have hwr := hgr'.out.size
          have hrowW := RowOf.below stab_wt hrw.out hC
          obtain ⟨A3, c3, w7, hr2, row7, gr7, ba7⟩ := wts_push hrowW g xi u 1 xb hg3 (by rw [htl.out]; omega) (Nat.le_trans hwr hC.size) b1 b2 (stab_by _ _ _ _ _ _ (fun p v hp hc => ⟨hrw.out.but (Nat.le_refl _) hwr hp, hc⟩) hu)
          rw [htl.out] at hr2
          have g7 := (ba7.block w2.heap.size (by have := S5.out; omega)).trans ((hC.block w2.heap.size q5).trans hz2.out)
          obtain ⟨w8, hw8, g8, gr8, gs8⟩ := put_snd (u := .slice A3 (j + 1) c3) g7
          have s5 := S5.out
          have row8 := Lib.hid (RowOf.grown stab_wt row7 gr8 (fun q e => by cases e; omega))
          have hg8 := Lib.hid (grow_trans (grow_later (grow_later hgr'.out (hC.mono hwr)) ba7) gr8)
          have z2 := (hC.cell (p := ⟨w2.heap.size, 1, none⟩) q5).trans q3
          obtain ⟨y1, y2, y3, y4⟩ := two_cells g7
          have H2 := Lib.hid hr2
          replace g8 := Lib.hid g8
          replace g7 := Lib.hid g7
          replace hg3 := Lib.hid hg3
          clear hr2 row7 gr7 gr8 ba7 hrowW hC gs8 hu s5
          go_wp2_with (at_builtin; refine wpList_append_run rfl _ _ _ rfl rfl rfl H2.out ?_; clear H2)
          go_roundw
          case rel => exact ⟨j + 1, by omega, by go_num, hg8.out, A3, c3, g8.out, by rw [htk.out]; exact row8.out⟩
          case measure => simp [intOf]; omega
        · have hge2 : m ≤ j := by omega
          have hjm := Lib.hid (show j = m by omega)
          have hd2 := Lib.hid (show d.2.take j = d.2 from List.take_of_length_le (by rw [hm.out]; omega))
          have s5 := S5.out
          have gz := (hb2.block (w.heap.size + 1) (by omega)).trans f3.out
          obtain ⟨k1, k2, k3, k4⟩ := two_cells gz
          obtain ⟨W9, hW9, g9, gr9, gs9⟩ := put_two (u := .slice A1 k c1) (v := .slice A2 j c2) gz
          obtain ⟨k5, k6, _, _⟩ := two_cells g9
          have hBr : Below w.heap.size w wr := hB2'.out.trans (hb2.mono hB2'.out.size)
          have hB9 : Below w.heap.size w W9 := hBr.grown gr9 hBr.size (fun q e => by cases e; omega)
          have row1 := RowOf.low stab_by (RowOf.grown stab_by (RowOf.grown stab_by hrow.out hgr (fun q e => by cases e; omega)) gr9 (fun q e => by cases e; omega)) (show w.heap.size ≤ w3.heap.size by omega)
          have row2 := RowOf.low stab_wt (RowOf.grown stab_wt hrw.out gr9 (fun q e => by cases e; omega)) (show w.heap.size ≤ wo.heap.size by omega)
          have hfin : Hid (Dsk (New w.heap.size W9) W9 (.agg #[.slice A1 k c1, .slice A2 j c2]) d) := Lib.hid (by
            have h1 := row1.rel stab_by
            have h2 := row2.rel stab_wt
            rw [htl.out, hd2.out] at h2
            rw [hn.out, ← hkn.out] at h1
            exact ⟨_, _, rfl, h1, h2⟩)
          clear row1 row2 hrow hrw hz g9 gr9 s5 hgr
          go_wp2_with fail
          exact bodyPost_ret (v := .agg #[.slice A1 k c1, .slice A2 j c2]) (by simp [results, Try.results25, go_sem, k5, k6]) rfl ⟨_, rfl, hfin.out, hB9⟩
end Go.Proofs.Ytdcgcnnofjekaaa

/-
  The law's own spoil (layer 3): every byte of a disk of the call's own is turned; what lies below stays. Condition: the disk's cells lie at lo and above and may be written.
-/
namespace Go.Proofs.Ytdcgcnnofjekaaa
open Go.RowKit

structure Spoilt (lo : Nat) (w wr : World) : Prop where
  low : Below lo w wr
  fro : ∀ p : Addr, p.block < w.heap.size → wr.frozen? p = w.frozen? p
  rest : ∀ (p : Addr) (v : Value), p.block < w.heap.size → w.cell? p = some v → (∀ x, v ≠ .int .u8 x) → wr.cell? p = some v
  byte : ∀ (p : Addr) (x : UInt8), p.block < w.heap.size → w.cell? p = some (.int .u8 (x.toNat : Int)) → ∃ y : UInt8, wr.cell? p = some (.int .u8 (y.toNat : Int))
theorem Spoilt.refl (lo : Nat) (w : World) : Spoilt lo w w := ⟨Below.refl _ _, fun _ _ => rfl, fun _ _ _ h _ => h, fun _ x _ h => ⟨x, h⟩⟩
theorem Spoilt.step {lo : Nat} {w wr : World} (h : Spoilt lo w wr) {p : Addr} (hp : lo ≤ p.block) {x : UInt8} (hx : wr.cell? p = some (.int .u8 (x.toNat : Int))) (y : UInt8) : Spoilt lo w (wr.setCell p (.int .u8 (y.toNat : Int))) := by
  refine ⟨h.low.setCell hp _, fun q hq => by rw [World.frozen?_setCell]; exact h.fro q hq, fun q v hq hc hv => ?_, fun q z hq hc => ?_⟩
  · have h1 := h.rest q v hq hc hv
    rw [World.cell?_setCell_other _ _ _ _ (fun e => by
      subst e
      rw [h1] at hx
      exact hv _ (Option.some.inj hx))]
    exact h1
  · by_cases e : p = q
    · subst e
      exact ⟨y, World.cell?_setCell_same _ _ _ hx⟩
    · rw [World.cell?_setCell_other _ _ _ _ e]
      exact h.byte q z hq hc
theorem Spoilt.drew {lo : Nat} {w wr : World} (h : Spoilt lo w wr) : Spoilt lo w wr.drew :=
  ⟨h.low.drew, fun p hp => by simpa using h.fro p hp, fun p v hp hc hv => by simpa using h.rest p v hp hc hv, fun p x hp hc => by simpa using h.byte p x hp hc⟩
theorem Spoilt.after {lo : Nat} {w w0 wr : World} (h : Spoilt lo w0 wr) (hlo : lo ≤ w.heap.size) (hb : Below w.heap.size w w0) : Spoilt lo w wr :=
  ⟨(hb.mono hlo).trans h.low, fun p hp => (h.fro p (Nat.lt_of_lt_of_le hp hb.size)).trans (hb.frozen hp), fun p v hp hc hv => h.rest p v (Nat.lt_of_lt_of_le hp hb.size) ((hb.cell hp).trans hc) hv, fun p x hp hc => h.byte p x (Nat.lt_of_lt_of_le hp hb.size) ((hb.cell hp).trans hc)⟩
theorem Spoilt.new {lo lo' : Nat} {w wr : World} (h : Spoilt lo w wr) {p : Addr} (hp : New lo' w p) : New lo' wr p := ⟨hp.1, Nat.lt_of_lt_of_le hp.2.1 h.low.size, (h.fro p hp.2.1).trans hp.2.2⟩
theorem Spoilt.by {lo lo' : Nat} {w wr : World} {v : Value} {xs : List UInt8} (h : Spoilt lo w wr) (hx : rBy (New lo' w) w [v] xs) : ∃ ys : List UInt8, ys.length = xs.length ∧ rBy (New lo' wr) wr [v] ys := by
  obtain ⟨A, cap, h1, h2, h3, h4⟩ := hx
  obtain ⟨ys, hl, hy⟩ := list_of (n := xs.length) (p := fun i y => ∃ ad vs, A = some ad ∧ vs.length = 1 ∧ (∀ j v, vs[j]? = some v → New lo' wr (ad.add (i * 1 + j)) ∧ wr.cell? (ad.add (i * 1 + j)) = some v) ∧ rU8 (New lo' wr) wr vs y) (fun i hi => by
    obtain ⟨ad, vs, e1, e2, e3, e4⟩ := h4 i _ (List.getElem?_eq_getElem hi)
    unfold rU8 at e4
    subst e4
    obtain ⟨k1, k2⟩ := e3 0 _ rfl
    obtain ⟨y, hy⟩ := h.byte _ _ k1.2.1 k2
    refine ⟨y, ad, [.int .u8 (y.toNat : Int)], e1, rfl, fun j v hj => ?_, rfl⟩
    have hj0 : j = 0 := by
      have := (List.getElem?_eq_some_iff.1 hj).1
      simp at this
      omega
    subst hj0
    cases hj
    exact ⟨h.new k1, hy⟩)
  exact ⟨ys, hl, A, cap, by rw [hl]; exact h1, by rw [hl]; exact h2, h3, fun i y hi => hy i y hi⟩
/-- What is spoilt is a disk all the same. -/
theorem Spoilt.dsk {lo lo' : Nat} {w wr : World} {v : Value} {d : Dk} (h : Spoilt lo w wr) (hd : Dsk (New lo' w) w v d) : ∃ d', Dsk (New lo' wr) wr v d' := by
  obtain ⟨a, b, e, ⟨A, c, a1, a2, a3, a4⟩, ⟨B, c', b1, b2, b3, b4⟩⟩ := hd
  have keep : ∀ (ad : Addr) (k : Nat) (E : Option Addr) (n c : Nat), New lo' w (ad.add k) → w.cell? (ad.add k) = some (.slice E n c) → New lo' wr (ad.add k) ∧ wr.cell? (ad.add k) = some (.slice E n c) := fun ad k E n c k1 k2 => ⟨h.new k1, h.rest _ _ k1.2.1 k2 (by simp)⟩
  obtain ⟨xs, hl, hx⟩ := list_of (n := d.1.length) (p := fun i y => ∃ ad vs, A = some ad ∧ vs.length = 1 ∧ (∀ j v, vs[j]? = some v → New lo' wr (ad.add (i * 1 + j)) ∧ wr.cell? (ad.add (i * 1 + j)) = some v) ∧ rBy (New lo' wr) wr vs y) (fun i hi => by
    obtain ⟨ad, vs, e1, e2, e3, e4⟩ := a4 i _ (List.getElem?_eq_getElem hi)
    match vs, e2 with
    | [u], _ =>
      obtain ⟨ys, _, hy⟩ := h.by e4
      refine ⟨ys, ad, [u], e1, rfl, fun j v hj => ?_, hy⟩
      have hj0 : j = 0 := by
        have := (List.getElem?_eq_some_iff.1 hj).1
        simp at this
        omega
      subst hj0
      cases hj
      obtain ⟨k1, k2⟩ := e3 0 _ rfl
      obtain ⟨E, ce, rfl, _⟩ := rBy_open e4
      exact keep _ _ _ _ _ k1 k2)
  obtain ⟨ws, hl2, hx2⟩ := list_of (n := d.2.length) (p := fun i (y : Wt) => ∃ ad vs, B = some ad ∧ vs.length = 2 ∧ (∀ j v, vs[j]? = some v → New lo' wr (ad.add (i * 2 + j)) ∧ wr.cell? (ad.add (i * 2 + j)) = some v) ∧ rWt (New lo' wr) wr vs y) (fun i hi => by
    obtain ⟨ad, vs, e1, e2, e3, e4⟩ := b4 i _ (List.getElem?_eq_getElem hi)
    obtain ⟨u, rfl, n1, n2, hu⟩ := rWt_open e4
    obtain ⟨ys, _, hy⟩ := h.by hu
    refine ⟨(d.2[i].1, ys), ad, _, e1, e2, fun j v hj => ?_, rWt_mk n1 n2 hy⟩
    match j, hj with
    | 0, hj =>
      cases hj
      obtain ⟨k1, k2⟩ := e3 0 _ rfl
      exact ⟨h.new k1, h.rest _ _ k1.2.1 k2 (by simp)⟩
    | 1, hj =>
      cases hj
      obtain ⟨k1, k2⟩ := e3 1 _ rfl
      obtain ⟨E, ce, rfl, _⟩ := rBy_open hu
      exact keep _ _ _ _ _ k1 k2)
  exact ⟨(xs, ws), a, b, e, ⟨A, c, by rw [hl]; exact a1, by rw [hl]; exact a2, a3, hx⟩, ⟨B, c', by rw [hl2]; exact b1, by rw [hl2]; exact b2, b3, hx2⟩⟩
theorem u8_succ3 (p : UInt8) : IntKind.u8.wrap ((p.toNat : Int) + 1) = ((p + 1).toNat : Int) := by
  rw [IntKind.wrap_u8', UInt8.toNat_add]
  simp

end Go.Proofs.Ytdcgcnnofjekaaa

/-
  Package dev at whatever arguments, its answers in new memory; a bag of facts that stay where memory grows. Conditions: those that each lemma states.
-/
namespace Go.Proofs.Ytdcgcnnofjekaaa
open Go.RowKit

theorem rBy_none_new (lo : Nat) (w : World) : rBy (New lo w) w [.slice none 0 0] [] := ⟨none, 0, rfl, by simp, by omega, fun i x h => by simp at h⟩
theorem read_all (v : Value) (d : Dk) (n : Int) (w : World) (h : Dsk (Old w) w v d) :
    Calls Try.prog 61 #[v, .int .i64 n] w fun e w' => ∃ u, e = .returned (.tuple #[u, .int .i64 (chkAt d n)]) ∧ rBy (New w.heap.size w') w' [u] (rdX d n) ∧ Below w.heap.size w w' := by
  by_cases hn : mayB d = true ∧ thereB n = true
  · obtain ⟨hm, ht⟩ := hn
    have e0 : chkAt d n = 0 := by simp [chkAt, hm, ht]
    obtain ⟨k, rfl, hk⟩ := thereB_nat ht
    refine (read_ok v d k w h hm hk).mono ?_
    rintro e w' ⟨u, rfl, hu, hb⟩
    have e1 : rdX d (k : Int) = seenD d k := by simp [rdX, e0]
    rw [e0, e1]
    exact ⟨u, rfl, hu, hb⟩
  · refine (read_bad v d n w h hn).mono ?_
    rintro e w' ⟨rfl, hb⟩
    have e0 : chkAt d n ≠ 0 := by
      unfold chkAt
      cases h1 : mayB d <;> cases h2 : thereB n <;> simp_all
    have e1 : rdX d n = [] := by simp [rdX, e0]
    rw [e1]
    exact ⟨_, rfl, rBy_none_new _ _, hb⟩
theorem write_all (v u : Value) (d : Dk) (n : Int) (xs : List UInt8) (w : World) (h : Dsk (Old w) w v d) (hu : rBy (Old w) w [u] xs) :
    Calls Try.prog 30 #[v, .int .i64 n, u] w fun e w' => ∃ x, e = .returned (.tuple #[x, .int .i64 (wErr d n xs)]) ∧ Dsk (New w.heap.size w') w' x (wrR d n xs) ∧ Below w.heap.size w w' :=
  (write_new v u d n xs w h hu).mono fun _ _ ⟨_, _, _, _, e, hx, hb⟩ => ⟨_, e, hx, hb⟩
theorem barrier_all (v : Value) (d : Dk) (w : World) (h : Dsk (Old w) w v d) :
    Calls Try.prog 58 #[v] w fun e w' => ∃ x, e = .returned (.tuple #[x, .int .i64 (chk d)]) ∧ Dsk (New w.heap.size w') w' x (barX d) ∧ Below w.heap.size w w' := by
  cases hm : mayB d with
  | true =>
    refine (barrier_ok v d w h hm).mono ?_
    rintro e w' ⟨u, rfl, hu, hb⟩
    rw [chk_ok hm, show barX d = settledD d by simp [barX, hm]]
    exact ⟨u, rfl, hu, hb⟩
  | false =>
    refine (barrier_bad v d w h hm).mono ?_
    rintro e w' ⟨rfl, hb⟩
    rw [chk_bad hm, show barX d = emptyD by simp [barX, hm]]
    exact ⟨_, rfl, dsk_empty_new _ _, hb⟩
theorem crash_all (v u : Value) (d : Dk) (ks : List Bool) (w : World) (h : Dsk (Old w) w v d) (hu : rSl 1 rBool (Old w) w [u] ks) :
    Calls Try.prog 31 #[v, u] w fun e w' => ∃ x, e = .returned (.tuple #[x, .int .i64 (craE d ks)]) ∧ Dsk (New w.heap.size w') w' x (craX d ks) ∧ Below w.heap.size w w' := by
  cases hm : mayB d with
  | true =>
    by_cases hl : ks.length = d.2.length
    · refine (crash_ok v u d ks w h hu hm hl).mono ?_
      rintro e w' ⟨x, rfl, hx, hb⟩
      rw [show craE d ks = 0 by simp [craE, hm, hl], show craX d ks = settledD (keptD d ks) by simp [craX, hm, hl]]
      exact ⟨x, rfl, hx, hb⟩
    · refine (crash_len v u d ks w h hu hm hl).mono ?_
      rintro e w' ⟨rfl, hb⟩
      rw [show craE d ks = 2 by simp [craE, hm, hl], show craX d ks = emptyD by simp [craX, hm, hl]]
      exact ⟨_, rfl, dsk_empty_new _ _, hb⟩
  | false =>
    refine (crash_bad v u d ks w h hu hm).mono ?_
    rintro e w' ⟨rfl, hb⟩
    rw [show craE d ks = 8 by simp [craE, hm], show craX d ks = emptyD by simp [craX, hm]]
    exact ⟨_, rfl, dsk_empty_new _ _, hb⟩

/-! ### A bag of facts -/
/-- It stays where memory grows. -/
def Lasts (F : World → Prop) : Prop := ∀ w w', F w → Below w.heap.size w w' → F w'
def Bag (w : World) (Fs : List (World → Prop)) : Prop := ∀ F ∈ Fs, F w ∧ Lasts F
section
variable {w w' : World} {Fs : List (World → Prop)} {F : World → Prop}
theorem Bag.nil (w : World) : Bag w [] := fun F h => by cases h
theorem Bag.below (h : Bag w Fs) (hb : Below w.heap.size w w') : Bag w' Fs := fun F hF => ⟨(h F hF).2 w w' (h F hF).1 hb, (h F hF).2⟩
theorem Bag.add (h : Bag w Fs) (hF : F w) (hk : Lasts F) : Bag w (F :: Fs) := fun G hG => by
  rcases List.mem_cons.1 hG with h1 | h1
  · rw [h1]
    exact ⟨hF, hk⟩
  · exact h G h1
theorem Bag.at (h : Bag w Fs) (i : Nat) (hi : Fs[i]? = some F) : F w := (h F (List.mem_of_getElem? hi)).1
end
/-- Two cells that are a box. -/
def Box2 (g : Nat) (a b : Value) : World → Prop := fun w => w.cell? ⟨g, 0, none⟩ = some a ∧ w.cell? ⟨g, 1, none⟩ = some b ∧ g < w.heap.size
theorem lasts_box (g : Nat) (a b : Value) : Lasts (Box2 g a b) := fun w w' h hb => ⟨(hb.cell (p := ⟨g, 0, none⟩) h.2.2).trans h.1, (hb.cell (p := ⟨g, 1, none⟩) h.2.2).trans h.2.1, Nat.lt_of_lt_of_le h.2.2 hb.size⟩
theorem Spoilt.box {lo : Nat} {w wr : World} (h : Spoilt lo w wr) {g : Nat} {A B : Option Addr} {n c m e : Nat} (hb : Box2 g (.slice A n c) (.slice B m e) w) : Box2 g (.slice A n c) (.slice B m e) wr :=
  ⟨h.rest ⟨g, 0, none⟩ _ hb.2.2 hb.1 (by simp), h.rest ⟨g, 1, none⟩ _ hb.2.2 hb.2.1 (by simp), Nat.lt_of_lt_of_le hb.2.2 h.low.size⟩
def OldD (v : Value) (d : Dk) : World → Prop := fun w => Dsk (Old w) w v d
def NewD (lo : Nat) (v : Value) (d : Dk) : World → Prop := fun w => Dsk (New lo w) w v d
def OldB (v : Value) (xs : List UInt8) : World → Prop := fun w => rBy (Old w) w [v] xs
def NewB (lo : Nat) (v : Value) (xs : List UInt8) : World → Prop := fun w => rBy (New lo w) w [v] xs
def OldK (v : Value) (ks : List Bool) : World → Prop := fun w => rSl 1 rBool (Old w) w [v] ks
theorem lasts_oldD (v : Value) (d : Dk) : Lasts (OldD v d) := fun _ _ h hb => h.below hb
theorem lasts_newD (lo : Nat) (v : Value) (d : Dk) : Lasts (NewD lo v d) := fun _ _ h hb => h.new (Nat.le_refl _) hb
theorem lasts_oldB (v : Value) (xs : List UInt8) : Lasts (OldB v xs) := fun _ _ h hb => stab_by.old h hb
theorem lasts_newB (lo : Nat) (v : Value) (xs : List UInt8) : Lasts (NewB lo v xs) := fun _ _ h hb => stab_by.new h (Nat.le_refl _) hb
theorem lasts_oldK (v : Value) (ks : List Bool) : Lasts (OldK v ks) := fun _ _ h hb => (stab_sl stab_bool).old h hb
def SizeF (lo : Nat) : World → Prop := fun w => lo ≤ w.heap.size
theorem lasts_size (lo : Nat) : Lasts (SizeF lo) := fun _ _ h hb => Nat.le_trans h hb.size
/-- A box that is just made. -/
theorem bag_box {w w1 : World} {Fs : List (World → Prop)} (h : Bag w Fs) (hb : Below w.heap.size w w1) (a b : Value) : ∃ w', w1.alloc (.cells #[a, b] 30) = w' ∧ Bag w' (Box2 w1.heap.size a b :: Fs) ∧ Below w.heap.size w w' ∧ Below w1.heap.size w1 w' ∧ w1.heap.size < w'.heap.size := by
  obtain ⟨w2, e2, k1, k2, k3, k4⟩ := box_pair w1 a b 30
  exact ⟨w2, e2, ((h.below hb).below k4).add ⟨k1, k2, by omega⟩ (lasts_box _ _ _), hb.trans (k4.mono hb.size), k4, by omega⟩
end Go.Proofs.Ytdcgcnnofjekaaa

/-
  Package code: GetTwo and GetFour. Conditions: those that each lemma states.
-/
namespace Go.Proofs.Ytdcgcnnofjekaaa
open Go.RowKit

theorem gather_ok (A : Option Addr) (len cap m k : Nat) (xs : List UInt8) (hlen : xs.length = len) (hm0 : 0 < m) (hm : m ≤ 4) (hle : k + m ≤ len) (hlc : len ≤ cap) (hcap : cap ≤ 9223372036854775807) (w : World) (hx : Byt w w.heap.size A xs) :
    Calls Try.prog 93 #[.slice A len cap, .int .i64 k, .int .i64 m] w fun e W' => e = .returned (.tuple #[.int .u32 (num ((xs.drop k).take m)), .int .i64 0]) ∧ Below w.heap.size w W' := by
  subst hlen
  obtain ⟨ad, rfl, hp⟩ := hx.part hle hm0
  have hl : ((xs.drop k).take m).length = m := by simp; omega
  obtain ⟨ad', e, hb, hc⟩ := hp (by omega)
  cases e
  exact callsIn_wide.1 (gather_in Fence.wide 3 trivial trivial trivial rfl (Nat.le_refl _) ad xs.length cap m k _ hl hm0 hm hle hlc hcap w (by rw [add_block] at hb; exact hb) hc)

theorem gather_no (A : Option Addr) (len cap : Nat) (k : Int) (m : Nat) (hm : m ≤ 4) (hl : len ≤ 9223372036854775807) (h : k < 0 ∨ (len : Int) - m < k) (w : World) :
    Calls Try.prog 93 #[.slice A len cap, .int .i64 k, .int .i64 m] w fun e W' => e = .returned (.tuple #[.int .u32 0, .int .i64 8]) ∧ w = W' := by
  by_cases h' : k < 0
  · go_enter Try.func93, Try.ntmps93
    go_wp2
    go_ret2
    exact ⟨rfl, rfl⟩
  · have h2 : (len : Int) - m < k := by omega
    go_enter Try.func93, Try.ntmps93
    go_wp2
    go_ret2
    exact ⟨rfl, rfl⟩

theorem getTwo_ok (A : Option Addr) (len cap k : Nat) (xs : List UInt8) (hlen : Hid (xs.length = len)) (hle : k + 2 ≤ len) (hlc : len ≤ cap) (hcap : cap ≤ 9223372036854775807) (w : World) (hx : Byt w w.heap.size A xs) :
    Calls Try.prog 67 #[.slice A len cap, .int .i64 k] w fun e W' => e = .returned (.tuple #[.int .i64 (num ((xs.drop k).take 2)), .int .i64 0]) ∧ Below w.heap.size w W' := by
  have h0 := num_nonneg ((xs.drop k).take 2)
  have h1 := num_lt ((xs.drop k).take 2)
  have hl : ((xs.drop k).take 2).length = 2 := by have := hlen.out; simp; omega
  rw [hl] at h1
  simp at h1
  clear hl
  go_enter Try.func67, Try.ntmps67
  go_wp2_with fail
  refine (gather_ok A len cap 2 k xs hlen.out (by omega) (by omega) hle hlc hcap _ hx).mono ?_
  rintro e w1 ⟨rfl, hb⟩
  go_wp2
  go_ret2
  exact ⟨rfl, hb⟩

theorem getTwo_no (A : Option Addr) (len cap : Nat) (k : Int) (hl : len ≤ 9223372036854775807) (h : k < 0 ∨ (len : Int) - 2 < k) (w : World) :
    Calls Try.prog 67 #[.slice A len cap, .int .i64 k] w fun e W' => e = .returned (.tuple #[.int .i64 0, .int .i64 8]) ∧ w = W' := by
  go_enter Try.func67, Try.ntmps67
  go_wp2_with fail
  refine (gather_no A len cap k 2 (by omega) hl h _).mono ?_
  rintro e w1 ⟨rfl, rfl⟩
  go_wp2
  go_ret2
  exact ⟨rfl, rfl⟩

theorem getFour_ok (A : Option Addr) (len cap k : Nat) (xs : List UInt8) (hlen : Hid (xs.length = len)) (hle : k + 4 ≤ len) (hlc : len ≤ cap) (hcap : cap ≤ 9223372036854775807) (w : World) (hx : Byt w w.heap.size A xs) :
    Calls Try.prog 65 #[.slice A len cap, .int .i64 k] w fun e W' => e = .returned (.tuple #[.int .u32 (num ((xs.drop k).take 4)), .int .i64 0]) ∧ Below w.heap.size w W' := by
  go_enter Try.func65, Try.ntmps65
  go_wp2_with fail
  refine (gather_ok A len cap 4 k xs hlen.out (by omega) (by omega) hle hlc hcap _ hx).mono ?_
  rintro e w1 ⟨rfl, hb⟩
  go_wp2
  go_ret2
  exact ⟨rfl, hb⟩

theorem getFour_no (A : Option Addr) (len cap : Nat) (k : Int) (hl : len ≤ 9223372036854775807) (h : k < 0 ∨ (len : Int) - 4 < k) (w : World) :
    Calls Try.prog 65 #[.slice A len cap, .int .i64 k] w fun e W' => e = .returned (.tuple #[.int .u32 0, .int .i64 8]) ∧ w = W' := by
  go_enter Try.func65, Try.ntmps65
  go_wp2_with fail
  refine (gather_no A len cap k 4 (by omega) hl h _).mono ?_
  rintro e w1 ⟨rfl, rfl⟩
  go_wp2
  go_ret2
  exact ⟨rfl, rfl⟩

/-! ### The contracts for every argument -/
def te (n : Int) : Int := if 0 ≤ n ∧ n < 65536 then 0 else 2
def tb (n : Int) : List UInt8 := if 0 ≤ n ∧ n < 65536 then le 2 n else []
def ge (m : Nat) (len : Nat) (k : Int) : Int := if 0 ≤ k ∧ k + m ≤ len then 0 else 8
def gv (m : Nat) (xs : List UInt8) (k : Int) : Int := if 0 ≤ k ∧ k + m ≤ xs.length then num ((xs.drop k.toNat).take m) else 0
theorem te_yes {n : Int} (h : 0 ≤ n ∧ n < 65536) : te n = 0 := if_pos h
theorem te_no {n : Int} (h : ¬ (0 ≤ n ∧ n < 65536)) : te n = 2 := if_neg h
theorem tb_yes {n : Int} (h : 0 ≤ n ∧ n < 65536) : tb n = le 2 n := if_pos h
theorem tb_no {n : Int} (h : ¬ (0 ≤ n ∧ n < 65536)) : tb n = [] := if_neg h
theorem ge_yes {m len : Nat} {k : Int} (h : 0 ≤ k ∧ k + m ≤ len) : ge m len k = 0 := if_pos h
theorem ge_no {m len : Nat} {k : Int} (h : ¬ (0 ≤ k ∧ k + m ≤ len)) : ge m len k = 8 := if_neg h
theorem gv_yes {m : Nat} {xs : List UInt8} {k : Int} (h : 0 ≤ k ∧ k + m ≤ xs.length) : gv m xs k = num ((xs.drop k.toNat).take m) := if_pos h
theorem gv_no {m : Nat} {xs : List UInt8} {k : Int} (h : ¬ (0 ≤ k ∧ k + m ≤ xs.length)) : gv m xs k = 0 := if_neg h
theorem gv_bounds (m : Nat) (xs : List UInt8) (k : Int) : 0 ≤ gv m xs k ∧ gv m xs k < (256 : Int) ^ m := by
  by_cases h : 0 ≤ k ∧ k + m ≤ xs.length
  · rw [gv_yes h]
    have hl : ((xs.drop k.toNat).take m).length = m := by simp; omega
    have h1 := num_lt ((xs.drop k.toNat).take m)
    rw [hl] at h1
    exact ⟨num_nonneg _, h1⟩
  · rw [gv_no h]
    exact ⟨by omega, Int.pow_pos (by omega)⟩

theorem two_any (n : Int) (w : World) :
    Calls Try.prog 41 #[.int .i64 n] w fun e w' => ∃ A, e = .returned (.tuple #[.slice A (tb n).length (tb n).length, .int .i64 (te n)]) ∧ Byt w' w'.heap.size A (tb n) ∧ Below w.heap.size w w' := by
  by_cases h : 0 ≤ n ∧ n < 65536
  · rw [te_yes h, tb_yes h, le_length]
    exact two_ok n h.1 h.2 w
  · rw [te_no h, tb_no h]
    refine (two_no n (by omega) w).mono ?_
    rintro e w' ⟨rfl, rfl⟩
    exact ⟨none, rfl, Byt.nil, Below.refl _ _⟩
theorem getTwo_any (A : Option Addr) (len cap : Nat) (k : Int) (xs : List UInt8) (hlen : Hid (xs.length = len)) (hlc : len ≤ cap) (hcap : cap ≤ 9223372036854775807) (w : World) (hx : Byt w w.heap.size A xs) :
    Calls Try.prog 67 #[.slice A len cap, .int .i64 k] w fun e W' => e = .returned (.tuple #[.int .i64 (gv 2 xs k), .int .i64 (ge 2 len k)]) ∧ Below w.heap.size w W' := by
  obtain rfl := hlen.out
  by_cases h : 0 ≤ k ∧ k + (2 : Nat) ≤ xs.length
  · rw [ge_yes h, gv_yes h]
    obtain ⟨n, rfl⟩ := Int.eq_ofNat_of_zero_le h.1
    rw [Int.toNat_natCast]
    exact getTwo_ok A _ cap n xs hlen (by omega) hlc hcap w hx
  · rw [ge_no h, gv_no h]
    exact (getTwo_no A xs.length cap k (by omega) (by omega) w).mono fun e w' ⟨he, hw⟩ => ⟨he, hw ▸ Below.refl _ _⟩
theorem getFour_any (A : Option Addr) (len cap : Nat) (k : Int) (xs : List UInt8) (hlen : Hid (xs.length = len)) (hlc : len ≤ cap) (hcap : cap ≤ 9223372036854775807) (w : World) (hx : Byt w w.heap.size A xs) :
    Calls Try.prog 65 #[.slice A len cap, .int .i64 k] w fun e W' => e = .returned (.tuple #[.int .u32 (gv 4 xs k), .int .i64 (ge 4 len k)]) ∧ Below w.heap.size w W' := by
  obtain rfl := hlen.out
  by_cases h : 0 ≤ k ∧ k + (4 : Nat) ≤ xs.length
  · rw [ge_yes h, gv_yes h]
    obtain ⟨n, rfl⟩ := Int.eq_ofNat_of_zero_le h.1
    rw [Int.toNat_natCast]
    exact getFour_ok A _ cap n xs hlen (by omega) hlc hcap w hx
  · rw [ge_no h, gv_no h]
    exact (getFour_no A xs.length cap k (by omega) (by omega) w).mono fun e w' ⟨he, hw⟩ => ⟨he, hw ▸ Below.refl _ _⟩
end Go.Proofs.Ytdcgcnnofjekaaa

/-
  Package sum: Seal, Open. Conditions: those that each lemma states.
-/
namespace Go.Proofs.Ytdcgcnnofjekaaa
open Go.RowKit

/-- Bytes, and noughts behind, 124 in all; these sealed. -/
def padN (xs : List UInt8) : List UInt8 := xs ++ zeros (124 - xs.length)
def sealN (xs : List UInt8) : List UInt8 := le 4 (crc (padN xs) : Nat) ++ padN xs
theorem padN_length {xs : List UInt8} (h : xs.length ≤ 124) : (padN xs).length = 124 := by simp [padN, zeros]; omega
theorem sealN_length {xs : List UInt8} (h : xs.length ≤ 124) : (sealN xs).length = 128 := by simp [sealN, le_length, padN_length h]
theorem splice_pad {xs : List UInt8} (h : xs.length ≤ 124) : splice (zeros 128) 4 xs = zeros 4 ++ padN xs := by
  simp only [splice, zeros, padN, List.take_replicate, List.drop_replicate]
  rw [show min 4 128 = 4 from rfl, show 128 - (4 + xs.length) = 124 - xs.length by omega]
theorem splice_seal (ys zs : List UInt8) (h : ys.length = 4) : splice (zeros 4 ++ zs) 0 ys = ys ++ zs := by
  simp only [splice, List.take_zero, List.nil_append, Nat.zero_add, h]
  rw [List.drop_left' (by simp [zeros])]

set_option maxRecDepth 100000 in
theorem seal_no (A : Option Addr) (len cap : Nat) (hl : 124 < len) (w : World) :
    Calls Try.prog 44 #[.slice A len cap] w fun e w' => e = .returned (.tuple #[.slice none 0 0, .int .i64 3]) ∧ w = w' := by
  go_enter Try.func44, Try.ntmps44
  go_wp2
  go_ret2
  exact ⟨rfl, rfl⟩
set_option maxRecDepth 100000 in
theorem seal_ok (A : Option Addr) (len cap : Nat) (xs : List UInt8) (hlen : Hid (xs.length = len)) (hl : len ≤ 124) (hlc : len ≤ cap) (hcap : cap ≤ 9223372036854775807) (w : World) (hx : Byt w w.heap.size A xs) :
    Calls Try.prog 44 #[.slice A len cap] w fun e w' => e = .returned (.tuple #[.slice (some ⟨w.heap.size, 0, none⟩) 128 128, .int .i64 0]) ∧ Row w' w.heap.size (sealN xs) ∧ Below w.heap.size w w' := by
  have hmk : (Instr.makeSlice 40 (.int .i64 128) (.int .i64 128)).run Try.prog w = .ok (.slice (some ⟨w.heap.size, 0, none⟩) 128 128) (w.alloc (.cells (rowA (zeros 128)) 5)) := make_bytes 128 (by omega) w
  have hB1 := balloc (Below.refl w.heap.size w) (.cells (rowA (zeros 128)) 5)
  obtain ⟨w2, hc2, hR2, hB2⟩ := copy_byt 3 (off := 4) (dLen := 124) (dCap := 124) (sLen := len) (sCap := cap) (Row.new w (zeros 128)) (hx.below hB1) hlen.out (by simp [zeros]; omega)
  rw [Nat.min_eq_left hl, List.take_of_length_le (by rw [hlen.out]; omega), splice_pad (by rw [hlen.out]; omega)] at hR2
  rw [Nat.min_eq_left hl] at hc2
  have hp := hR2.tail 4 (by simp [zeros])
  rw [List.drop_left' (by simp [zeros])] at hp
  have hB := hB1.trans hB2
  have hpl : Hid ((padN xs).length = 124) := Lib.hid (padN_length (by rw [hlen.out]; omega))
  have HR2 := Lib.hid hR2
  clear hR2 hx hB1 hB2
  go_enter Try.func44, Try.ntmps44
  go_wp2_with fail
  refine (of_any _ _ 124 _ hpl (by omega) (by omega) _ hp).mono ?_
  rintro e w3 ⟨rfl, hb3⟩
  go_wp2_with fail
  refine (four_any _ (by omega) (by have := crc_lt (padN xs); omega) _).mono ?_
  rintro e w4 ⟨F, rfl, hf, hb4⟩
  have hb24 := bstep hb3 hb4
  obtain ⟨w5, hc5, hR5, hB5⟩ := copy_byt 3 (off := 0) (dLen := 128) (dCap := 128) (sLen := 4) (sCap := 4) (HR2.out.after hb24) hf (le_length 4 _) (by simp [zeros])
  rw [show min 4 128 = 4 from rfl] at hc5 hR5
  rw [List.take_of_length_le (by rw [le_length]; omega), splice_seal _ _ (le_length 4 _)] at hR5
  have hBe := (hB.trans (hb24.mono hB.size)).trans hB5
  have HR5 : Hid (Row w5 w.heap.size (sealN xs)) := Lib.hid hR5
  clear hR5 HR2 hp hb3 hb4 hb24 hB hB5 hf hmk hc2
  go_wp2_with fail
  go_ret2
  exact ⟨rfl, HR5.out, hBe⟩

set_option maxRecDepth 100000 in
theorem open_no (A : Option Addr) (len cap : Nat) (hl : len ≠ 128) (w : World) :
    Calls Try.prog 37 #[.slice A len cap] w fun e w' => e = .returned (.tuple #[.slice none 0 0, .int .i64 3]) ∧ w = w' := by
  go_enter Try.func37, Try.ntmps37
  go_wp2
  go_ret2
  exact ⟨rfl, rfl⟩
def fits (xs : List UInt8) : Prop := num (xs.take 4) = (crc (xs.drop 4) : Nat)
set_option maxRecDepth 100000 in
theorem open_bad (ad : Addr) (cap : Nat) (xs : List UInt8) (hlen : Hid (xs.length = 128)) (hlc : 128 ≤ cap) (hcap : cap ≤ 9223372036854775807) (w : World) (hx : Byt w w.heap.size (some ad) xs) (hn : ¬ fits xs) :
    Calls Try.prog 37 #[.slice (some ad) 128 cap] w fun e w' => e = .returned (.tuple #[.slice none 0 0, .int .i64 8]) ∧ Below w.heap.size w w' := by
  have hp : Byt w w.heap.size (some (ad.add 4)) (xs.drop 4) := by
    obtain ⟨ad', e, hp⟩ := hx.part (k := 4) (n := 124) (by rw [hlen.out]; omega) (by omega)
    cases e
    rwa [List.take_of_length_le (by simp [hlen.out])] at hp
  have hpl : Hid ((xs.drop 4).length = 124) := Lib.hid (by simp [hlen.out])
  have hb := crc_lt (xs.drop 4)
  have hd : ((num (xs.take 4) : Int) == (crc (xs.drop 4) : Nat)) = false := by simpa [fits] using hn
  have hd' : ((num (xs.take 4) : Int) != (crc (xs.drop 4) : Nat)) = true := by simpa [fits] using hn
  have HD := Lib.hid hd
  have HD' := Lib.hid hd'
  clear hn hd hd'
  go_enter Try.func37, Try.ntmps37
  go_wp2_with fail
  refine (getFour_ok _ _ cap 0 xs hlen (by omega) (by omega) (by omega) _ hx).mono ?_
  rintro e w1 ⟨rfl, hb1⟩
  rw [List.drop_zero]
  have hp1 := (hp.below hb1).more hb1.size
  go_wp2_with fail
  refine (of_any _ _ _ _ hpl (by omega) (by omega) _ hp1).mono ?_
  rintro e w2 ⟨rfl, hb2⟩
  generalize num (xs.take 4) = q at *
  generalize crc (xs.drop 4) = r at *
  have hd := HD.out
  have hd' := HD'.out
  go_wp2_with fail
  go_ret2
  exact ⟨rfl, bstep hb1 hb2⟩
theorem own_base {w : World} {B B' : Nat} {e : TypeId} {v : Value} {n : Nat} {xs : List Value} (h : w.ownsRow B e 1 v n xs) (hb : B' ≤ B) : w.ownsRow B' e 1 v n xs := by
  refine ⟨h.1, h.2.imp id ?_⟩
  rintro ⟨g, cap, cur, h1, h2, h3⟩
  exact ⟨g, cap, cur, h1, Nat.le_trans hb h2, h3⟩
set_option maxRecDepth 100000 in
theorem open_ok (ad : Addr) (cap : Nat) (xs : List UInt8) (hlen : Hid (xs.length = 128)) (hlc : 128 ≤ cap) (hcap : cap ≤ 9223372036854775807) (w : World) (hx : Byt w w.heap.size (some ad) xs) (hn : fits xs) :
    Calls Try.prog 37 #[.slice (some ad) 128 cap] w fun e w' => ∃ v, e = .returned (.tuple #[v, .int .i64 0]) ∧ w'.ownsRow w.heap.size 5 1 v 124 (u8s (xs.drop 4)) ∧ Below w.heap.size w w' := by
  have hp : Byt w w.heap.size (some (ad.add 4)) (xs.drop 4) := by
    obtain ⟨ad', e, hp⟩ := hx.part (k := 4) (n := 124) (by rw [hlen.out]; omega) (by omega)
    cases e
    rwa [List.take_of_length_le (by simp [hlen.out])] at hp
  have hpl : Hid ((xs.drop 4).length = 124) := Lib.hid (by simp [hlen.out])
  have hb := crc_lt (xs.drop 4)
  have HN : Hid (num (xs.take 4) = (crc (xs.drop 4) : Nat)) := Lib.hid hn
  clear hn
  go_enter Try.func37, Try.ntmps37
  go_wp2_with fail
  refine (getFour_ok _ _ cap 0 xs hlen (by omega) (by omega) (by omega) _ hx).mono ?_
  rintro e w1 ⟨rfl, hb1⟩
  rw [List.drop_zero, HN.out]
  have hp1 := (hp.below hb1).more hb1.size
  go_wp2_with fail
  refine (of_any _ _ _ _ hpl (by omega) (by omega) _ hp1).mono ?_
  rintro e w2 ⟨rfl, hb2⟩
  generalize crc (xs.drop 4) = r at *
  have hp2 := (hp1.below hb2).more hb2.size
  go_wp2_with fail
  refine (clone_some _ _ _ _ hpl (by omega) _ hp2).mono ?_
  rintro e w3 ⟨v, rfl, hown, _, hb3⟩
  have hB := bstep (bstep hb1 hb2) hb3
  have hsz := Nat.le_trans hb1.size hb2.size
  have HO := Lib.hid (own_base hown hsz)
  clear hown hp hp1 hp2 hx hb1 hb2 hb3 hsz
  go_wp2_with fail
  go_ret2
  exact ⟨v, rfl, HO.out, hB⟩
theorem fits_seal (xs : List UInt8) : fits (sealN xs) := by
  unfold fits sealN
  rw [List.take_left' (le_length 4 _), List.drop_left' (le_length 4 _)]
  exact num_le 4 _ (by omega) (by have := crc_lt (padN xs); simp; omega)
theorem seal_drop (xs : List UInt8) : (sealN xs).drop 4 = padN xs := by
  unfold sealN
  rw [List.drop_left' (le_length 4 _)]
theorem padN_full {xs : List UInt8} (h : xs.length = 124) : padN xs = xs := by simp [padN, zeros, h]
theorem seal_back {xs : List UInt8} (h : xs.length = 128) (hf : fits xs) : sealN (xs.drop 4) = xs := by
  unfold fits at hf
  unfold sealN
  have e := le_num (xs.take 4)
  rw [show (xs.take 4).length = 4 by simp [h]] at e
  rw [padN_full (by simp [h]), ← hf, e]
  exact List.take_append_drop 4 xs
end Go.Proofs.Ytdcgcnnofjekaaa

/-
  The document's answers of layer 1: the contracts of package scionryref01. Conditions: those that each lemma states.
-/
namespace Go.Proofs.Ytdcgcnnofjekaaa
open Go.RowKit

theorem u8_info : (Try.prog.info? 5).map (fun i => (i.zero, i.size, i.bytes)) = some (some (.int .u8 0), 1, 1) := by kernel_rfl

set_option maxHeartbeats 800000 in
theorem bytes_own (n : Int) (m : Nat) (h0 : 0 ≤ n) (h1 : n ≤ 9223372036854775807) (hm : m ≤ 1000) (w : World) :
    Calls Try.prog 73 #[.int .i64 n, .int .i64 m] w fun e w' => ∃ v, e = .returned v ∧ w'.ownsRow w.heap.size 5 1 v m (u8s (le m n)) ∧ Below w.heap.size w w' := by
  obtain ⟨i0, hi, hz0, hz1, hz2⟩ := info_parts u8_info
  go_enter Try.func73, Try.ntmps73
  go_wp2
  go_loopw [0, 5, 6] (fun t v i wr => ∃ k : Nat, k ≤ m ∧ i = .int .i64 k ∧ t = .int .i64 (n / 256 ^ k) ∧ wr.ownsRow w.heap.size 5 1 v k ((le k n).map fun x => Value.int .u8 (x.toNat : Int)) ∧ Below w.heap.size w wr)
    (fun _ _ i _ => m - (intOf i).toNat)
  case atStart => exact ⟨0, Nat.zero_le _, rfl, by simp, World.ownsRow_nil _ _ _ _, Below.refl _ _⟩
  case round =>
    obtain ⟨k, hk, rfl, rfl, hown, hB⟩ := hrel
    have d0 := div_pow_nonneg n k h0
    have d1 := div_pow_le n k h0
    have hd := Lib.hid (div_pow_succ n k)
    have hs := Lib.hid (le_snoc k n)
    have hb := Lib.hid (byte_toNat (n / 256 ^ k))
    generalize n / 256 ^ k = q at *
    by_cases hlt : k < m
    · go_wp2_with (at_builtin; refine wpList_append_own _ rfl _ _ 40 rfl w.heap.size 5 i0 (.int .u8 0) 1 1 Try.underlying40 hi hz0 hz1 hz2 rfl (by decide) _ _ _ rfl (hown.alloc _) ⟨wr.heap.size, 0, none⟩ 1 1 [.int .u8 (q % 256)] rfl rfl ?c1 ?c2 ?c3 ?c4 ?c5 ?_)
      case c1 =>
        intro j u hj
        match j, hj with
        | 0, hj => simp at hj; subst hj; simp [Addr.add]
      case c2 => intro u hu; simp at hu; subst hu; rfl
      case c3 => unfold maxLen; omega
      case c4 => omega
      case c5 => have := hB.size; simp; omega
      intro v' w1 hown' hgrow _
      have hB1 : Below w.heap.size w w1 := (balloc hB _).grown hgrow (balloc hB _).size (fun r e => by have := hown.lt r e; omega)
      rw [show (le k n).map (fun x => Value.int .u8 (x.toNat : Int)) ++ [.int .u8 (q % 256)] = (le (k + 1) n).map (fun x => Value.int .u8 (x.toNat : Int)) by rw [hs.out, List.map_append, List.map_cons, List.map_nil, hb.out]] at hown'
      clear hgrow hown
      go_wp2
      go_roundw
      case rel => exact ⟨k + 1, by omega, by go_num, by rw [hd.out], hown', hB1⟩
      case measure => simp [intOf]; omega
    · obtain rfl : k = m := by omega
      go_wp2
      go_ret
      exact ⟨_, rfl, hown, hB⟩
theorem bytes_ref (n : Int) (m : Nat) (h0 : 0 ≤ n) (h1 : n ≤ 9223372036854775807) (hm : m ≤ 1000) (w : World) :
    Calls Try.prog 73 #[.int .i64 n, .int .i64 m] w fun e w' => ∃ A cap, e = .returned (.slice A m cap) ∧ Byt w' w'.heap.size A (le m n) ∧ Below w.heap.size w w' := by
  refine (bytes_own n m h0 h1 hm w).mono ?_
  rintro e w' ⟨v, rfl, hown, hB⟩
  obtain ⟨A, cap, rfl, _, _, hy⟩ := own_byt hown
  exact ⟨A, cap, rfl, hy, hB⟩

theorem num_ref_nil (A : Option Addr) (cap : Nat) (w : World) :
    Calls Try.prog 77 #[.slice A 0 cap] w fun e w' => e = .returned (.int .i64 0) ∧ w = w' := by
  go_enter Try.func77, Try.ntmps77
  go_wp2
  refine wp_loop_rounds 1 ?_
  rw [rounds_succ]
  go_wp2
  go_ret
  exact ⟨rfl, rfl⟩

theorem num_drop (xs : List UInt8) (k : Nat) (h : k < xs.length) : num (xs.drop (xs.length - (k + 1))) = num (xs.drop (xs.length - k)) * 256 + ((xs[xs.length - 1 - k]?.getD 0).toNat : Int) := by
  have := val_back xs (k + 1) (by omega)
  rw [back_succ, val_snoc, val_back xs k (by omega)] at this
  exact this.symm
theorem num_small (xs : List UInt8) (h : xs.length ≤ 6) : 0 ≤ num xs ∧ num xs < 281474976710656 := by
  have hp : ∀ n : Nat, n ≤ 6 → (256 : Int) ^ n ≤ 281474976710656 := by decide
  exact ⟨num_nonneg _, Int.lt_of_lt_of_le (num_lt xs) (hp _ h)⟩

set_option maxHeartbeats 800000 in
theorem number_ref (A : Option Addr) (len cap : Nat) (xs : List UInt8) (hlen : Hid (xs.length = len)) (hm : len ≤ 7) (w : World) (hx : Byt w w.heap.size A xs) :
    Calls Try.prog 77 #[.slice A len cap] w fun e w' => e = .returned (.int .i64 (num xs)) ∧ w = w' := by
  obtain rfl := hlen.out
  rcases Nat.eq_zero_or_pos xs.length with h0 | h0
  · have hx0 : xs = [] := List.eq_nil_of_length_eq_zero h0
    subst hx0
    exact num_ref_nil A cap w
  · obtain ⟨ad, rfl, _, hc⟩ := hx h0
    go_enter Try.func77, Try.ntmps77
    go_wp2
    go_loop [3, 4] (fun t i => ∃ k : Nat, k ≤ xs.length ∧ i = .int .i64 ((xs.length : Int) - 1 - k) ∧ t = .int .i64 (num (xs.drop (xs.length - k)))) (fun _ i => (intOf i + 1).toNat)
    case atStart => exact ⟨0, Nat.zero_le _, by simp, by simp [num]⟩
    case round =>
      obtain ⟨k, hk, rfl, rfl⟩ := hrel
      by_cases hlt : k < xs.length
      · obtain ⟨b0, b1⟩ := num_small (xs.drop (xs.length - k)) (by simp; omega)
        have hd := Lib.hid (num_drop xs k hlt)
        have hcx := hc (xs.length - 1 - k) (by omega)
        have hxb := (xs[xs.length - 1 - k]?.getD 0).toNat_lt
        have e1 : ((xs.length : Int) - 1 - k).toNat = xs.length - 1 - k := by omega
        generalize xs[xs.length - 1 - k]?.getD 0 = c at *
        generalize num (xs.drop (xs.length - k)) = q at *
        go_wp2
        go_round
        case rel => exact ⟨k + 1, by omega, by go_num, by rw [hd.out]⟩
        case measure => simp [intOf]; omega
      · obtain rfl : k = xs.length := by omega
        go_wp2
        go_ret
        simp

/-! ### The document's answers, as the code's -/
theorem four_ref (n : Int) (h0 : 0 ≤ n) (h1 : n < 4294967296) (w : World) :
    Calls Try.prog 72 #[.int .u32 n] w fun e w' => ∃ A cap, e = .returned (.slice A 4 cap) ∧ Byt w' w'.heap.size A (le 4 n) ∧ Below w.heap.size w w' := by
  go_enter Try.func72, Try.ntmps72
  go_wp2_with fail
  refine (bytes_ref n 4 h0 (by omega) (by omega) _).mono ?_
  rintro e w1 ⟨A, cap, rfl, hx, hb⟩
  go_wp2
  go_ret
  exact ⟨A, cap, rfl, hx, hb⟩

theorem four_own (n : Int) (h0 : 0 ≤ n) (h1 : n < 4294967296) (w : World) :
    Calls Try.prog 72 #[.int .u32 n] w fun e w' => ∃ v, e = .returned v ∧ w'.ownsRow w.heap.size 5 1 v 4 (u8s (le 4 n)) ∧ Below w.heap.size w w' := by
  go_enter Try.func72, Try.ntmps72
  go_wp2_with fail
  refine (bytes_own n 4 h0 (by omega) (by omega) _).mono ?_
  rintro e w1 ⟨v, rfl, hx, hb⟩
  go_wp2
  go_ret
  exact ⟨v, rfl, hx, hb⟩

theorem there_ref (A : Option Addr) (len cap : Nat) (k : Int) (m : Nat) (hm : m ≤ 4) (hl : len ≤ 9223372036854775807) (w : World) :
    Calls Try.prog 76 #[.slice A len cap, .int .i64 k, .int .i64 m] w fun e w' => e = .returned (.bool (decide (0 ≤ k ∧ k + m ≤ len))) ∧ w = w' := by
  rcases (by omega : k < 0 ∨ 0 ≤ k) with h | h
  · go_enter Try.func76, Try.ntmps76
    go_wp2
    go_ret
    exact ⟨by simp; omega, rfl⟩
  · rcases (by omega : k ≤ len ∨ (len : Int) < k) with h2 | h2
    · go_enter Try.func76, Try.ntmps76
      go_wp2
      go_ret
      exact ⟨ret_bool (by rw [decide_eq_decide]; omega), rfl⟩
    · go_enter Try.func76, Try.ntmps76
      go_wp2
      go_ret
      exact ⟨by simp; omega, rfl⟩

theorem getTwo_ref (A : Option Addr) (len cap : Nat) (k : Int) (xs : List UInt8) (hlen : Hid (xs.length = len)) (hlc : len ≤ cap) (hcap : cap ≤ 9223372036854775807) (w : World) (hx : Byt w w.heap.size A xs) :
    Calls Try.prog 49 #[.slice A len cap, .int .i64 k] w fun e w' => e = .returned (.tuple #[.int .i64 (gv 2 xs k), .int .i64 (ge 2 len k)]) ∧ w = w' := by
  obtain rfl := hlen.out
  by_cases h : 0 ≤ k ∧ k + (2 : Nat) ≤ xs.length
  · have hd : decide (0 ≤ k ∧ k + (2 : Nat) ≤ xs.length) = true := by simpa using h
    rw [ge_yes h, gv_yes h]
    obtain ⟨n, rfl⟩ := Int.eq_ofNat_of_zero_le h.1
    rw [Int.toNat_natCast]
    have hn : n + 2 ≤ xs.length := by omega
    obtain ⟨ad, rfl, hp⟩ := hx.part hn (by omega)
    have hHd := Lib.hid hd
    clear hd h
    go_enter Try.func49, Try.ntmps49
    go_wp2_with fail
    refine (there_ref _ _ cap n 2 (by omega) (by omega) _).mono ?_
    rintro e w1 ⟨rfl, rfl⟩
    rw [hHd.out]
    go_wp2_with fail
    refine (number_ref _ 2 _ _ (Lib.hid (by simp; omega)) (by omega) _ hp).mono ?_
    rintro e w1 ⟨rfl, rfl⟩
    go_wp2
    go_ret2
    exact ⟨rfl, rfl⟩
  · have hd : decide (0 ≤ k ∧ k + (2 : Nat) ≤ xs.length) = false := by simpa using h
    rw [ge_no h, gv_no h]
    have hHd := Lib.hid hd
    clear hd h
    go_enter Try.func49, Try.ntmps49
    go_wp2_with fail
    refine (there_ref _ _ cap k 2 (by omega) (by omega) _).mono ?_
    rintro e w1 ⟨rfl, rfl⟩
    rw [hHd.out]
    go_wp2
    go_ret2
    exact ⟨rfl, rfl⟩

theorem getFour_ref (A : Option Addr) (len cap : Nat) (k : Int) (xs : List UInt8) (hlen : Hid (xs.length = len)) (hlc : len ≤ cap) (hcap : cap ≤ 9223372036854775807) (w : World) (hx : Byt w w.heap.size A xs) :
    Calls Try.prog 48 #[.slice A len cap, .int .i64 k] w fun e w' => e = .returned (.tuple #[.int .u32 (gv 4 xs k), .int .i64 (ge 4 len k)]) ∧ w = w' := by
  obtain rfl := hlen.out
  by_cases h : 0 ≤ k ∧ k + (4 : Nat) ≤ xs.length
  · have hd : decide (0 ≤ k ∧ k + (4 : Nat) ≤ xs.length) = true := by simpa using h
    have hv := gv_bounds 4 xs k
    rw [gv_yes h] at hv
    rw [ge_yes h, gv_yes h]
    obtain ⟨n, rfl⟩ := Int.eq_ofNat_of_zero_le h.1
    rw [Int.toNat_natCast] at hv ⊢
    have hn : n + 4 ≤ xs.length := by omega
    obtain ⟨v0, v1⟩ := hv
    simp only [Int.reducePow] at v1
    obtain ⟨ad, rfl, hp⟩ := hx.part hn (by omega)
    have hHd := Lib.hid hd
    clear hd h
    go_enter Try.func48, Try.ntmps48
    go_wp2_with fail
    refine (there_ref _ _ cap n 4 (by omega) (by omega) _).mono ?_
    rintro e w1 ⟨rfl, rfl⟩
    rw [hHd.out]
    go_wp2_with fail
    refine (number_ref _ 4 _ _ (Lib.hid (by simp; omega)) (by omega) _ hp).mono ?_
    rintro e w1 ⟨rfl, rfl⟩
    go_wp2
    go_ret2
    exact ⟨rfl, rfl⟩
  · have hd : decide (0 ≤ k ∧ k + (4 : Nat) ≤ xs.length) = false := by simpa using h
    rw [ge_no h, gv_no h]
    have hHd := Lib.hid hd
    clear hd h
    go_enter Try.func48, Try.ntmps48
    go_wp2_with fail
    refine (there_ref _ _ cap k 4 (by omega) (by omega) _).mono ?_
    rintro e w1 ⟨rfl, rfl⟩
    rw [hHd.out]
    go_wp2
    go_ret2
    exact ⟨rfl, rfl⟩
end Go.Proofs.Ytdcgcnnofjekaaa

/-
  The document's answers of layer 2: the contracts of package scionryref02. Conditions: those that each lemma states.
-/
namespace Go.Proofs.Ytdcgcnnofjekaaa
open Go.RowKit

set_option maxHeartbeats 800000 in
theorem halved_any (s m : Nat) (h : s < 4294967296) (hm : m ≤ 1000) (w : World) :
    Calls Try.prog 95 #[.int .u32 s, .int .i64 m] w fun e w' => e = .returned (.int .u32 (halvesN m s)) ∧ w = w' := by
  go_enter Try.func95, Try.ntmps95
  go_wp2
  go_loop [0, 5] (fun t i => ∃ k : Nat, k ≤ m ∧ i = .int .i64 k ∧ t = .int .u32 (halvesN k s)) (fun _ i => m - (intOf i).toNat)
  case atStart => exact ⟨0, by omega, rfl, rfl⟩
  case round =>
    obtain ⟨k, hk, rfl, rfl⟩ := hrel
    have hq := halvesN_lt k h
    by_cases hlt : k < m
    · have hh := Lib.hid (halvesN_succ k s)
      generalize halvesN k s = q at *
      rcases (by omega : q % 2 = 1 ∨ q % 2 = 0) with h1 | h1
      · have e : Hid (halfN q = q / 2 ^^^ 3988292384) := Lib.hid (if_pos h1)
        have h1' : (q : Int) % 2 = 1 := by omega
        have hx := bxor (q / 2) 3988292384 ((q : Int) / 2) 3988292384 (by omega) (by omega) (by omega) (by omega)
        clear h1
        go_wp2
        go_round
        case rel => exact ⟨k + 1, by omega, by go_num, by rw [hh.out, e.out]⟩
        case measure => simp [intOf]; omega
      · have e : Hid (halfN q = q / 2) := Lib.hid (if_neg (by omega))
        have h1' : (q : Int) % 2 = 0 := by omega
        clear h1
        go_wp2
        go_round
        case rel => exact ⟨k + 1, by omega, by go_num, by rw [hh.out, e.out]; go_num⟩
        case measure => simp [intOf]; omega
    · obtain rfl : k = m := by omega
      go_wp2
      go_ret
      exact ⟨rfl, rfl⟩

set_option maxRecDepth 100000 in
set_option maxHeartbeats 1600000 in
theorem ofRef_ad (ad : Addr) (len cap : Nat) (xs : List UInt8) (hlen : Hid (xs.length = len)) (hlc : len ≤ cap) (hcap : cap ≤ 9223372036854775807) (w : World) (hbl : ad.block < w.heap.size) (hc : Hid (∀ j, j < len → w.cell? (ad.add j) = some (.int .u8 ((xs[j]?.getD 0).toNat : Int)))) :
    Calls Try.prog 75 #[.slice (some ad) len cap] w fun e w' => e = .returned (.int .u32 (crc xs : Nat)) ∧ Below w.heap.size w w' := by
  have h0 : #[Value.int .u32 0, .int .u32 0, .int .u32 0, .int .u32 0, .int .u32 0, .int .u32 0, .int .u32 0, .int .u32 0, .int .u32 0, .int .u32 0, .int .u32 0, .int .u32 0, .int .u32 0, .int .u32 0, .int .u32 0, .int .u32 0] = tabV 0 := by kernel_rfl
  have H0 := Lib.hid h0
  clear h0
  go_enter Try.func75, Try.ntmps75
  go_wp2
  rw [H0.out]
  go_loopw [4] (fun i wr => ∃ k : Nat, k ≤ 16 ∧ i = .int .i64 k ∧ wr.heap.size = w.heap.size + 1 ∧ wr.heap[w.heap.size]? = some (.cells (tabV k) 127 (0, 0)) ∧ Below w.heap.size w wr)
    (fun i _ => 16 - (intOf i).toNat)
  case atStart => exact ⟨0, by omega, rfl, by simp, heap_alloc_new w _, balloc (Below.refl _ _) _⟩
  case round =>
    obtain ⟨k, hk, rfl, hs, hT, hB⟩ := hrel
    by_cases hlt : k < 16
    · have hc : wr.cell? ⟨w.heap.size, k, none⟩ = some (.int .u32 0) := by rw [cell_of_row _ _ _ _ _ _ hT]; simp [tabV, hlt]
      have hf : wr.frozen? ⟨w.heap.size, k, none⟩ = false := frozen_of_row _ _ _ _ _ hT
      go_wp2_with (go_at_call 95; refine (halved_any k 4 (by omega) (by omega) _).mono ?_; rintro e w' ⟨rfl, rfl⟩)
      exact ⟨⟨k + 1, by omega, by go_num, by simpa using hs, (heap_setCell_same _ _ _ _ _ _ hT).trans (by rw [← tabV_set k hlt]; rfl), hB.setCell (by simp) _⟩, by simp [intOf]; omega⟩
    · obtain rfl : k = 16 := by omega
      have HT := Lib.hid hT
      clear hT hs
      go_wp2
      go_loop [5, 6] (fun s i => ∃ k : Nat, k ≤ len ∧ i = .int .i64 k ∧ s = .int .u32 (foldN 4294967295 (xs.take k) : Nat)) (fun _ i => len - (intOf i).toNat)
      case atStart => exact ⟨0, by omega, rfl, rfl⟩
      case round =>
        obtain ⟨k, hk, rfl, rfl⟩ := hrel
        have hq := foldN_lt (s := 4294967295) (xs.take k) (by omega)
        by_cases hlt : k < len
        · have hs := Lib.hid (take_succ_fold 4294967295 xs k (by rw [hlen.out]; exact hlt))
          have hcx := (hB.cell (p := ad.add k) (by rw [add_block]; exact hbl)).trans (hc.out k hlt)
          have hxb := (xs[k]?.getD 0).toNat_lt
          have hx1 := bxor (foldN 4294967295 (xs.take k)) (xs[k]?.getD 0).toNat _ _ rfl rfl hq (by omega)
          have hr1 := xor_lt32 hq (by omega : (xs[k]?.getD 0).toNat < 4294967296)
          generalize xs[k]?.getD 0 = c at *
          generalize foldN 4294967295 (xs.take k) = q at *
          generalize q ^^^ c.toNat = r1 at *
          have hc1 : wr.cell? ⟨w.heap.size, r1 % 16, none⟩ = some (.int .u32 (fourN (r1 % 16))) := by rw [cell_of_row _ _ _ _ _ _ HT.out]; exact tabV_get 16 _ (by omega) (by omega)
          have hx2 := bxor (r1 / 16) (fourN (r1 % 16)) ((r1 : Int) / 16) (fourN (r1 % 16)) (by omega) rfl (by omega) (fourN_lt (by omega))
          have hr2 := nibN_lt hr1
          have he2 : (r1 / 16) ^^^ fourN (r1 % 16) = nibN r1 := Nat.xor_comm _ _
          rw [he2] at hx2
          clear he2
          generalize nibN r1 = r2 at *
          have hc2 : wr.cell? ⟨w.heap.size, r2 % 16, none⟩ = some (.int .u32 (fourN (r2 % 16))) := by rw [cell_of_row _ _ _ _ _ _ HT.out]; exact tabV_get 16 _ (by omega) (by omega)
          have hx3 := bxor (r2 / 16) (fourN (r2 % 16)) ((r2 : Int) / 16) (fourN (r2 % 16)) (by omega) rfl (by omega) (fourN_lt (by omega))
          have hr3 := nibN_lt hr2
          have he3 : (r2 / 16) ^^^ fourN (r2 % 16) = nibN r2 := Nat.xor_comm _ _
          rw [he3] at hx3
          clear he3
          generalize nibN r2 = r3 at *
          have hf1 : fourN (r1 % 16) < 4294967296 := fourN_lt (by omega)
          have hf2 : fourN (r2 % 16) < 4294967296 := fourN_lt (by omega)
          generalize fourN (r1 % 16) = f1 at *
          generalize fourN (r2 % 16) = f2 at *
          have hm1 : ((r1 : Int) % 16).toNat = r1 % 16 := by omega
          have hm2 : ((r2 : Int) % 16).toNat = r2 % 16 := by omega
          have hm3 : r1 % 16 < 16 := by omega
          have hm4 : r2 % 16 < 16 := by omega
          clear hB
          go_wp2
          go_round
          case rel => exact ⟨k + 1, by omega, by go_num, by rw [hs.out]⟩
          case measure => simp [intOf]; omega
        · obtain rfl : k = len := by omega
          have he := Lib.hid (bxor _ 4294967295 _ 4294967295 rfl rfl hq (by omega))
          have ht := Lib.hid (List.take_of_length_le (l := xs) (Nat.le_of_eq hlen.out))
          go_wp2
          go_ret
          exact ⟨ret_int (he.out.trans (by rw [ht.out]; rfl)), hB⟩
set_option maxHeartbeats 800000 in
theorem ofRef_nil (A : Option Addr) (cap : Nat) (w : World) :
    Calls Try.prog 75 #[.slice A 0 cap] w fun e w' => e = .returned (.int .u32 0) ∧ Below w.heap.size w w' := by
  have h0 : #[Value.int .u32 0, .int .u32 0, .int .u32 0, .int .u32 0, .int .u32 0, .int .u32 0, .int .u32 0, .int .u32 0, .int .u32 0, .int .u32 0, .int .u32 0, .int .u32 0, .int .u32 0, .int .u32 0, .int .u32 0, .int .u32 0] = tabV 0 := by kernel_rfl
  have H0 := Lib.hid h0
  clear h0
  go_enter Try.func75, Try.ntmps75
  go_wp2
  rw [H0.out]
  go_loopw [4] (fun i wr => ∃ k : Nat, k ≤ 16 ∧ i = .int .i64 k ∧ wr.heap.size = w.heap.size + 1 ∧ wr.heap[w.heap.size]? = some (.cells (tabV k) 127 (0, 0)) ∧ Below w.heap.size w wr)
    (fun i _ => 16 - (intOf i).toNat)
  case atStart => exact ⟨0, by omega, rfl, by simp, heap_alloc_new w _, balloc (Below.refl _ _) _⟩
  case round =>
    obtain ⟨k, hk, rfl, hs, hT, hB⟩ := hrel
    by_cases hlt : k < 16
    · have hc : wr.cell? ⟨w.heap.size, k, none⟩ = some (.int .u32 0) := by rw [cell_of_row _ _ _ _ _ _ hT]; simp [tabV, hlt]
      have hf : wr.frozen? ⟨w.heap.size, k, none⟩ = false := frozen_of_row _ _ _ _ _ hT
      go_wp2_with (go_at_call 95; refine (halved_any k 4 (by omega) (by omega) _).mono ?_; rintro e w' ⟨rfl, rfl⟩)
      exact ⟨⟨k + 1, by omega, by go_num, by simpa using hs, (heap_setCell_same _ _ _ _ _ _ hT).trans (by rw [← tabV_set k hlt]; rfl), hB.setCell (by simp) _⟩, by simp [intOf]; omega⟩
    · obtain rfl : k = 16 := by omega
      clear hT hs
      go_wp2
      refine wp_loop_rounds 1 ?_
      rw [rounds_succ]
      go_wp2
      go_ret
      exact ⟨rfl, hB⟩
theorem ofRef_any (A : Option Addr) (len cap : Nat) (xs : List UInt8) (hlen : Hid (xs.length = len)) (hlc : len ≤ cap) (hcap : cap ≤ 9223372036854775807) (w : World) (hx : Byt w w.heap.size A xs) :
    Calls Try.prog 75 #[.slice A len cap] w fun e w' => e = .returned (.int .u32 (crc xs : Nat)) ∧ Below w.heap.size w w' := by
  rcases Nat.eq_zero_or_pos xs.length with h0 | h0
  · have hx0 : xs = [] := List.eq_nil_of_length_eq_zero h0
    subst hx0
    obtain rfl := hlen.out
    exact ofRef_nil A cap w
  · obtain ⟨ad, rfl, hbl, hc⟩ := hx h0
    exact ofRef_ad ad len cap xs hlen hlc hcap w hbl (Lib.hid fun j hj => hc j (by rw [hlen.out]; exact hj))

def lenOfV : Value → Nat
  | .slice _ n _ => n
  | _ => 0
theorem zeros_snoc (k : Nat) : zeros k ++ [0] = zeros (k + 1) := by simp [zeros, List.replicate_succ']
theorem u8s_zero : u8s [0] = [.int .u8 0] := rfl
set_option maxRecDepth 100000 in
set_option maxHeartbeats 1600000 in
theorem sealed_ref (A : Option Addr) (len cap : Nat) (xs : List UInt8) (hlen : Hid (xs.length = len)) (hl : len ≤ 124) (hlc : len ≤ cap) (hcap : cap ≤ 9223372036854775807) (w : World) (hx : Byt w w.heap.size A xs) :
    Calls Try.prog 74 #[.slice A len cap] w fun e w' => ∃ v, e = .returned v ∧ w'.ownsRow w.heap.size 5 1 v 128 (u8s (sealN xs)) ∧ Below w.heap.size w w' := by
  obtain ⟨i0, hi, hz0, hz1, hz2⟩ := info_parts u8_info
  obtain ⟨v1, w1, hrun1, own1, ba1⟩ := app_byt (P := Try.prog) (w := w) w.heap.size 40 40 5 i0 Try.underlying40 hi hz0 hz1 hz2 (.slice none 0 0) 0 [] (World.ownsRow_nil _ _ _ _) w.heap.size A len cap xs hx hlen.out (by omega) (Nat.le_refl _)
  rw [Nat.zero_add, List.nil_append] at own1
  have H1 := Lib.hid hrun1
  clear hrun1
  go_enter Try.func74, Try.ntmps74
  go_wp2_with (at_builtin; refine wpList_append_run rfl _ _ _ rfl rfl rfl H1.out ?_; clear H1)
  go_loopw [3] (fun v wr => ∃ k : Nat, len + k ≤ 124 ∧ wr.ownsRow w.heap.size 5 1 v (len + k) (u8s (xs ++ zeros k)) ∧ Below w.heap.size w wr) (fun v _ => 124 - lenOfV v)
  case atStart => exact ⟨0, by omega, by simpa [zeros] using own1, ba1⟩
  case round =>
    obtain ⟨k, hk, hown, hB⟩ := hrel
    obtain ⟨G, c, rfl, hlc2, hc2, hy⟩ := own_byt hown
    by_cases hlt : len + k < 124
    · go_wp2_with (at_builtin; refine wpList_append_own _ rfl _ _ 40 rfl w.heap.size 5 i0 (.int .u8 0) 1 1 Try.underlying40 hi hz0 hz1 hz2 rfl (by decide) _ _ _ rfl (hown.alloc _) ⟨wr.heap.size, 0, none⟩ 1 1 [.int .u8 0] rfl rfl ?c1 ?c2 ?c3 ?c4 ?c5 ?_)
      case c1 =>
        intro j u hj
        match j, hj with
        | 0, hj => simp at hj; subst hj; simp [Addr.add]
      case c2 => intro u hu; simp at hu; subst hu; rfl
      case c3 => unfold maxLen; omega
      case c4 => omega
      case c5 => have := hB.size; simp; omega
      intro v' w2 hown' hgrow _
      have hB1 : Below w.heap.size w w2 := (balloc hB _).grown hgrow (balloc hB _).size (fun r e => by have := hown.lt r e; omega)
      rw [← u8s_zero, ← u8s_append, List.append_assoc, zeros_snoc] at hown'
      clear hgrow hown hy
      go_wp2
      obtain ⟨G', c', rfl, _, _, _⟩ := own_byt hown'
      go_roundw
      case rel => exact ⟨k + 1, by omega, hown', hB1⟩
      case measure => simp [lenOfV]; omega
    · have e : len + k = 124 := by omega
      have hpad : xs ++ zeros k = padN xs := by
        unfold padN
        rw [hlen.out, show 124 - len = k by omega]
      rw [hpad] at hown hy
      rw [e] at hown hlc2
      have hpl : Hid ((padN xs).length = 124) := Lib.hid (padN_length (by rw [hlen.out]; omega))
      clear hown hpad
      rw [e]
      go_wp2_with fail
      refine (ofRef_any _ _ c _ hpl (by omega) (by omega) _ hy).mono ?_
      rintro e w3 ⟨rfl, hb3⟩
      go_wp2_with fail
      refine (four_own _ (by omega) (by have := crc_lt (padN xs); omega) _).mono ?_
      rintro e w4 ⟨v4, rfl, own4, hb4⟩
      obtain ⟨v5, w5, hrun5, own5, ba5⟩ := app_byt (P := Try.prog) (w := w4) w3.heap.size 40 40 5 i0 Try.underlying40 hi hz0 hz1 hz2 v4 4 _ own4 wr.heap.size G 124 c (padN xs) ((hy.below hb3).below (hb4.mono hb3.size)) hpl.out (by omega) hb4.size
      have hs13 := Nat.le_trans hB.size hb3.size
      have hB5 := hB.trans ((bstep hb3 (hb4.trans ba5)).mono hB.size)
      have HO := Lib.hid (own_base own5 hs13)
      have H5 := Lib.hid hrun5
      clear hrun5 own5 own4 hy hb3 hb4 ba5 hs13 hB
      go_wp2_with (at_builtin; refine wpList_append_run rfl _ _ _ rfl rfl rfl H5.out ?_; clear H5)
      go_ret
      exact ⟨_, rfl, HO.out, hB5⟩

theorem openRef_no (A : Option Addr) (len cap : Nat) (hl : len ≠ 128) (w : World) :
    Calls Try.prog 47 #[.slice A len cap] w fun e w' => e = .returned (.tuple #[.slice none 0 0, .int .i64 3]) ∧ w = w' := by
  go_enter Try.func47, Try.ntmps47
  go_wp2
  go_ret2
  exact ⟨rfl, rfl⟩
theorem ge_ok : ge 4 128 0 = 0 := rfl
theorem gv_ok {xs : List UInt8} (h : xs.length = 128) : gv 4 xs 0 = num (xs.take 4) := by
  rw [gv_yes (by omega)]
  rfl
theorem openRef_bad (ad : Addr) (cap : Nat) (xs : List UInt8) (hlen : Hid (xs.length = 128)) (hlc : 128 ≤ cap) (hcap : cap ≤ 9223372036854775807) (w : World) (hx : Byt w w.heap.size (some ad) xs) (hn : ¬ fits xs) :
    Calls Try.prog 47 #[.slice (some ad) 128 cap] w fun e w' => e = .returned (.tuple #[.slice none 0 0, .int .i64 8]) ∧ Below w.heap.size w w' := by
  have hp : Byt w w.heap.size (some (ad.add 4)) (xs.drop 4) := by
    obtain ⟨ad', e, hp⟩ := hx.part (k := 4) (n := 124) (by rw [hlen.out]; omega) (by omega)
    cases e
    rwa [List.take_of_length_le (by simp [hlen.out])] at hp
  have hpl : Hid ((xs.drop 4).length = 124) := Lib.hid (by simp [hlen.out])
  have hb := crc_lt (xs.drop 4)
  have hd' : ((num (xs.take 4) : Int) != (crc (xs.drop 4) : Nat)) = true := by simpa [fits] using hn
  have HD' := Lib.hid hd'
  have hgv := Lib.hid (gv_ok hlen.out)
  clear hn hd'
  go_enter Try.func47, Try.ntmps47
  go_wp2_with fail
  refine (getFour_ref _ _ cap 0 xs hlen (by omega) (by omega) _ hx).mono ?_
  rintro e w1 ⟨rfl, rfl⟩
  rw [hgv.out]
  go_wp2_with fail
  refine (ofRef_any _ _ _ _ hpl (by omega) (by omega) _ hp).mono ?_
  rintro e w2 ⟨rfl, hb2⟩
  generalize num (xs.take 4) = q at *
  generalize crc (xs.drop 4) = r at *
  have hd' := HD'.out
  go_wp2_with fail
  go_ret2
  exact ⟨rfl, hb2⟩
theorem openRef_ok (ad : Addr) (cap : Nat) (xs : List UInt8) (hlen : Hid (xs.length = 128)) (hlc : 128 ≤ cap) (hcap : cap ≤ 9223372036854775807) (w : World) (hx : Byt w w.heap.size (some ad) xs) (hn : fits xs) :
    Calls Try.prog 47 #[.slice (some ad) 128 cap] w fun e w' => ∃ v, e = .returned (.tuple #[v, .int .i64 0]) ∧ w'.ownsRow w.heap.size 5 1 v 124 (u8s (xs.drop 4)) ∧ Below w.heap.size w w' := by
  have hp : Byt w w.heap.size (some (ad.add 4)) (xs.drop 4) := by
    obtain ⟨ad', e, hp⟩ := hx.part (k := 4) (n := 124) (by rw [hlen.out]; omega) (by omega)
    cases e
    rwa [List.take_of_length_le (by simp [hlen.out])] at hp
  have hpl : Hid ((xs.drop 4).length = 124) := Lib.hid (by simp [hlen.out])
  have hb := crc_lt (xs.drop 4)
  have HN : Hid (num (xs.take 4) = (crc (xs.drop 4) : Nat)) := Lib.hid hn
  have hgv := Lib.hid (gv_ok hlen.out)
  obtain ⟨i0, hi, hz0, hz1, hz2⟩ := info_parts u8_info
  clear hn
  go_enter Try.func47, Try.ntmps47
  go_wp2_with fail
  refine (getFour_ref _ _ cap 0 xs hlen (by omega) (by omega) _ hx).mono ?_
  rintro e w1 ⟨rfl, rfl⟩
  rw [hgv.out, HN.out]
  go_wp2_with fail
  refine (ofRef_any _ _ _ _ hpl (by omega) (by omega) _ hp).mono ?_
  rintro e w2 ⟨rfl, hb2⟩
  have hp2 := (hp.below hb2).more hb2.size
  obtain ⟨v3, w3, hrun3, own3, ba3⟩ := app_byt (P := Try.prog) (w := w2) w2.heap.size 40 40 5 i0 Try.underlying40 hi hz0 hz1 hz2 (.slice none 0 0) 0 [] (World.ownsRow_nil _ _ _ _) w2.heap.size _ 124 (cap - 4) _ hp2 hpl.out (by omega) (Nat.le_refl _)
  rw [Nat.zero_add, List.nil_append] at own3
  have HO := Lib.hid (own_base own3 hb2.size)
  have H3 := Lib.hid hrun3
  have hB := bstep hb2 ba3
  clear hrun3 own3 hp2 hp hx hb2 ba3
  generalize crc (xs.drop 4) = r at *
  go_wp2_with (at_builtin; refine wpList_append_run rfl _ _ _ rfl rfl rfl H3.out ?_; clear H3)
  go_ret2
  exact ⟨_, rfl, HO.out, hB⟩
end Go.Proofs.Ytdcgcnnofjekaaa

/-
  The document's answers of layer 4: a superblock's block, Write. Conditions: those that each lemma states.
-/
namespace Go.Proofs.Ytdcgcnnofjekaaa
open Go.RowKit

def headS (s : Sp) : List UInt8 := le 4 s.1 ++ le 2 s.2.1 ++ le 4 s.2.2.1 ++ le 4 s.2.2.2.1 ++ [UInt8.ofNat s.2.2.2.2.length]
def twos (xs : List Int) : List UInt8 := xs.flatMap (le 2)
def bodyS (s : Sp) : List UInt8 := headS s ++ twos s.2.2.2.2
def blkS (s : Sp) : List UInt8 := sealN (bodyS s)
def wrS (s : Sp) : List UInt8 := if mayS s then blkS s else []
theorem headS_length (s : Sp) : (headS s).length = 15 := by simp [headS, le_length]
theorem twos_length (xs : List Int) : (twos xs).length = 2 * xs.length := by
  induction xs with
  | nil => rfl
  | cons x r ih =>
    show (le 2 x ++ twos r).length = _
    rw [List.length_append, le_length, ih, List.length_cons]
    omega
theorem twos_snoc (xs : List Int) (x : Int) : twos (xs ++ [x]) = twos xs ++ le 2 x := by simp [twos]
theorem bodyS_length (s : Sp) : (bodyS s).length = 15 + 2 * s.2.2.2.2.length := by rw [bodyS, List.length_append, headS_length, twos_length]
theorem blkS_length {s : Sp} (h : mayS s = true) : (blkS s).length = 128 := sealN_length (by rw [bodyS_length]; have := (mayS_of h).2.1; omega)
theorem rBy_nil_new (lo : Nat) (w : World) : rBy (New lo w) w [.slice none 0 0] [] := ⟨none, 0, rfl, by simp, by omega, fun i x h => by simp at h⟩
theorem ret_two {a : Value} {k : IntKind} {x y : Int} (h : x = y) : Ending.returned (.tuple #[a, .int k x]) = .returned (.tuple #[a, .int k y]) := by rw [h]
theorem takB_of {n : Int} (h : takB n = true) : 8 ≤ n ∧ n < 256 := by
  simp only [takB, Bool.and_eq_true, decide_eq_true_eq] at h
  exact h
/-- Bytes of the call's own, with bytes behind. -/
theorem app_own_byt (v : Value) (n m c : Nat) (xs ys : List UInt8) (A : Option Addr) (lo : Nat) (w : World) (hown : w.ownsRow lo 5 1 v n (u8s xs)) (hy : Byt w w.heap.size A ys) (hl : ys.length = m) (hs : n + m ≤ 1000000000) (hlo : lo ≤ w.heap.size) :
    ∃ v' w', (Builtin.append_ #[40, 40] 40 #[v, .slice A m c]).run Try.prog w = .ok v' w' ∧ w'.ownsRow lo 5 1 v' (n + m) (u8s (xs ++ ys)) ∧ Below lo w w' := by
  obtain ⟨i0, hi, hz0, hz1, hz2⟩ := info_parts u8_info0
  exact app_byt (P := Try.prog) (w := w) lo 40 40 5 i0 Try.underlying40 hi hz0 hz1 hz2 v n xs hown w.heap.size A m c ys hy hl hs hlo

set_option maxRecDepth 100000 in
set_option maxHeartbeats 4000000 in
theorem refBlock_any (v : Value) (s : Sp) (w : World) (h : Sup (Old w) w v s) (hm : mayS s = true) :
    Calls Try.prog 46 #[v] w fun e w' => ∃ u, e = .returned u ∧ w'.ownsRow w.heap.size 5 1 u 128 (u8s (blkS s)) ∧ Below w.heap.size w w' := by
  obtain ⟨hr, h40, hall⟩ := mayS_of hm
  obtain ⟨r0, r1⟩ := takB_of hr
  obtain ⟨A, c, rfl, hin, l1, m1, _, hA⟩ := h.open
  have HA := Lib.hid hA
  have HALL := Lib.hid hall
  clear hA h hall hr
  obtain ⟨n, hn⟩ : ∃ n, s.2.2.2.2.length = n := ⟨_, rfl⟩
  have hbl := Lib.hid (bodyS_length s)
  rw [hn] at l1 h40 ⊢
  have hhead := Lib.hid (show headS s = le 4 s.1 ++ le 2 s.2.1 ++ le 4 s.2.2.1 ++ le 4 s.2.2.2.1 ++ [UInt8.ofNat n] by rw [← hn]; rfl)
  replace hn := Lib.hid hn
  obtain ⟨⟨g0, g1⟩, _, ⟨n0, n1⟩, ⟨t0, t1⟩⟩ := hin
  obtain ⟨w0, hw0, f1, f2, f3, f4, f5, hs0, hB0, _⟩ := box_five w (.int .u32 s.1) (.int .i64 s.2.1) (.int .u32 s.2.2.1) (.int .u32 s.2.2.2.1) (.slice A n c) 37
  have lt0 : w.heap.size < w0.heap.size := by omega
  have F5 := Lib.hid f5
  have HB0 := Lib.hid hB0
  clear hB0 hs0
  go_enter Try.func46, Try.ntmps46
  go_upto_region 1 with fail
  clear hw0
  go_wp2_with fail
  with_reducible refine (four_own s.1 g0 g1 _).mono ?_
  rintro e1 w1 ⟨v1, rfl, o1, hb1⟩
  have B1 := Lib.hid hb1
  replace f2 := (hb1.cell (p := ⟨w.heap.size, 1, none⟩) lt0).trans f2
  replace f3 := (hb1.cell (p := ⟨w.heap.size, 2, none⟩) lt0).trans f3
  replace f4 := (hb1.cell (p := ⟨w.heap.size, 3, none⟩) lt0).trans f4
  replace f5 := (hb1.cell (p := ⟨w.heap.size, 4, none⟩) lt0).trans f5
  clear f1 hb1
  replace o1 := Lib.hid o1
  go_wp2_with fail
  refine (bytes_ref s.2.1 2 (by omega) (by omega) (by omega) _).mono ?_
  rintro e2 w2 ⟨A2, c2, rfl, y2, hb2⟩
  obtain ⟨v3, w3, hr3, o3, ba3⟩ := app_own_byt v1 4 2 c2 _ _ A2 w0.heap.size w2 (own_below o1.out hb2) y2 (le_length _ _) (by omega) (Nat.le_trans B1.out.size hb2.size)
  have B3 := Lib.hid ((B1.out.trans (hb2.mono B1.out.size)).trans ba3)
  have k3 : Below w1.heap.size w1 w2 := hb2
  replace f3 := (ba3.cell (p := ⟨w.heap.size, 2, none⟩) lt0).trans ((hb2.cell (p := ⟨w.heap.size, 2, none⟩) (Nat.lt_of_lt_of_le lt0 B1.out.size)).trans f3)
  replace f4 := (ba3.cell (p := ⟨w.heap.size, 3, none⟩) lt0).trans ((hb2.cell (p := ⟨w.heap.size, 3, none⟩) (Nat.lt_of_lt_of_le lt0 B1.out.size)).trans f4)
  replace f5 := (ba3.cell (p := ⟨w.heap.size, 4, none⟩) lt0).trans ((hb2.cell (p := ⟨w.heap.size, 4, none⟩) (Nat.lt_of_lt_of_le lt0 B1.out.size)).trans f5)
  clear f2 hb2 y2 ba3 o1 B1 k3
  have H3 := Lib.hid hr3
  replace o3 := Lib.hid o3
  clear hr3
  go_wp2_with (at_builtin; refine wpList_append_run rfl _ _ _ rfl rfl rfl H3.out ?_; clear H3)
  with_reducible refine (four_ref s.2.2.1 n0 n1 _).mono ?_
  rintro e4 w4 ⟨A4, c4, rfl, y4, hb4⟩
  obtain ⟨v5, w5, hr5, o5, ba5⟩ := app_own_byt v3 6 4 c4 _ _ A4 w0.heap.size w4 (own_below o3.out hb4) y4 (le_length _ _) (by omega) (Nat.le_trans B3.out.size hb4.size)
  have B5 := Lib.hid ((B3.out.trans (hb4.mono B3.out.size)).trans ba5)
  replace f4 := (ba5.cell (p := ⟨w.heap.size, 3, none⟩) lt0).trans ((hb4.cell (p := ⟨w.heap.size, 3, none⟩) (Nat.lt_of_lt_of_le lt0 B3.out.size)).trans f4)
  replace f5 := (ba5.cell (p := ⟨w.heap.size, 4, none⟩) lt0).trans ((hb4.cell (p := ⟨w.heap.size, 4, none⟩) (Nat.lt_of_lt_of_le lt0 B3.out.size)).trans f5)
  clear f3 hb4 y4 ba5 o3 B3
  have H5 := Lib.hid hr5
  replace o5 := Lib.hid o5
  clear hr5
  go_wp2_with (at_builtin; refine wpList_append_run rfl _ _ _ rfl rfl rfl H5.out ?_; clear H5)
  with_reducible refine (four_ref s.2.2.2.1 t0 t1 _).mono ?_
  rintro e6 w6 ⟨A6, c6, rfl, y6, hb6⟩
  obtain ⟨v7, w7, hr7, o7, ba7⟩ := app_own_byt v5 10 4 c6 _ _ A6 w0.heap.size w6 (own_below o5.out hb6) y6 (le_length _ _) (by omega) (Nat.le_trans B5.out.size hb6.size)
  have B7 := Lib.hid ((B5.out.trans (hb6.mono B5.out.size)).trans ba7)
  replace f5 := (ba7.cell (p := ⟨w.heap.size, 4, none⟩) lt0).trans ((hb6.cell (p := ⟨w.heap.size, 4, none⟩) (Nat.lt_of_lt_of_le lt0 B5.out.size)).trans f5)
  clear f4 hb6 y6 ba7 o5 B5
  -- how many
  have hu8 : ((UInt8.ofNat n).toNat : Int) = (n : Int) := by
    rw [UInt8.toNat_ofNat']
    omega
  have y8 := byt_new w7 5 [UInt8.ofNat n] #[.int .u8 (n : Int)] (by show [Value.int .u8 (n : Int)] = [Value.int .u8 ((UInt8.ofNat n).toNat : Int)]; rw [hu8])
  obtain ⟨w8, hw8, hs8⟩ : ∃ w8, w7.alloc (.cells #[.int .u8 (n : Int)] 5) = w8 ∧ w8.heap.size = w7.heap.size + 1 := ⟨_, rfl, by simp⟩
  have b8 : Below w7.heap.size w7 w8 := by rw [← hw8]; exact (Below.refl _ _).alloc (Nat.le_refl _) _
  rw [hw8, ← hs8] at y8
  obtain ⟨v9, w9, hr9, o9, ba9⟩ := app_own_byt v7 14 1 1 _ _ (some ⟨w7.heap.size, 0, none⟩) w0.heap.size w8 (own_below o7 b8) y8 rfl (by omega) (Nat.le_trans B7.out.size b8.size)
  have B9 := Lib.hid ((B7.out.trans (b8.mono B7.out.size)).trans ba9)
  have f5b := (ba9.cell (p := ⟨w.heap.size, 4, none⟩) lt0).trans ((b8.cell (p := ⟨w.heap.size, 4, none⟩) (Nat.lt_of_lt_of_le lt0 B7.out.size)).trans f5)
  rw [← hhead.out] at o9
  have H7 := Lib.hid hr7
  have H9 := Lib.hid hr9
  replace o9 := Lib.hid o9
  have hL := Lib.hid lt0
  replace hs8 := Lib.hid hs8
  clear hr7 hr9 y8 b8 ba9 o7 B7 hu8
  go_wp2_with (first
    | (at_builtin; refine wpList_append_run rfl _ _ _ rfl rfl rfl H7.out ?_; clear H7)
    | (at_builtin; refine wpList_append_run rfl _ _ _ rfl rfl rfl H9.out ?_; clear H9))
  go_loopw [3, 4] (fun u i wr => ∃ k : Nat, k ≤ n ∧ i = .int .i64 k ∧ wr.ownsRow w0.heap.size 5 1 u (15 + 2 * k) (u8s (headS s ++ twos (s.2.2.2.2.take k))) ∧ Below w0.heap.size w0 wr) (fun _ i _ => n - (intOf i).toNat)
  case atStart => exact ⟨0, by omega, rfl, by simpa [twos] using o9.out, B9.out⟩
  case round =>
    clear o9 f5 f5b
    obtain ⟨k, hk, rfl, hown, hB⟩ := hrel
    have q5 := (hB.cell (p := ⟨w.heap.size, 4, none⟩) hL.out).trans F5.out
    have B := Lib.hid hB
    by_cases hlt : k < n
    · obtain ⟨x, hx⟩ : ∃ x, s.2.2.2.2[k]? = some x := ⟨_, List.getElem?_eq_getElem (by rw [hn.out]; exact hlt)⟩
      obtain ⟨ad, rfl, hok, hc, _⟩ := HA.out k x hx
      have hc' := ((HB0.out.trans (hB.mono HB0.out.size)).cell hok).trans hc
      obtain ⟨x0, x1⟩ := takB_of (all_at HALL.out hx)
      have htk := Lib.hid (show twos (s.2.2.2.2.take (k + 1)) = twos (s.2.2.2.2.take k) ++ le 2 x by rw [List.take_add_one, hx, Option.toList_some, twos_snoc])
      replace hx := Lib.hid hx
      have i1 : (0 : Int) ≤ (k : Int) := by omega
      have i2 : (k : Int) < (n : Int) := by omega
      have hown' := Lib.hid hown
      clear hc hB hown
      go_wp2_with fail
      refine (bytes_ref x 2 (by omega) (by omega) (by omega) _).mono ?_
      rintro e2 wx ⟨A2, c2, rfl, y2, hb2⟩
      obtain ⟨v3, w3, hr3, o3, ba3⟩ := app_own_byt _ (15 + 2 * k) 2 c2 _ _ A2 w0.heap.size wx (own_below hown'.out hb2) y2 (le_length _ _) (by omega) (Nat.le_trans B.out.size hb2.size)
      have B3 := Lib.hid ((B.out.trans (hb2.mono B.out.size)).trans ba3)
      have H3 := Lib.hid hr3
      replace o3 := Lib.hid o3
      clear hr3 ba3 y2 hb2
      go_wp2_with (at_builtin; refine wpList_append_run rfl _ _ _ rfl rfl rfl H3.out ?_; clear H3)
      go_roundw
      case rel => exact ⟨k + 1, by omega, by go_num, by rw [htk.out, ← List.append_assoc, show 15 + 2 * (k + 1) = 15 + 2 * k + 2 by omega]; exact o3.out, B3.out⟩
      case measure => simp [intOf]; omega
    · have hge : n ≤ k := by omega
      have hkn := Lib.hid (show k = n by omega)
      obtain ⟨G, cg, rfl, hlc2, hc2, hy⟩ := own_byt hown
      have htl : s.2.2.2.2.take k = s.2.2.2.2 := List.take_of_length_le (by rw [hn.out]; exact hge)
      rw [htl] at hy hown
      have hbody : headS s ++ twos s.2.2.2.2 = bodyS s := rfl
      rw [hbody] at hy hown
      have hlen := Lib.hid (show (bodyS s).length = 15 + 2 * k by rw [hbl.out, hn.out, hkn.out])
      have hcap : 15 + 2 * k ≤ cg := hlc2
      have hy' := Lib.hid hy
      clear hown hy htl hbody hB
      go_wp2_with fail
      refine (sealed_ref G _ cg (bodyS s) hlen (by omega) hcap hc2 _ hy'.out).mono ?_
      rintro e4 w4 ⟨v4, rfl, o4, hb4⟩
      have BF := Lib.hid ((HB0.out.trans (B.out.mono HB0.out.size)).trans (hb4.mono (Nat.le_trans HB0.out.size B.out.size)))
      have O4 := Lib.hid (own_base o4 (Nat.le_trans HB0.out.size B.out.size))
      clear o4 hb4
      go_wp2_with fail
      go_ret
      exact ⟨_, rfl, O4.out, BF.out⟩

theorem refWriteS_any (v : Value) (s : Sp) (w : World) (h : Sup (Old w) w v s) :
    Calls Try.prog 18 #[v] w fun e w' => ∃ u, e = .returned (.tuple #[u, .int .i64 (chkS s)]) ∧ rBy (New w.heap.size w') w' [u] (wrS s) ∧ Below w.heap.size w w' := by
  obtain ⟨A, c, rfl, _⟩ := h.open
  obtain ⟨w0, hw0, f1, f2, f3, f4, f5, hs0, hB0, _⟩ := box_five w (.int .u32 s.1) (.int .i64 s.2.1) (.int .u32 s.2.2.1) (.int .u32 s.2.2.2.1) (.slice A s.2.2.2.2.length c) 37
  have H := Lib.hid (h.below hB0)
  have hL := Lib.hid (show w.heap.size < w0.heap.size by omega)
  replace hB0 := Lib.hid hB0
  clear h hs0
  go_enter Try.func18, Try.ntmps18
  go_upto_region 1 with fail
  clear hw0
  go_wp2_with fail
  with_reducible refine (mayRefS_any _ s _ H.out).mono ?_
  rintro e w1 ⟨rfl, hb⟩
  have g1 := (hb.cell (p := ⟨w.heap.size, 0, none⟩) hL.out).trans f1
  have g2 := (hb.cell (p := ⟨w.heap.size, 1, none⟩) hL.out).trans f2
  have g3 := (hb.cell (p := ⟨w.heap.size, 2, none⟩) hL.out).trans f3
  have g4 := (hb.cell (p := ⟨w.heap.size, 3, none⟩) hL.out).trans f4
  have g5 := (hb.cell (p := ⟨w.heap.size, 4, none⟩) hL.out).trans f5
  have H1 := Lib.hid (H.out.below hb)
  have hB := Lib.hid (hB0.out.trans (hb.mono hB0.out.size))
  clear hb f1 f2 f3 f4 f5
  cases hm : mayS s with
  | true =>
    have hc := Lib.hid (chkS_ok hm)
    have hw := Lib.hid (show wrS s = blkS s by simp [wrS, hm])
    have hl := Lib.hid (blkS_length hm)
    replace hm := Lib.hid hm
    go_wp2_with fail
    with_reducible refine (refBlock_any _ s _ H1.out hm.out).mono ?_
    rintro e4 w4 ⟨v4, rfl, o4, hb4⟩
    have BF := Lib.hid (hB.out.trans (hb4.mono hB.out.size))
    rw [← hl.out] at o4
    have O4 := Lib.hid (stab_by.mono (own_by o4) hB.out.size)
    clear o4 hb4
    go_wp2_with fail
    go_ret2
    exact ⟨_, ret_two hc.out.symm, by rw [hw.out]; exact O4.out, BF.out⟩
  | false =>
    have hc := Lib.hid (chkS_bad hm)
    have hw := Lib.hid (show wrS s = [] by simp [wrS, hm])
    replace hm := Lib.hid hm
    go_wp2_with fail
    go_ret2
    exact ⟨.slice none 0 0, ret_two hc.out.symm, by rw [hw.out]; exact rBy_nil_new _ _, hB.out⟩
end Go.Proofs.Ytdcgcnnofjekaaa

/-
  slices.Grow of nil, slices.Concat, at bytes. Conditions: those that each lemma states.
-/
namespace Go.Proofs.Ytdcgcnnofjekaaa
open Go.RowKit

/-- The walk at an 'append' of whatever second argument, of which it is known what it comes to. -/
theorem wpList_append_run2 {P : Program} {w : World} {ops : Array Oper} {rest : List Oper} {o : Oper} {a : Act} {Q : Exit → Act → World → Prop} (hgd : o.guard = none) (s x : Operand) (t tn : TypeId)
    (ho : o.op = .call { callee := .builtin .append, args := #[s, x], argTypes := #[t, tn] }) {v u v' : Value} {w' : World} (hs : a.eval s = v) (hx : a.eval x = u)
    (hrun : (Builtin.append_ #[t, tn] o.type #[v, u]).run P w = .ok v' w') (h : wpList P ops Q rest (a.put o.dst v') w') : wpList P ops Q (o :: rest) a w :=
  wpList_plain hgd fun _ hK => by
    unfold Oper.wp execOp
    simp only [ho, resolve, invoke, builtin, Sem.run_bind, Sem.run_pure, Result.andThen_ok, List.map_toArray, List.map_cons, List.map_nil, hs, hx, hrun]
    exact hK _ _ h

set_option maxRecDepth 100000 in
theorem grow_nil (n : Nat) (hn : n ≤ 1000000) (w : World) :
    Calls Try.prog 70 #[.slice none 0 0, .int .i64 n] w fun e w' => ∃ u, e = .returned u ∧ w'.ownsRow w.heap.size 5 1 u 0 [] ∧ Below w.heap.size w w' := by
  rcases Nat.eq_zero_or_pos n with h0 | h0
  · subst h0
    go_enter Try.func70, Try.ntmps70
    go_wp2
    go_ret
    exact ⟨_, rfl, World.ownsRow_nil _ _ _ _, Below.refl _ _⟩
  · obtain ⟨i0, hi, hz0, hz1, hz2⟩ := info_parts u8_info0
    have hr := Go.Lib.run_append_grow_zeros (P := Try.prog) w 40 3 40 5 i0 (.int .u8 0) .i64 .i64 Try.underlying40 Try.underlying3 hi hz0 none 0 0 [] (run_firstCells_none w.drew i0.size 0 0 0) n h0 (by omega) (by omega) (by omega) (by rw [hz2]; omega) (by rw [hz2, Nat.zero_add, nextslicecap_zero (by omega)]; omega)
    rw [Nat.zero_add] at hr
    have hge := grownCap_ge w n 0 5
    have hle := grownCap_le_maxLen w n 0 5 (by unfold maxLen; omega)
    generalize grownCap w n 0 5 = gc at hr hge hle
    have hsz : (([] : List Value).toArray ++ Builtin.zeroCells (Value.int .u8 0).cells n ++ Builtin.zeroCells (Value.int .u8 0).cells (gc - n)).size = gc * 1 := by
      simp only [Array.size_append, size_zeroCells]
      simp [Value.cells]
      omega
    generalize ([] : List Value).toArray ++ Builtin.zeroCells (Value.int .u8 0).cells n ++ Builtin.zeroCells (Value.int .u8 0).cells (gc - n) = cur at hr hsz
    have hown : (w.drew.alloc (.cells cur 5)).ownsRow w.heap.size 5 1 (.slice (some ⟨w.heap.size, 0, none⟩) 0 gc) 0 [] :=
      ⟨rfl, .inr ⟨w.heap.size, gc, cur, rfl, Nat.le_refl _, heap_alloc_new w.drew _, by omega, hle, hsz, by simp⟩⟩
    have hB : Below w.heap.size w (w.drew.alloc (.cells cur 5)) := (Below.refl w.heap.size w).drew.alloc (Nat.le_refl _) _
    unfold maxLen at hle
    generalize w.drew.alloc (.cells cur 5) = w9 at hr hown hB
    have H := Lib.hid hr
    replace hown := Lib.hid hown
    have h1 : ¬ ((n : Int) < 0) := by omega
    have h2 : (n : Int) > 0 := by omega
    clear hsz hr
    go_enter Try.func70, Try.ntmps70
    go_wp2_with (at_builtin; refine wpList_append_run2 rfl _ _ _ _ rfl rfl rfl H.out ?_; clear H)
    go_ret
    exact ⟨_, rfl, hown.out, hB⟩

/-- How many bytes the first ones have. -/
def lens (xss : List (List UInt8)) : Nat := xss.flatten.length
theorem lens_snoc {xss : List (List UInt8)} {k : Nat} {x : List UInt8} (h : xss[k]? = some x) : lens (xss.take (k + 1)) = lens (xss.take k) + x.length := by
  simp [lens, List.take_add_one, h]
theorem flat_snoc {xss : List (List UInt8)} {k : Nat} {x : List UInt8} (h : xss[k]? = some x) : (xss.take (k + 1)).flatten = (xss.take k).flatten ++ x := by
  simp [List.take_add_one, h]
theorem lens_le {xss : List (List UInt8)} (k : Nat) : lens (xss.take k) ≤ lens xss := by
  have h : lens xss = lens (xss.take k) + lens (xss.drop k) := by
    unfold lens
    rw [← List.length_append, ← List.flatten_append, List.take_append_drop]
  omega

set_option maxRecDepth 100000 in
set_option maxHeartbeats 2000000 in
theorem concat_any (v : Value) (xss : List (List UInt8)) (w : World) (hbig : lens xss ≤ 1000000) (h : rSl 1 rBy (Old w) w [v] xss) :
    Calls Try.prog 42 #[v] w fun e w' => ∃ u, e = .returned u ∧ w'.ownsRow w.heap.size 5 1 u (lens xss) (u8s xss.flatten) ∧ Below w.heap.size w w' := by
  obtain ⟨A, c, e1, l1, m1, hA⟩ := rows_open h
  cases e1
  have HA := Lib.hid hA
  clear hA h
  obtain ⟨n, hn⟩ : ∃ n, xss.length = n := ⟨_, rfl⟩
  rw [hn] at l1 ⊢
  replace hn := Lib.hid hn
  obtain ⟨m, hm⟩ : ∃ m, lens xss = m := ⟨_, rfl⟩
  rw [hm] at hbig ⊢
  have hle := Lib.hid (fun k => (hm ▸ lens_le k : lens (xss.take k) ≤ m))
  replace hm := Lib.hid hm
  go_enter Try.func42, Try.ntmps42
  go_wp2_with fail
  go_loop [3, 11] (fun s i => ∃ k : Nat, k ≤ n ∧ i = .int .i64 k ∧ s = .int .i64 (lens (xss.take k))) (fun _ i => n - (intOf i).toNat)
  case atStart => exact ⟨0, by omega, rfl, rfl⟩
  case round =>
    obtain ⟨k, hk, rfl, rfl⟩ := hrel
    have hlk := hle.out k
    by_cases hlt : k < n
    · obtain ⟨x, hx⟩ : ∃ x, xss[k]? = some x := ⟨_, List.getElem?_eq_getElem (by rw [hn.out]; exact hlt)⟩
      obtain ⟨ad, u, rfl, hok, hc, hby⟩ := HA.out k x hx
      have hs := Lib.hid (lens_snoc hx)
      have hlk2 := hle.out (k + 1)
      rw [hs.out] at hlk2
      obtain ⟨E, ce, rfl, _⟩ := id (rBy_open hby)
      generalize lens (xss.take k) = q at *
      replace hx := Lib.hid hx
      have h3 : ¬ ((q : Int) + (x.length : Int) < 0) := by omega
      clear hby
      go_wp2_with fail
      go_round
      case rel => exact ⟨k + 1, by omega, by go_num, by rw [hs.out]; go_num⟩
      case measure => simp [intOf]; omega
    · have hge : n ≤ k := by omega
      have htk := Lib.hid (show lens (xss.take k) = m by rw [List.take_of_length_le (by rw [hn.out]; exact hge)]; exact hm.out)
      rw [htk.out] at hlk ⊢
      go_wp2_with fail
      with_reducible refine (grow_nil m hbig _).mono ?_
      rintro e2 w2 ⟨u, rfl, ho, hb2⟩
      replace ho := Lib.hid ho
      replace hb2 := Lib.hid hb2
      clear hlk htk
      go_wp2_with fail
      go_loopw [6, 27] (fun u i wr => ∃ k : Nat, k ≤ n ∧ i = .int .i64 k ∧ wr.ownsRow w.heap.size 5 1 u (lens (xss.take k)) (u8s (xss.take k).flatten) ∧ Below w.heap.size w wr) (fun _ i _ => n - (intOf i).toNat)
      case atStart => exact ⟨0, by omega, rfl, ho.out, hb2.out⟩
      case round =>
        clear hge hk hlt ho hb2
        obtain ⟨j, hk, rfl, hown, hB⟩ := hrel
        have hlk := hle.out j
        by_cases hlt : j < n
        · obtain ⟨x, hx⟩ : ∃ x, xss[j]? = some x := ⟨_, List.getElem?_eq_getElem (by rw [hn.out]; exact hlt)⟩
          obtain ⟨ad, u, rfl, hok, hc, hby⟩ := HA.out j x hx
          have hc' := (hB.cell hok).trans hc
          have hs := Lib.hid (lens_snoc hx)
          have hf := Lib.hid (flat_snoc hx)
          have hlk2 := hle.out (j + 1)
          rw [hs.out] at hlk2
          obtain ⟨E, ce, rfl, _, _, hy⟩ := rBy_byt (B := wr.heap.size) (fun p hp => hp) (stab_by.old hby hB)
          obtain ⟨v3, w3, hr3, o3, ba3⟩ := app_own_byt _ (lens (xss.take j)) x.length ce _ _ E w.heap.size wr hown hy rfl (by omega) hB.size
          have B3 := Lib.hid (hB.trans ba3)
          have H3 := Lib.hid hr3
          replace o3 := Lib.hid o3
          clear hr3 ba3 hy hby hc hown hB
          replace hx := Lib.hid hx
          go_wp2_with (at_builtin; refine wpList_append_run rfl _ _ _ rfl rfl rfl H3.out ?_; clear H3)
          go_roundw
          case rel => exact ⟨j + 1, by omega, by go_num, by rw [hs.out, hf.out]; exact o3.out, B3.out⟩
          case measure => simp [intOf]; omega
        · have hge : n ≤ j := by omega
          have htk : xss.take j = xss := List.take_of_length_le (by rw [hn.out]; exact hge)
          rw [htk, hm.out] at hown
          replace hown := Lib.hid hown
          have B := Lib.hid hB
          clear hB htk
          go_wp2_with fail
          go_ret
          exact ⟨_, rfl, hown.out, B.out⟩
end Go.Proofs.Ytdcgcnnofjekaaa

/-
  Layer 2: the contracts for every argument. Conditions: those that each lemma states.
-/
namespace Go.Proofs.Ytdcgcnnofjekaaa
open Go.RowKit

/-- What Seal and Open answer. -/
def sb (xs : List UInt8) : List UInt8 := if xs.length ≤ 124 then sealN xs else []
def se (n : Nat) : Int := if n ≤ 124 then 0 else 3
open Classical in
noncomputable def ob (xs : List UInt8) : List UInt8 := if xs.length = 128 ∧ fits xs then xs.drop 4 else []
open Classical in
noncomputable def oe (xs : List UInt8) : Int := if xs.length = 128 then (if fits xs then 0 else 8) else 3

theorem seal_any (A : Option Addr) (len cap : Nat) (xs : List UInt8) (hlen : Hid (xs.length = len)) (hlc : len ≤ cap) (hcap : cap ≤ 9223372036854775807) (w : World) (hx : Byt w w.heap.size A xs) :
    Calls Try.prog 44 #[.slice A len cap] w fun e w' => ∃ v, e = .returned (.tuple #[v, .int .i64 (se len)]) ∧ w'.ownsRow w.heap.size 5 1 v (sb xs).length (u8s (sb xs)) ∧ Below w.heap.size w w' := by
  by_cases h : len ≤ 124
  · have h1 : se len = 0 := if_pos h
    have h2 : sb xs = sealN xs := if_pos (by rw [hlen.out]; exact h)
    rw [h1, h2]
    refine (seal_ok A len cap xs hlen h hlc hcap w hx).mono ?_
    rintro e w' ⟨rfl, hR, hb⟩
    have hl := sealN_length (xs := xs) (by rw [hlen.out]; exact h)
    have := hR.own (Nat.le_refl _) (by omega)
    exact ⟨_, rfl, by rwa [hl] at this ⊢, hb⟩
  · have h1 : se len = 3 := if_neg h
    have h2 : sb xs = [] := if_neg (by rw [hlen.out]; exact h)
    rw [h1, h2]
    refine (seal_no A len cap (by omega) w).mono ?_
    rintro e w' ⟨rfl, rfl⟩
    exact ⟨_, rfl, World.ownsRow_nil _ _ _ _, Below.refl _ _⟩
theorem open_any (A : Option Addr) (len cap : Nat) (xs : List UInt8) (hlen : Hid (xs.length = len)) (hlc : len ≤ cap) (hcap : cap ≤ 9223372036854775807) (w : World) (hx : Byt w w.heap.size A xs) :
    Calls Try.prog 37 #[.slice A len cap] w fun e w' => ∃ v, e = .returned (.tuple #[v, .int .i64 (oe xs)]) ∧ w'.ownsRow w.heap.size 5 1 v (ob xs).length (u8s (ob xs)) ∧ Below w.heap.size w w' := by
  by_cases h : len = 128
  · subst h
    obtain ⟨ad, rfl, _, _⟩ := hx (by rw [hlen.out]; omega)
    by_cases hf : fits xs
    · have h1 : oe xs = 0 := by unfold oe; rw [if_pos hlen.out, if_pos hf]
      have h2 : ob xs = xs.drop 4 := by unfold ob; rw [if_pos ⟨hlen.out, hf⟩]
      rw [h1, h2, show (xs.drop 4).length = 124 by simp [hlen.out]]
      exact open_ok ad cap xs hlen hlc hcap w hx hf
    · have h1 : oe xs = 8 := by unfold oe; rw [if_pos hlen.out, if_neg hf]
      have h2 : ob xs = [] := by unfold ob; rw [if_neg (fun h => hf h.2)]
      rw [h1, h2]
      refine (open_bad ad cap xs hlen hlc hcap w hx hf).mono ?_
      rintro e w' ⟨rfl, hb⟩
      exact ⟨_, rfl, World.ownsRow_nil _ _ _ _, hb⟩
  · have h1 : oe xs = 3 := by unfold oe; rw [if_neg (by rw [hlen.out]; exact h)]
    have h2 : ob xs = [] := by unfold ob; rw [if_neg (fun h' => h (by rw [← hlen.out]; exact h'.1))]
    rw [h1, h2]
    refine (open_no A len cap h w).mono ?_
    rintro e w' ⟨rfl, rfl⟩
    exact ⟨_, rfl, World.ownsRow_nil _ _ _ _, Below.refl _ _⟩
theorem openRef_any (A : Option Addr) (len cap : Nat) (xs : List UInt8) (hlen : Hid (xs.length = len)) (hlc : len ≤ cap) (hcap : cap ≤ 9223372036854775807) (w : World) (hx : Byt w w.heap.size A xs) :
    Calls Try.prog 47 #[.slice A len cap] w fun e w' => ∃ v, e = .returned (.tuple #[v, .int .i64 (oe xs)]) ∧ w'.ownsRow w.heap.size 5 1 v (ob xs).length (u8s (ob xs)) ∧ Below w.heap.size w w' := by
  by_cases h : len = 128
  · subst h
    obtain ⟨ad, rfl, _, _⟩ := hx (by rw [hlen.out]; omega)
    by_cases hf : fits xs
    · have h1 : oe xs = 0 := by unfold oe; rw [if_pos hlen.out, if_pos hf]
      have h2 : ob xs = xs.drop 4 := by unfold ob; rw [if_pos ⟨hlen.out, hf⟩]
      rw [h1, h2, show (xs.drop 4).length = 124 by simp [hlen.out]]
      exact openRef_ok ad cap xs hlen hlc hcap w hx hf
    · have h1 : oe xs = 8 := by unfold oe; rw [if_pos hlen.out, if_neg hf]
      have h2 : ob xs = [] := by unfold ob; rw [if_neg (fun h => hf h.2)]
      rw [h1, h2]
      refine (openRef_bad ad cap xs hlen hlc hcap w hx hf).mono ?_
      rintro e w' ⟨rfl, hb⟩
      exact ⟨_, rfl, World.ownsRow_nil _ _ _ _, hb⟩
  · have h1 : oe xs = 3 := by unfold oe; rw [if_neg (by rw [hlen.out]; exact h)]
    have h2 : ob xs = [] := by unfold ob; rw [if_neg (fun h' => h (by rw [← hlen.out]; exact h'.1))]
    rw [h1, h2]
    refine (openRef_no A len cap h w).mono ?_
    rintro e w' ⟨rfl, rfl⟩
    exact ⟨_, rfl, World.ownsRow_nil _ _ _ _, Below.refl _ _⟩
end Go.Proofs.Ytdcgcnnofjekaaa
