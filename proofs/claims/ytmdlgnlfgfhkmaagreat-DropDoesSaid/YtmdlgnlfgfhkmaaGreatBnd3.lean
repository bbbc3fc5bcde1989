/-
  Lemmas on the program and on the document's answers, gathered: SumSeal, Ref01, Ref02, RefBlk, Concat, Total02, RingWrite, RingRead, RingRead2, RingRead3, RefRead4, Bag04, Item, ItLess, ItCheck, ItSame, RefIt, ItWrite, ItRead, RefItRead, Alive05, Bag05, Node, NdCut, NdCut2, NdCheck, NdWrite, NdRead. Conditions: those that each lemma states.
-/
import Derived.Test.YtmdlgnlfgfhkmaaGreatBnd2
import Derived.Lib.AppendZerosOnto
import Derived.Deep.QuietTactic
import Derived.BigQuiet
import Derived.Deep.CutBlock
import Derived.Deep.CutRange
/-
  Package sum: Seal, Open. Conditions: those that each lemma states.
-/
namespace Go.Proofs.YtmdlgnlfgfhkmaaGreat
open Go.RowKit

/-- Bytes, and noughts behind, 124 in all; these sealed. -/
def padN (xs : List UInt8) : List UInt8 := xs ++ zeros (124 - xs.length)
def sealN (xs : List UInt8) : List UInt8 := le 4 (crc (padN xs) : Nat) ++ padN xs
theorem padN_length {xs : List UInt8} (h : xs.length ≤ 124) : (padN xs).length = 124 := by simp [padN, zeros]; omega
theorem sealN_length {xs : List UInt8} (h : xs.length ≤ 124) : (sealN xs).length = 128 := by simp [sealN, le_length, padN_length h]
theorem splice_pad {xs : List UInt8} (h : xs.length ≤ 124) : splice (zeros 128) 4 xs = zeros 4 ++ padN xs := by
  simp only [splice, zeros, padN, List.take_replicate, List.drop_replicate]
  rw [show min 4 128 = 4 from rfl, show 128 - (4 + xs.length) = 124 - xs.length by omega]
theorem splice_seal (ys zs : List UInt8) (h : ys.length = 4) : splice (zeros 4 ++ zs) 0 ys = ys ++ zs := by
  simp only [splice, List.take_zero, List.nil_append, Nat.zero_add, h]
  rw [List.drop_left' (by simp [zeros])]

set_option maxRecDepth 100000 in
theorem seal_no (A : Option Addr) (len cap : Nat) (hl : 124 < len) (w : World) :
    Calls Tryz.prog 34 #[.slice A len cap] w fun e w' => e = .returned (.tuple #[.slice none 0 0, .int .i64 3]) ∧ w = w' := by
  go_enter Tryz.func34, Tryz.ntmps34
  go_wp2
  go_ret2
  exact ⟨rfl, rfl⟩
set_option maxRecDepth 100000 in
theorem seal_ok (A : Option Addr) (len cap : Nat) (xs : List UInt8) (hlen : Hid (xs.length = len)) (hl : len ≤ 124) (_ : len ≤ cap) (_ : cap ≤ 9223372036854775807) (w : World) (hx : Byt w w.heap.size A xs) :
    Calls Tryz.prog 34 #[.slice A len cap] w fun e w' => e = .returned (.tuple #[.slice (some ⟨w.heap.size, 0, none⟩) 128 128, .int .i64 0]) ∧ Row w' w.heap.size (sealN xs) ∧ Below w.heap.size w w' := by
  have hmk : (Instr.makeSlice 26 (.int .i64 128) (.int .i64 128)).run Tryz.prog w = .ok (.slice (some ⟨w.heap.size, 0, none⟩) 128 128) (w.alloc (.cells (rowA (zeros 128)) 5)) := make_bytes 128 (by omega) w
  have hB1 := balloc (Below.refl w.heap.size w) (.cells (rowA (zeros 128)) 5)
  obtain ⟨w2, hc2, hR2, hB2⟩ := copy_byt 3 (off := 4) (dLen := 124) (dCap := 124) (sLen := len) (sCap := cap) (Row.new w (zeros 128)) (hx.below hB1) hlen.out (by simp [zeros]; omega)
  rw [Nat.min_eq_left hl, List.take_of_length_le (by rw [hlen.out]; omega), splice_pad (by rw [hlen.out]; omega)] at hR2
  rw [Nat.min_eq_left hl] at hc2
  have hp := hR2.tail 4 (by simp [zeros])
  rw [List.drop_left' (by simp [zeros])] at hp
  have hB := hB1.trans hB2
  have hpl : Hid ((padN xs).length = 124) := Lib.hid (padN_length (by rw [hlen.out]; omega))
  have HR2 := Lib.hid hR2
  clear hR2 hx hB1 hB2
  go_enter Tryz.func34, Tryz.ntmps34
  go_wp2_with fail
  refine (of_any _ _ 124 _ hpl (by omega) (by omega) _ hp).mono ?_
  rintro e w3 ⟨rfl, hb3⟩
  go_wp2_with fail
  refine (four_any _ (by omega) (by have := crc_lt (padN xs); omega) _).mono ?_
  rintro e w4 ⟨F, rfl, hf, hb4⟩
  have hb24 := bstep hb3 hb4
  obtain ⟨w5, hc5, hR5, hB5⟩ := copy_byt 3 (off := 0) (dLen := 128) (dCap := 128) (sLen := 4) (sCap := 4) (HR2.out.after hb24) hf (le_length 4 _) (by simp [zeros])
  rw [show min 4 128 = 4 from rfl] at hc5 hR5
  rw [List.take_of_length_le (by rw [le_length]; omega), splice_seal _ _ (le_length 4 _)] at hR5
  have hBe := (hB.trans (hb24.mono hB.size)).trans hB5
  have HR5 : Hid (Row w5 w.heap.size (sealN xs)) := Lib.hid hR5
  clear hR5 HR2 hp hb3 hb4 hb24 hB hB5 hf hmk hc2
  go_wp2_with fail
  go_ret2
  exact ⟨rfl, HR5.out, hBe⟩

set_option maxRecDepth 100000 in
theorem open_no (A : Option Addr) (len cap : Nat) (hl : len ≠ 128) (w : World) :
    Calls Tryz.prog 98 #[.slice A len cap] w fun e w' => e = .returned (.tuple #[.slice none 0 0, .int .i64 3]) ∧ w = w' := by
  go_enter Tryz.func98, Tryz.ntmps98
  go_wp2
  go_ret2
  exact ⟨rfl, rfl⟩
def fits (xs : List UInt8) : Prop := num (xs.take 4) = (crc (xs.drop 4) : Nat)
set_option maxRecDepth 100000 in
theorem open_bad (ad : Addr) (cap : Nat) (xs : List UInt8) (hlen : Hid (xs.length = 128)) (hlc : 128 ≤ cap) (hcap : cap ≤ 9223372036854775807) (w : World) (hx : Byt w w.heap.size (some ad) xs) (hn : ¬ fits xs) :
    Calls Tryz.prog 98 #[.slice (some ad) 128 cap] w fun e w' => e = .returned (.tuple #[.slice none 0 0, .int .i64 8]) ∧ Below w.heap.size w w' := by
  have hp : Byt w w.heap.size (some (ad.add 4)) (xs.drop 4) := by
    obtain ⟨ad', e, hp⟩ := hx.part (k := 4) (n := 124) (by rw [hlen.out]; omega) (by omega)
    cases e
    rwa [List.take_of_length_le (by simp [hlen.out])] at hp
  have hpl : Hid ((xs.drop 4).length = 124) := Lib.hid (by simp [hlen.out])
  have hb := crc_lt (xs.drop 4)
  have hd : ((num (xs.take 4) : Int) == (crc (xs.drop 4) : Nat)) = false := by simpa [fits] using hn
  have hd' : ((num (xs.take 4) : Int) != (crc (xs.drop 4) : Nat)) = true := by simpa [fits] using hn
  have HD := Lib.hid hd
  have HD' := Lib.hid hd'
  clear hn hd hd'
  go_enter Tryz.func98, Tryz.ntmps98
  go_wp2_with fail
  refine (getFour_ok _ _ cap 0 xs hlen (by omega) (by omega) (by omega) _ hx).mono ?_
  rintro e w1 ⟨rfl, hb1⟩
  rw [List.drop_zero]
  have hp1 := (hp.below hb1).more hb1.size
  go_wp2_with fail
  refine (of_any _ _ _ _ hpl (by omega) (by omega) _ hp1).mono ?_
  rintro e w2 ⟨rfl, hb2⟩
  generalize num (xs.take 4) = q at *
  generalize crc (xs.drop 4) = r at *
  have hd := HD.out
  have hd' := HD'.out
  go_wp2_with fail
  go_ret2
  exact ⟨rfl, bstep hb1 hb2⟩
theorem own_base {w : World} {B B' : Nat} {e : TypeId} {v : Value} {n : Nat} {xs : List Value} (h : w.ownsRow B e 1 v n xs) (hb : B' ≤ B) : w.ownsRow B' e 1 v n xs := by
  refine ⟨h.1, h.2.imp id ?_⟩
  rintro ⟨g, cap, cur, h1, h2, h3⟩
  exact ⟨g, cap, cur, h1, Nat.le_trans hb h2, h3⟩
set_option maxRecDepth 100000 in
theorem open_ok (ad : Addr) (cap : Nat) (xs : List UInt8) (hlen : Hid (xs.length = 128)) (hlc : 128 ≤ cap) (hcap : cap ≤ 9223372036854775807) (w : World) (hx : Byt w w.heap.size (some ad) xs) (hn : fits xs) :
    Calls Tryz.prog 98 #[.slice (some ad) 128 cap] w fun e w' => ∃ v, e = .returned (.tuple #[v, .int .i64 0]) ∧ w'.ownsRow w.heap.size 5 1 v 124 (u8s (xs.drop 4)) ∧ Below w.heap.size w w' := by
  have hp : Byt w w.heap.size (some (ad.add 4)) (xs.drop 4) := by
    obtain ⟨ad', e, hp⟩ := hx.part (k := 4) (n := 124) (by rw [hlen.out]; omega) (by omega)
    cases e
    rwa [List.take_of_length_le (by simp [hlen.out])] at hp
  have hpl : Hid ((xs.drop 4).length = 124) := Lib.hid (by simp [hlen.out])
  have hb := crc_lt (xs.drop 4)
  have HN : Hid (num (xs.take 4) = (crc (xs.drop 4) : Nat)) := Lib.hid hn
  clear hn
  go_enter Tryz.func98, Tryz.ntmps98
  go_wp2_with fail
  refine (getFour_ok _ _ cap 0 xs hlen (by omega) (by omega) (by omega) _ hx).mono ?_
  rintro e w1 ⟨rfl, hb1⟩
  rw [List.drop_zero, HN.out]
  have hp1 := (hp.below hb1).more hb1.size
  go_wp2_with fail
  refine (of_any _ _ _ _ hpl (by omega) (by omega) _ hp1).mono ?_
  rintro e w2 ⟨rfl, hb2⟩
  generalize crc (xs.drop 4) = r at *
  have hp2 := (hp1.below hb2).more hb2.size
  go_wp2_with fail
  refine (clone_some _ _ _ _ hpl (by omega) _ hp2).mono ?_
  rintro e w3 ⟨v, rfl, hown, _, hb3⟩
  have hB := bstep (bstep hb1 hb2) hb3
  have hsz := Nat.le_trans hb1.size hb2.size
  have HO := Lib.hid (own_base hown hsz)
  clear hown hp hp1 hp2 hx hb1 hb2 hb3 hsz
  go_wp2_with fail
  go_ret2
  exact ⟨v, rfl, HO.out, hB⟩
theorem fits_seal (xs : List UInt8) : fits (sealN xs) := by
  unfold fits sealN
  rw [List.take_left' (le_length 4 _), List.drop_left' (le_length 4 _)]
  exact num_le 4 _ (by omega) (by have := crc_lt (padN xs); simp; omega)
theorem seal_drop (xs : List UInt8) : (sealN xs).drop 4 = padN xs := by
  unfold sealN
  rw [List.drop_left' (le_length 4 _)]
theorem padN_full {xs : List UInt8} (h : xs.length = 124) : padN xs = xs := by simp [padN, zeros, h]
theorem seal_back {xs : List UInt8} (h : xs.length = 128) (hf : fits xs) : sealN (xs.drop 4) = xs := by
  unfold fits at hf
  unfold sealN
  have e := le_num (xs.take 4)
  rw [show (xs.take 4).length = 4 by simp [h]] at e
  rw [padN_full (by simp [h]), ← hf, e]
  exact List.take_append_drop 4 xs
end Go.Proofs.YtmdlgnlfgfhkmaaGreat

/-
  The document's answers of layer 1: the contracts of package scionryref01. Conditions: those that each lemma states.
-/
namespace Go.Proofs.YtmdlgnlfgfhkmaaGreat
open Go.RowKit

theorem u8_info : (Tryz.prog.info? 5).map (fun i => (i.zero, i.size, i.bytes)) = some (some (.int .u8 0), 1, 1) := by kernel_rfl

set_option maxHeartbeats 800000 in
theorem bytes_own (n : Int) (m : Nat) (h0 : 0 ≤ n) (h1 : n ≤ 9223372036854775807) (hm : m ≤ 1000) (w : World) :
    Calls Tryz.prog 87 #[.int .i64 n, .int .i64 m] w fun e w' => ∃ v, e = .returned v ∧ w'.ownsRow w.heap.size 5 1 v m (u8s (le m n)) ∧ Below w.heap.size w w' := by
  obtain ⟨i0, hi, hz0, hz1, hz2⟩ := info_parts u8_info
  go_enter Tryz.func87, Tryz.ntmps87
  go_wp2
  go_loopw [0, 5, 6] (fun t v i wr => ∃ k : Nat, k ≤ m ∧ i = .int .i64 k ∧ t = .int .i64 (n / 256 ^ k) ∧ wr.ownsRow w.heap.size 5 1 v k ((le k n).map fun x => Value.int .u8 (x.toNat : Int)) ∧ Below w.heap.size w wr)
    (fun _ _ i _ => m - (intOf i).toNat)
  case atStart => exact ⟨0, Nat.zero_le _, rfl, by simp, World.ownsRow_nil _ _ _ _, Below.refl _ _⟩
  case round =>
    obtain ⟨k, hk, rfl, rfl, hown, hB⟩ := hrel
    have d0 := div_pow_nonneg n k h0
    have d1 := div_pow_le n k h0
    have hd := Lib.hid (div_pow_succ n k)
    have hs := Lib.hid (le_snoc k n)
    have hb := Lib.hid (byte_toNat (n / 256 ^ k))
    generalize n / 256 ^ k = q at *
    by_cases hlt : k < m
    · go_wp2_with (at_builtin; refine wpList_append_own _ rfl _ _ 26 rfl w.heap.size 5 i0 (.int .u8 0) 1 1 Tryz.underlying26 hi hz0 hz1 hz2 rfl (by decide) _ _ _ rfl (hown.alloc _) ⟨wr.heap.size, 0, none⟩ 1 1 [.int .u8 (q % 256)] rfl rfl ?c1 ?c2 ?c3 ?c4 ?c5 ?_)
      case c1 =>
        intro j u hj
        match j, hj with
        | 0, hj => simp at hj; subst hj; simp [Addr.add]
      case c2 => intro u hu; simp at hu; subst hu; rfl
      case c3 => unfold maxLen; omega
      case c4 => omega
      case c5 => have := hB.size; simp; omega
      intro v' w1 hown' hgrow _
      have hB1 : Below w.heap.size w w1 := (balloc hB _).grown hgrow (balloc hB _).size (fun r e => by have := hown.lt r e; omega)
      rw [show (le k n).map (fun x => Value.int .u8 (x.toNat : Int)) ++ [.int .u8 (q % 256)] = (le (k + 1) n).map (fun x => Value.int .u8 (x.toNat : Int)) by rw [hs.out, List.map_append, List.map_cons, List.map_nil, hb.out]] at hown'
      clear hgrow hown
      go_wp2
      go_roundw
      case rel => exact ⟨k + 1, by omega, by go_num, by rw [hd.out], hown', hB1⟩
      case measure => simp [intOf]; omega
    · obtain rfl : k = m := by omega
      go_wp2
      go_ret
      exact ⟨_, rfl, hown, hB⟩
theorem bytes_ref (n : Int) (m : Nat) (h0 : 0 ≤ n) (h1 : n ≤ 9223372036854775807) (hm : m ≤ 1000) (w : World) :
    Calls Tryz.prog 87 #[.int .i64 n, .int .i64 m] w fun e w' => ∃ A cap, e = .returned (.slice A m cap) ∧ Byt w' w'.heap.size A (le m n) ∧ Below w.heap.size w w' := by
  refine (bytes_own n m h0 h1 hm w).mono ?_
  rintro e w' ⟨v, rfl, hown, hB⟩
  obtain ⟨A, cap, rfl, _, _, hy⟩ := own_byt hown
  exact ⟨A, cap, rfl, hy, hB⟩

theorem num_ref_nil (A : Option Addr) (cap : Nat) (w : World) :
    Calls Tryz.prog 109 #[.slice A 0 cap] w fun e w' => e = .returned (.int .i64 0) ∧ w = w' := by
  go_enter Tryz.func109, Tryz.ntmps109
  go_wp2
  refine wp_loop_rounds 1 ?_
  rw [rounds_succ]
  go_wp2
  go_ret
  exact ⟨rfl, rfl⟩

theorem num_drop (xs : List UInt8) (k : Nat) (h : k < xs.length) : num (xs.drop (xs.length - (k + 1))) = num (xs.drop (xs.length - k)) * 256 + ((xs[xs.length - 1 - k]?.getD 0).toNat : Int) := by
  have := val_back xs (k + 1) (by omega)
  rw [back_succ, val_snoc, val_back xs k (by omega)] at this
  exact this.symm
theorem num_small (xs : List UInt8) (h : xs.length ≤ 6) : 0 ≤ num xs ∧ num xs < 281474976710656 := by
  have hp : ∀ n : Nat, n ≤ 6 → (256 : Int) ^ n ≤ 281474976710656 := by decide
  exact ⟨num_nonneg _, Int.lt_of_lt_of_le (num_lt xs) (hp _ h)⟩

set_option maxHeartbeats 800000 in
theorem number_ref (A : Option Addr) (len cap : Nat) (xs : List UInt8) (hlen : Hid (xs.length = len)) (hm : len ≤ 7) (w : World) (hx : Byt w w.heap.size A xs) :
    Calls Tryz.prog 109 #[.slice A len cap] w fun e w' => e = .returned (.int .i64 (num xs)) ∧ w = w' := by
  obtain rfl := hlen.out
  rcases Nat.eq_zero_or_pos xs.length with h0 | h0
  · have hx0 : xs = [] := List.eq_nil_of_length_eq_zero h0
    subst hx0
    exact num_ref_nil A cap w
  · obtain ⟨ad, rfl, _, hc⟩ := hx h0
    go_enter Tryz.func109, Tryz.ntmps109
    go_wp2
    go_loop [3, 4] (fun t i => ∃ k : Nat, k ≤ xs.length ∧ i = .int .i64 ((xs.length : Int) - 1 - k) ∧ t = .int .i64 (num (xs.drop (xs.length - k)))) (fun _ i => (intOf i + 1).toNat)
    case atStart => exact ⟨0, Nat.zero_le _, by simp, by simp [num]⟩
    case round =>
      obtain ⟨k, hk, rfl, rfl⟩ := hrel
      by_cases hlt : k < xs.length
      · obtain ⟨b0, b1⟩ := num_small (xs.drop (xs.length - k)) (by simp; omega)
        have hd := Lib.hid (num_drop xs k hlt)
        have hcx := hc (xs.length - 1 - k) (by omega)
        have hxb := (xs[xs.length - 1 - k]?.getD 0).toNat_lt
        have e1 : ((xs.length : Int) - 1 - k).toNat = xs.length - 1 - k := by omega
        generalize xs[xs.length - 1 - k]?.getD 0 = c at *
        generalize num (xs.drop (xs.length - k)) = q at *
        go_wp2
        go_round
        case rel => exact ⟨k + 1, by omega, by go_num, by rw [hd.out]⟩
        case measure => simp [intOf]; omega
      · obtain rfl : k = xs.length := by omega
        go_wp2
        go_ret
        simp

/-! ### The document's answers, as the code's -/
theorem four_ref (n : Int) (h0 : 0 ≤ n) (h1 : n < 4294967296) (w : World) :
    Calls Tryz.prog 77 #[.int .u32 n] w fun e w' => ∃ A cap, e = .returned (.slice A 4 cap) ∧ Byt w' w'.heap.size A (le 4 n) ∧ Below w.heap.size w w' := by
  go_enter Tryz.func77, Tryz.ntmps77
  go_wp2_with fail
  refine (bytes_ref n 4 h0 (by omega) (by omega) _).mono ?_
  rintro e w1 ⟨A, cap, rfl, hx, hb⟩
  go_wp2
  go_ret
  exact ⟨A, cap, rfl, hx, hb⟩

theorem four_own (n : Int) (h0 : 0 ≤ n) (h1 : n < 4294967296) (w : World) :
    Calls Tryz.prog 77 #[.int .u32 n] w fun e w' => ∃ v, e = .returned v ∧ w'.ownsRow w.heap.size 5 1 v 4 (u8s (le 4 n)) ∧ Below w.heap.size w w' := by
  go_enter Tryz.func77, Tryz.ntmps77
  go_wp2_with fail
  refine (bytes_own n 4 h0 (by omega) (by omega) _).mono ?_
  rintro e w1 ⟨v, rfl, hx, hb⟩
  go_wp2
  go_ret
  exact ⟨v, rfl, hx, hb⟩

theorem there_ref (A : Option Addr) (len cap : Nat) (k : Int) (m : Nat) (hm : m ≤ 4) (hl : len ≤ 9223372036854775807) (w : World) :
    Calls Tryz.prog 108 #[.slice A len cap, .int .i64 k, .int .i64 m] w fun e w' => e = .returned (.bool (decide (0 ≤ k ∧ k + m ≤ len))) ∧ w = w' := by
  rcases (by omega : k < 0 ∨ 0 ≤ k) with h | h
  · go_enter Tryz.func108, Tryz.ntmps108
    go_wp2
    go_ret
    exact ⟨by simp; omega, rfl⟩
  · rcases (by omega : k ≤ len ∨ (len : Int) < k) with h2 | h2
    · go_enter Tryz.func108, Tryz.ntmps108
      go_wp2
      go_ret
      exact ⟨ret_bool (by rw [decide_eq_decide]; omega), rfl⟩
    · go_enter Tryz.func108, Tryz.ntmps108
      go_wp2
      go_ret
      exact ⟨by simp; omega, rfl⟩

theorem getTwo_ref (A : Option Addr) (len cap : Nat) (k : Int) (xs : List UInt8) (hlen : Hid (xs.length = len)) (hlc : len ≤ cap) (hcap : cap ≤ 9223372036854775807) (w : World) (hx : Byt w w.heap.size A xs) :
    Calls Tryz.prog 102 #[.slice A len cap, .int .i64 k] w fun e w' => e = .returned (.tuple #[.int .i64 (gv 2 xs k), .int .i64 (ge 2 len k)]) ∧ w = w' := by
  obtain rfl := hlen.out
  by_cases h : 0 ≤ k ∧ k + (2 : Nat) ≤ xs.length
  · have hd : decide (0 ≤ k ∧ k + (2 : Nat) ≤ xs.length) = true := by simpa using h
    rw [ge_yes h, gv_yes h]
    obtain ⟨n, rfl⟩ := Int.eq_ofNat_of_zero_le h.1
    rw [Int.toNat_natCast]
    have hn : n + 2 ≤ xs.length := by omega
    obtain ⟨ad, rfl, hp⟩ := hx.part hn (by omega)
    have hHd := Lib.hid hd
    clear hd h
    go_enter Tryz.func102, Tryz.ntmps102
    go_wp2_with fail
    refine (there_ref _ _ cap n 2 (by omega) (by omega) _).mono ?_
    rintro e w1 ⟨rfl, rfl⟩
    rw [hHd.out]
    go_wp2_with fail
    refine (number_ref _ 2 _ _ (Lib.hid (by simp; omega)) (by omega) _ hp).mono ?_
    rintro e w1 ⟨rfl, rfl⟩
    go_wp2
    go_ret2
    exact ⟨rfl, rfl⟩
  · have hd : decide (0 ≤ k ∧ k + (2 : Nat) ≤ xs.length) = false := by simpa using h
    rw [ge_no h, gv_no h]
    have hHd := Lib.hid hd
    clear hd h
    go_enter Tryz.func102, Tryz.ntmps102
    go_wp2_with fail
    refine (there_ref _ _ cap k 2 (by omega) (by omega) _).mono ?_
    rintro e w1 ⟨rfl, rfl⟩
    rw [hHd.out]
    go_wp2
    go_ret2
    exact ⟨rfl, rfl⟩

theorem getFour_ref (A : Option Addr) (len cap : Nat) (k : Int) (xs : List UInt8) (hlen : Hid (xs.length = len)) (hlc : len ≤ cap) (hcap : cap ≤ 9223372036854775807) (w : World) (hx : Byt w w.heap.size A xs) :
    Calls Tryz.prog 101 #[.slice A len cap, .int .i64 k] w fun e w' => e = .returned (.tuple #[.int .u32 (gv 4 xs k), .int .i64 (ge 4 len k)]) ∧ w = w' := by
  obtain rfl := hlen.out
  by_cases h : 0 ≤ k ∧ k + (4 : Nat) ≤ xs.length
  · have hd : decide (0 ≤ k ∧ k + (4 : Nat) ≤ xs.length) = true := by simpa using h
    have hv := gv_bounds 4 xs k
    rw [gv_yes h] at hv
    rw [ge_yes h, gv_yes h]
    obtain ⟨n, rfl⟩ := Int.eq_ofNat_of_zero_le h.1
    rw [Int.toNat_natCast] at hv ⊢
    have hn : n + 4 ≤ xs.length := by omega
    obtain ⟨v0, v1⟩ := hv
    simp only [Int.reducePow] at v1
    obtain ⟨ad, rfl, hp⟩ := hx.part hn (by omega)
    have hHd := Lib.hid hd
    clear hd h
    go_enter Tryz.func101, Tryz.ntmps101
    go_wp2_with fail
    refine (there_ref _ _ cap n 4 (by omega) (by omega) _).mono ?_
    rintro e w1 ⟨rfl, rfl⟩
    rw [hHd.out]
    go_wp2_with fail
    refine (number_ref _ 4 _ _ (Lib.hid (by simp; omega)) (by omega) _ hp).mono ?_
    rintro e w1 ⟨rfl, rfl⟩
    go_wp2
    go_ret2
    exact ⟨rfl, rfl⟩
  · have hd : decide (0 ≤ k ∧ k + (4 : Nat) ≤ xs.length) = false := by simpa using h
    rw [ge_no h, gv_no h]
    have hHd := Lib.hid hd
    clear hd h
    go_enter Tryz.func101, Tryz.ntmps101
    go_wp2_with fail
    refine (there_ref _ _ cap k 4 (by omega) (by omega) _).mono ?_
    rintro e w1 ⟨rfl, rfl⟩
    rw [hHd.out]
    go_wp2
    go_ret2
    exact ⟨rfl, rfl⟩
end Go.Proofs.YtmdlgnlfgfhkmaaGreat

/-
  The document's answers of layer 2: the contracts of package scionryref02. Conditions: those that each lemma states.
-/
namespace Go.Proofs.YtmdlgnlfgfhkmaaGreat
open Go.RowKit

set_option maxHeartbeats 800000 in
theorem halved_any (s m : Nat) (h : s < 4294967296) (hm : m ≤ 1000) (w : World) :
    Calls Tryz.prog 88 #[.int .u32 s, .int .i64 m] w fun e w' => e = .returned (.int .u32 (halvesN m s)) ∧ w = w' := by
  go_enter Tryz.func88, Tryz.ntmps88
  go_wp2
  go_loop [0, 5] (fun t i => ∃ k : Nat, k ≤ m ∧ i = .int .i64 k ∧ t = .int .u32 (halvesN k s)) (fun _ i => m - (intOf i).toNat)
  case atStart => exact ⟨0, by omega, rfl, rfl⟩
  case round =>
    obtain ⟨k, hk, rfl, rfl⟩ := hrel
    have hq := halvesN_lt k h
    by_cases hlt : k < m
    · have hh := Lib.hid (halvesN_succ k s)
      generalize halvesN k s = q at *
      rcases (by omega : q % 2 = 1 ∨ q % 2 = 0) with h1 | h1
      · have e : Hid (halfN q = q / 2 ^^^ 3988292384) := Lib.hid (if_pos h1)
        have h1' : (q : Int) % 2 = 1 := by omega
        have hx := bxor (q / 2) 3988292384 ((q : Int) / 2) 3988292384 (by omega) (by omega) (by omega) (by omega)
        clear h1
        go_wp2
        go_round
        case rel => exact ⟨k + 1, by omega, by go_num, by rw [hh.out, e.out]⟩
        case measure => simp [intOf]; omega
      · have e : Hid (halfN q = q / 2) := Lib.hid (if_neg (by omega))
        have h1' : (q : Int) % 2 = 0 := by omega
        clear h1
        go_wp2
        go_round
        case rel => exact ⟨k + 1, by omega, by go_num, by rw [hh.out, e.out]; go_num⟩
        case measure => simp [intOf]; omega
    · obtain rfl : k = m := by omega
      go_wp2
      go_ret
      exact ⟨rfl, rfl⟩

set_option maxRecDepth 100000 in
set_option maxHeartbeats 1600000 in
theorem ofRef_ad (ad : Addr) (len cap : Nat) (xs : List UInt8) (hlen : Hid (xs.length = len)) (hlc : len ≤ cap) (hcap : cap ≤ 9223372036854775807) (w : World) (hbl : ad.block < w.heap.size) (hc : Hid (∀ j, j < len → w.cell? (ad.add j) = some (.int .u8 ((xs[j]?.getD 0).toNat : Int)))) :
    Calls Tryz.prog 78 #[.slice (some ad) len cap] w fun e w' => e = .returned (.int .u32 (crc xs : Nat)) ∧ Below w.heap.size w w' := by
  have h0 : #[Value.int .u32 0, .int .u32 0, .int .u32 0, .int .u32 0, .int .u32 0, .int .u32 0, .int .u32 0, .int .u32 0, .int .u32 0, .int .u32 0, .int .u32 0, .int .u32 0, .int .u32 0, .int .u32 0, .int .u32 0, .int .u32 0] = tabV 0 := by kernel_rfl
  have H0 := Lib.hid h0
  clear h0
  go_enter Tryz.func78, Tryz.ntmps78
  go_wp2
  rw [H0.out]
  go_loopw [4] (fun i wr => ∃ k : Nat, k ≤ 16 ∧ i = .int .i64 k ∧ wr.heap.size = w.heap.size + 1 ∧ wr.heap[w.heap.size]? = some (.cells (tabV k) 117 (0, 0)) ∧ Below w.heap.size w wr)
    (fun i _ => 16 - (intOf i).toNat)
  case atStart => exact ⟨0, by omega, rfl, by simp, heap_alloc_new w _, balloc (Below.refl _ _) _⟩
  case round =>
    obtain ⟨k, hk, rfl, hs, hT, hB⟩ := hrel
    by_cases hlt : k < 16
    · have hc : wr.cell? ⟨w.heap.size, k, none⟩ = some (.int .u32 0) := by rw [cell_of_row _ _ _ _ _ _ hT]; simp [tabV, hlt]
      have hf : wr.frozen? ⟨w.heap.size, k, none⟩ = false := frozen_of_row _ _ _ _ _ hT
      go_wp2_with (go_at_call 88; refine (halved_any k 4 (by omega) (by omega) _).mono ?_; rintro e w' ⟨rfl, rfl⟩)
      exact ⟨⟨k + 1, by omega, by go_num, by simpa using hs, (heap_setCell_same _ _ _ _ _ _ hT).trans (by rw [← tabV_set k hlt]; rfl), hB.setCell (by simp) _⟩, by simp [intOf]; omega⟩
    · obtain rfl : k = 16 := by omega
      have HT := Lib.hid hT
      clear hT hs
      go_wp2
      go_loop [5, 6] (fun s i => ∃ k : Nat, k ≤ len ∧ i = .int .i64 k ∧ s = .int .u32 (foldN 4294967295 (xs.take k) : Nat)) (fun _ i => len - (intOf i).toNat)
      case atStart => exact ⟨0, by omega, rfl, rfl⟩
      case round =>
        obtain ⟨k, hk, rfl, rfl⟩ := hrel
        have hq := foldN_lt (s := 4294967295) (xs.take k) (by omega)
        by_cases hlt : k < len
        · have hs := Lib.hid (take_succ_fold 4294967295 xs k (by rw [hlen.out]; exact hlt))
          have hcx := (hB.cell (p := ad.add k) (by rw [add_block]; exact hbl)).trans (hc.out k hlt)
          have hxb := (xs[k]?.getD 0).toNat_lt
          have hx1 := bxor (foldN 4294967295 (xs.take k)) (xs[k]?.getD 0).toNat _ _ rfl rfl hq (by omega)
          have hr1 := xor_lt32 hq (by omega : (xs[k]?.getD 0).toNat < 4294967296)
          generalize xs[k]?.getD 0 = c at *
          generalize foldN 4294967295 (xs.take k) = q at *
          generalize q ^^^ c.toNat = r1 at *
          have hc1 : wr.cell? ⟨w.heap.size, r1 % 16, none⟩ = some (.int .u32 (fourN (r1 % 16))) := by rw [cell_of_row _ _ _ _ _ _ HT.out]; exact tabV_get 16 _ (by omega) (by omega)
          have hx2 := bxor (r1 / 16) (fourN (r1 % 16)) ((r1 : Int) / 16) (fourN (r1 % 16)) (by omega) rfl (by omega) (fourN_lt (by omega))
          have hr2 := nibN_lt hr1
          have he2 : (r1 / 16) ^^^ fourN (r1 % 16) = nibN r1 := Nat.xor_comm _ _
          rw [he2] at hx2
          clear he2
          generalize nibN r1 = r2 at *
          have hc2 : wr.cell? ⟨w.heap.size, r2 % 16, none⟩ = some (.int .u32 (fourN (r2 % 16))) := by rw [cell_of_row _ _ _ _ _ _ HT.out]; exact tabV_get 16 _ (by omega) (by omega)
          have hx3 := bxor (r2 / 16) (fourN (r2 % 16)) ((r2 : Int) / 16) (fourN (r2 % 16)) (by omega) rfl (by omega) (fourN_lt (by omega))
          have hr3 := nibN_lt hr2
          have he3 : (r2 / 16) ^^^ fourN (r2 % 16) = nibN r2 := Nat.xor_comm _ _
          rw [he3] at hx3
          clear he3
          generalize nibN r2 = r3 at *
          have hf1 : fourN (r1 % 16) < 4294967296 := fourN_lt (by omega)
          have hf2 : fourN (r2 % 16) < 4294967296 := fourN_lt (by omega)
          generalize fourN (r1 % 16) = f1 at *
          generalize fourN (r2 % 16) = f2 at *
          have hm1 : ((r1 : Int) % 16).toNat = r1 % 16 := by omega
          have hm2 : ((r2 : Int) % 16).toNat = r2 % 16 := by omega
          have hm3 : r1 % 16 < 16 := by omega
          have hm4 : r2 % 16 < 16 := by omega
          clear hB
          go_wp2
          go_round
          case rel => exact ⟨k + 1, by omega, by go_num, by rw [hs.out]⟩
          case measure => simp [intOf]; omega
        · obtain rfl : k = len := by omega
          have he := Lib.hid (bxor _ 4294967295 _ 4294967295 rfl rfl hq (by omega))
          have ht := Lib.hid (List.take_of_length_le (l := xs) (Nat.le_of_eq hlen.out))
          go_wp2
          go_ret
          exact ⟨ret_int (he.out.trans (by rw [ht.out]; rfl)), hB⟩
set_option maxHeartbeats 800000 in
theorem ofRef_nil (A : Option Addr) (cap : Nat) (w : World) :
    Calls Tryz.prog 78 #[.slice A 0 cap] w fun e w' => e = .returned (.int .u32 0) ∧ Below w.heap.size w w' := by
  have h0 : #[Value.int .u32 0, .int .u32 0, .int .u32 0, .int .u32 0, .int .u32 0, .int .u32 0, .int .u32 0, .int .u32 0, .int .u32 0, .int .u32 0, .int .u32 0, .int .u32 0, .int .u32 0, .int .u32 0, .int .u32 0, .int .u32 0] = tabV 0 := by kernel_rfl
  have H0 := Lib.hid h0
  clear h0
  go_enter Tryz.func78, Tryz.ntmps78
  go_wp2
  rw [H0.out]
  go_loopw [4] (fun i wr => ∃ k : Nat, k ≤ 16 ∧ i = .int .i64 k ∧ wr.heap.size = w.heap.size + 1 ∧ wr.heap[w.heap.size]? = some (.cells (tabV k) 117 (0, 0)) ∧ Below w.heap.size w wr)
    (fun i _ => 16 - (intOf i).toNat)
  case atStart => exact ⟨0, by omega, rfl, by simp, heap_alloc_new w _, balloc (Below.refl _ _) _⟩
  case round =>
    obtain ⟨k, hk, rfl, hs, hT, hB⟩ := hrel
    by_cases hlt : k < 16
    · have hc : wr.cell? ⟨w.heap.size, k, none⟩ = some (.int .u32 0) := by rw [cell_of_row _ _ _ _ _ _ hT]; simp [tabV, hlt]
      have hf : wr.frozen? ⟨w.heap.size, k, none⟩ = false := frozen_of_row _ _ _ _ _ hT
      go_wp2_with (go_at_call 88; refine (halved_any k 4 (by omega) (by omega) _).mono ?_; rintro e w' ⟨rfl, rfl⟩)
      exact ⟨⟨k + 1, by omega, by go_num, by simpa using hs, (heap_setCell_same _ _ _ _ _ _ hT).trans (by rw [← tabV_set k hlt]; rfl), hB.setCell (by simp) _⟩, by simp [intOf]; omega⟩
    · obtain rfl : k = 16 := by omega
      clear hT hs
      go_wp2
      refine wp_loop_rounds 1 ?_
      rw [rounds_succ]
      go_wp2
      go_ret
      exact ⟨rfl, hB⟩
theorem ofRef_any (A : Option Addr) (len cap : Nat) (xs : List UInt8) (hlen : Hid (xs.length = len)) (hlc : len ≤ cap) (hcap : cap ≤ 9223372036854775807) (w : World) (hx : Byt w w.heap.size A xs) :
    Calls Tryz.prog 78 #[.slice A len cap] w fun e w' => e = .returned (.int .u32 (crc xs : Nat)) ∧ Below w.heap.size w w' := by
  rcases Nat.eq_zero_or_pos xs.length with h0 | h0
  · have hx0 : xs = [] := List.eq_nil_of_length_eq_zero h0
    subst hx0
    obtain rfl := hlen.out
    exact ofRef_nil A cap w
  · obtain ⟨ad, rfl, hbl, hc⟩ := hx h0
    exact ofRef_ad ad len cap xs hlen hlc hcap w hbl (Lib.hid fun j hj => hc j (by rw [hlen.out]; exact hj))

def lenOfV : Value → Nat
  | .slice _ n _ => n
  | _ => 0
theorem zeros_snoc (k : Nat) : zeros k ++ [0] = zeros (k + 1) := by simp [zeros, List.replicate_succ']
theorem u8s_zero : u8s [0] = [.int .u8 0] := rfl
set_option maxRecDepth 100000 in
set_option maxHeartbeats 1600000 in
theorem sealed_ref (A : Option Addr) (len cap : Nat) (xs : List UInt8) (hlen : Hid (xs.length = len)) (hl : len ≤ 124) (_ : len ≤ cap) (_ : cap ≤ 9223372036854775807) (w : World) (hx : Byt w w.heap.size A xs) :
    Calls Tryz.prog 63 #[.slice A len cap] w fun e w' => ∃ v, e = .returned v ∧ w'.ownsRow w.heap.size 5 1 v 128 (u8s (sealN xs)) ∧ Below w.heap.size w w' := by
  obtain ⟨i0, hi, hz0, hz1, hz2⟩ := info_parts u8_info
  obtain ⟨v1, w1, hrun1, own1, ba1⟩ := app_byt (P := Tryz.prog) (w := w) w.heap.size 26 26 5 i0 Tryz.underlying26 hi hz0 hz1 hz2 (.slice none 0 0) 0 [] (World.ownsRow_nil _ _ _ _) w.heap.size A len cap xs hx hlen.out (by omega) (Nat.le_refl _)
  rw [Nat.zero_add, List.nil_append] at own1
  have H1 := Lib.hid hrun1
  clear hrun1
  go_enter Tryz.func63, Tryz.ntmps63
  go_wp2_with (at_builtin; refine wpList_append_run rfl _ _ _ rfl rfl rfl H1.out ?_; clear H1)
  go_loopw [3] (fun v wr => ∃ k : Nat, len + k ≤ 124 ∧ wr.ownsRow w.heap.size 5 1 v (len + k) (u8s (xs ++ zeros k)) ∧ Below w.heap.size w wr) (fun v _ => 124 - lenOfV v)
  case atStart => exact ⟨0, by omega, by simpa [zeros] using own1, ba1⟩
  case round =>
    obtain ⟨k, hk, hown, hB⟩ := hrel
    obtain ⟨G, c, rfl, hlc2, hc2, hy⟩ := own_byt hown
    by_cases hlt : len + k < 124
    · go_wp2_with (at_builtin; refine wpList_append_own _ rfl _ _ 26 rfl w.heap.size 5 i0 (.int .u8 0) 1 1 Tryz.underlying26 hi hz0 hz1 hz2 rfl (by decide) _ _ _ rfl (hown.alloc _) ⟨wr.heap.size, 0, none⟩ 1 1 [.int .u8 0] rfl rfl ?c1 ?c2 ?c3 ?c4 ?c5 ?_)
      case c1 =>
        intro j u hj
        match j, hj with
        | 0, hj => simp at hj; subst hj; simp [Addr.add]
      case c2 => intro u hu; simp at hu; subst hu; rfl
      case c3 => unfold maxLen; omega
      case c4 => omega
      case c5 => have := hB.size; simp; omega
      intro v' w2 hown' hgrow _
      have hB1 : Below w.heap.size w w2 := (balloc hB _).grown hgrow (balloc hB _).size (fun r e => by have := hown.lt r e; omega)
      rw [← u8s_zero, ← u8s_append, List.append_assoc, zeros_snoc] at hown'
      clear hgrow hown hy
      go_wp2
      obtain ⟨G', c', rfl, _, _, _⟩ := own_byt hown'
      go_roundw
      case rel => exact ⟨k + 1, by omega, hown', hB1⟩
      case measure => simp [lenOfV]; omega
    · have e : len + k = 124 := by omega
      have hpad : xs ++ zeros k = padN xs := by
        unfold padN
        rw [hlen.out, show 124 - len = k by omega]
      rw [hpad] at hown hy
      rw [e] at hown hlc2
      have hpl : Hid ((padN xs).length = 124) := Lib.hid (padN_length (by rw [hlen.out]; omega))
      clear hown hpad
      rw [e]
      go_wp2_with fail
      refine (ofRef_any _ _ c _ hpl (by omega) (by omega) _ hy).mono ?_
      rintro e w3 ⟨rfl, hb3⟩
      go_wp2_with fail
      refine (four_own _ (by omega) (by have := crc_lt (padN xs); omega) _).mono ?_
      rintro e w4 ⟨v4, rfl, own4, hb4⟩
      obtain ⟨v5, w5, hrun5, own5, ba5⟩ := app_byt (P := Tryz.prog) (w := w4) w3.heap.size 26 26 5 i0 Tryz.underlying26 hi hz0 hz1 hz2 v4 4 _ own4 wr.heap.size G 124 c (padN xs) ((hy.below hb3).below (hb4.mono hb3.size)) hpl.out (by omega) hb4.size
      have hs13 := Nat.le_trans hB.size hb3.size
      have hB5 := hB.trans ((bstep hb3 (hb4.trans ba5)).mono hB.size)
      have HO := Lib.hid (own_base own5 hs13)
      have H5 := Lib.hid hrun5
      clear hrun5 own5 own4 hy hb3 hb4 ba5 hs13 hB
      go_wp2_with (at_builtin; refine wpList_append_run rfl _ _ _ rfl rfl rfl H5.out ?_; clear H5)
      go_ret
      exact ⟨_, rfl, HO.out, hB5⟩

theorem openRef_no (A : Option Addr) (len cap : Nat) (hl : len ≠ 128) (w : World) :
    Calls Tryz.prog 93 #[.slice A len cap] w fun e w' => e = .returned (.tuple #[.slice none 0 0, .int .i64 3]) ∧ w = w' := by
  go_enter Tryz.func93, Tryz.ntmps93
  go_wp2
  go_ret2
  exact ⟨rfl, rfl⟩
theorem ge_ok : ge 4 128 0 = 0 := rfl
theorem gv_ok {xs : List UInt8} (h : xs.length = 128) : gv 4 xs 0 = num (xs.take 4) := by
  rw [gv_yes (by omega)]
  rfl
theorem openRef_bad (ad : Addr) (cap : Nat) (xs : List UInt8) (hlen : Hid (xs.length = 128)) (hlc : 128 ≤ cap) (hcap : cap ≤ 9223372036854775807) (w : World) (hx : Byt w w.heap.size (some ad) xs) (hn : ¬ fits xs) :
    Calls Tryz.prog 93 #[.slice (some ad) 128 cap] w fun e w' => e = .returned (.tuple #[.slice none 0 0, .int .i64 8]) ∧ Below w.heap.size w w' := by
  have hp : Byt w w.heap.size (some (ad.add 4)) (xs.drop 4) := by
    obtain ⟨ad', e, hp⟩ := hx.part (k := 4) (n := 124) (by rw [hlen.out]; omega) (by omega)
    cases e
    rwa [List.take_of_length_le (by simp [hlen.out])] at hp
  have hpl : Hid ((xs.drop 4).length = 124) := Lib.hid (by simp [hlen.out])
  have hb := crc_lt (xs.drop 4)
  have hd' : ((num (xs.take 4) : Int) != (crc (xs.drop 4) : Nat)) = true := by simpa [fits] using hn
  have HD' := Lib.hid hd'
  have hgv := Lib.hid (gv_ok hlen.out)
  clear hn hd'
  go_enter Tryz.func93, Tryz.ntmps93
  go_wp2_with fail
  refine (getFour_ref _ _ cap 0 xs hlen (by omega) (by omega) _ hx).mono ?_
  rintro e w1 ⟨rfl, rfl⟩
  rw [hgv.out]
  go_wp2_with fail
  refine (ofRef_any _ _ _ _ hpl (by omega) (by omega) _ hp).mono ?_
  rintro e w2 ⟨rfl, hb2⟩
  generalize num (xs.take 4) = q at *
  generalize crc (xs.drop 4) = r at *
  have hd' := HD'.out
  go_wp2_with fail
  go_ret2
  exact ⟨rfl, hb2⟩
theorem openRef_ok (ad : Addr) (cap : Nat) (xs : List UInt8) (hlen : Hid (xs.length = 128)) (hlc : 128 ≤ cap) (hcap : cap ≤ 9223372036854775807) (w : World) (hx : Byt w w.heap.size (some ad) xs) (hn : fits xs) :
    Calls Tryz.prog 93 #[.slice (some ad) 128 cap] w fun e w' => ∃ v, e = .returned (.tuple #[v, .int .i64 0]) ∧ w'.ownsRow w.heap.size 5 1 v 124 (u8s (xs.drop 4)) ∧ Below w.heap.size w w' := by
  have hp : Byt w w.heap.size (some (ad.add 4)) (xs.drop 4) := by
    obtain ⟨ad', e, hp⟩ := hx.part (k := 4) (n := 124) (by rw [hlen.out]; omega) (by omega)
    cases e
    rwa [List.take_of_length_le (by simp [hlen.out])] at hp
  have hpl : Hid ((xs.drop 4).length = 124) := Lib.hid (by simp [hlen.out])
  have hb := crc_lt (xs.drop 4)
  have HN : Hid (num (xs.take 4) = (crc (xs.drop 4) : Nat)) := Lib.hid hn
  have hgv := Lib.hid (gv_ok hlen.out)
  obtain ⟨i0, hi, hz0, hz1, hz2⟩ := info_parts u8_info
  clear hn
  go_enter Tryz.func93, Tryz.ntmps93
  go_wp2_with fail
  refine (getFour_ref _ _ cap 0 xs hlen (by omega) (by omega) _ hx).mono ?_
  rintro e w1 ⟨rfl, rfl⟩
  rw [hgv.out, HN.out]
  go_wp2_with fail
  refine (ofRef_any _ _ _ _ hpl (by omega) (by omega) _ hp).mono ?_
  rintro e w2 ⟨rfl, hb2⟩
  have hp2 := (hp.below hb2).more hb2.size
  obtain ⟨v3, w3, hrun3, own3, ba3⟩ := app_byt (P := Tryz.prog) (w := w2) w2.heap.size 26 26 5 i0 Tryz.underlying26 hi hz0 hz1 hz2 (.slice none 0 0) 0 [] (World.ownsRow_nil _ _ _ _) w2.heap.size _ 124 (cap - 4) _ hp2 hpl.out (by omega) (Nat.le_refl _)
  rw [Nat.zero_add, List.nil_append] at own3
  have HO := Lib.hid (own_base own3 hb2.size)
  have H3 := Lib.hid hrun3
  have hB := bstep hb2 ba3
  clear hrun3 own3 hp2 hp hx hb2 ba3
  generalize crc (xs.drop 4) = r at *
  go_wp2_with (at_builtin; refine wpList_append_run rfl _ _ _ rfl rfl rfl H3.out ?_; clear H3)
  go_ret2
  exact ⟨_, rfl, HO.out, hB⟩
end Go.Proofs.YtmdlgnlfgfhkmaaGreat

/-
  The document's answers of layer 4: a superblock's block, Write. Conditions: those that each lemma states.
-/
namespace Go.Proofs.YtmdlgnlfgfhkmaaGreat
open Go.RowKit

def headS (s : Sp) : List UInt8 := le 4 s.1 ++ le 2 s.2.1 ++ le 4 s.2.2.1 ++ le 4 s.2.2.2.1 ++ [UInt8.ofNat s.2.2.2.2.length]
def twos (xs : List Int) : List UInt8 := xs.flatMap (le 2)
def bodyS (s : Sp) : List UInt8 := headS s ++ twos s.2.2.2.2
def blkS (s : Sp) : List UInt8 := sealN (bodyS s)
def wrS (s : Sp) : List UInt8 := if mayS s then blkS s else []
theorem headS_length (s : Sp) : (headS s).length = 15 := by simp [headS, le_length]
theorem twos_length (xs : List Int) : (twos xs).length = 2 * xs.length := by
  induction xs with
  | nil => rfl
  | cons x r ih =>
    show (le 2 x ++ twos r).length = _
    rw [List.length_append, le_length, ih, List.length_cons]
    omega
theorem twos_snoc (xs : List Int) (x : Int) : twos (xs ++ [x]) = twos xs ++ le 2 x := by simp [twos]
theorem bodyS_length (s : Sp) : (bodyS s).length = 15 + 2 * s.2.2.2.2.length := by rw [bodyS, List.length_append, headS_length, twos_length]
theorem blkS_length {s : Sp} (h : mayS s = true) : (blkS s).length = 128 := sealN_length (by rw [bodyS_length]; have := (mayS_of h).2.1; omega)
theorem rBy_nil_new (lo : Nat) (w : World) : rBy (New lo w) w [.slice none 0 0] [] := ⟨none, 0, rfl, by simp, by omega, fun i x h => by simp at h⟩
theorem ret_two {a : Value} {k : IntKind} {x y : Int} (h : x = y) : Ending.returned (.tuple #[a, .int k x]) = .returned (.tuple #[a, .int k y]) := by rw [h]
theorem takB_of {n : Int} (h : takB n = true) : 8 ≤ n ∧ n < 256 := by
  simp only [takB, Bool.and_eq_true, decide_eq_true_eq] at h
  exact h
/-- Bytes of the call's own, with bytes behind. -/
theorem app_own_byt (v : Value) (n m c : Nat) (xs ys : List UInt8) (A : Option Addr) (lo : Nat) (w : World) (hown : w.ownsRow lo 5 1 v n (u8s xs)) (hy : Byt w w.heap.size A ys) (hl : ys.length = m) (hs : n + m ≤ 1000000000) (hlo : lo ≤ w.heap.size) :
    ∃ v' w', (Builtin.append_ #[26, 26] 26 #[v, .slice A m c]).run Tryz.prog w = .ok v' w' ∧ w'.ownsRow lo 5 1 v' (n + m) (u8s (xs ++ ys)) ∧ Below lo w w' := by
  obtain ⟨i0, hi, hz0, hz1, hz2⟩ := info_parts u8_info0
  exact app_byt (P := Tryz.prog) (w := w) lo 26 26 5 i0 Tryz.underlying26 hi hz0 hz1 hz2 v n xs hown w.heap.size A m c ys hy hl hs hlo

end Go.Proofs.YtmdlgnlfgfhkmaaGreat

/-
  slices.Grow of nil, slices.Concat, at bytes. Conditions: those that each lemma states.
-/
namespace Go.Proofs.YtmdlgnlfgfhkmaaGreat
open Go.RowKit

/-- The walk at an 'append' of whatever second argument, of which it is known what it comes to. -/
theorem wpList_append_run2 {P : Program} {w : World} {ops : Array Oper} {rest : List Oper} {o : Oper} {a : Act} {Q : Exit → Act → World → Prop} (hgd : o.guard = none) (s x : Operand) (t tn : TypeId)
    (ho : o.op = .call { callee := .builtin .append, args := #[s, x], argTypes := #[t, tn] }) {v u v' : Value} {w' : World} (hs : a.eval s = v) (hx : a.eval x = u)
    (hrun : (Builtin.append_ #[t, tn] o.type #[v, u]).run P w = .ok v' w') (h : wpList P ops Q rest (a.put o.dst v') w') : wpList P ops Q (o :: rest) a w :=
  wpList_plain hgd fun _ hK => by
    unfold Oper.wp execOp
    simp only [ho, resolve, invoke, builtin, Sem.run_bind, Sem.run_pure, Result.andThen_ok, List.map_toArray, List.map_cons, List.map_nil, hs, hx, hrun]
    exact hK _ _ h

set_option maxRecDepth 100000 in
theorem grow_nil (n : Nat) (hn : n ≤ 1000000) (w : World) :
    Calls Tryz.prog 72 #[.slice none 0 0, .int .i64 n] w fun e w' => ∃ u, e = .returned u ∧ w'.ownsRow w.heap.size 5 1 u 0 [] ∧ Below w.heap.size w w' := by
  rcases Nat.eq_zero_or_pos n with h0 | h0
  · subst h0
    go_enter Tryz.func72, Tryz.ntmps72
    go_wp2
    go_ret
    exact ⟨_, rfl, World.ownsRow_nil _ _ _ _, Below.refl _ _⟩
  · obtain ⟨i0, hi, hz0, hz1, hz2⟩ := info_parts u8_info0
    have hr := Go.Lib.run_append_grow_zeros (P := Tryz.prog) w 26 3 26 5 i0 (.int .u8 0) .i64 .i64 Tryz.underlying26 Tryz.underlying3 hi hz0 none 0 0 [] (run_firstCells_none w.drew i0.size 0 0 0) n h0 (by omega) (by omega) (by omega) (by rw [hz2]; omega) (by rw [hz2, Nat.zero_add, nextslicecap_zero (by omega)]; omega)
    rw [Nat.zero_add] at hr
    have hge := grownCap_ge w n 0 5
    have hle := grownCap_le_maxLen w n 0 5 (by unfold maxLen; omega)
    generalize grownCap w n 0 5 = gc at hr hge hle
    have hsz : (([] : List Value).toArray ++ Builtin.zeroCells (Value.int .u8 0).cells n ++ Builtin.zeroCells (Value.int .u8 0).cells (gc - n)).size = gc * 1 := by
      simp only [Array.size_append, size_zeroCells]
      simp [Value.cells]
      omega
    generalize ([] : List Value).toArray ++ Builtin.zeroCells (Value.int .u8 0).cells n ++ Builtin.zeroCells (Value.int .u8 0).cells (gc - n) = cur at hr hsz
    have hown : (w.drew.alloc (.cells cur 5)).ownsRow w.heap.size 5 1 (.slice (some ⟨w.heap.size, 0, none⟩) 0 gc) 0 [] :=
      ⟨rfl, .inr ⟨w.heap.size, gc, cur, rfl, Nat.le_refl _, heap_alloc_new w.drew _, by omega, hle, hsz, by simp⟩⟩
    have hB : Below w.heap.size w (w.drew.alloc (.cells cur 5)) := (Below.refl w.heap.size w).drew.alloc (Nat.le_refl _) _
    unfold maxLen at hle
    generalize w.drew.alloc (.cells cur 5) = w9 at hr hown hB
    have H := Lib.hid hr
    replace hown := Lib.hid hown
    have h1 : ¬ ((n : Int) < 0) := by omega
    have h2 : (n : Int) > 0 := by omega
    clear hsz hr
    go_enter Tryz.func72, Tryz.ntmps72
    go_wp2_with (at_builtin; refine wpList_append_run2 rfl _ _ _ _ rfl rfl rfl H.out ?_; clear H)
    go_ret
    exact ⟨_, rfl, hown.out, hB⟩

/-- How many bytes the first ones have. -/
def lens (xss : List (List UInt8)) : Nat := xss.flatten.length
theorem lens_snoc {xss : List (List UInt8)} {k : Nat} {x : List UInt8} (h : xss[k]? = some x) : lens (xss.take (k + 1)) = lens (xss.take k) + x.length := by
  simp [lens, List.take_add_one, h]
theorem flat_snoc {xss : List (List UInt8)} {k : Nat} {x : List UInt8} (h : xss[k]? = some x) : (xss.take (k + 1)).flatten = (xss.take k).flatten ++ x := by
  simp [List.take_add_one, h]
theorem lens_le {xss : List (List UInt8)} (k : Nat) : lens (xss.take k) ≤ lens xss := by
  have h : lens xss = lens (xss.take k) + lens (xss.drop k) := by
    unfold lens
    rw [← List.length_append, ← List.flatten_append, List.take_append_drop]
  omega

set_option maxRecDepth 100000 in
set_option maxHeartbeats 2000000 in
theorem concat_any (v : Value) (xss : List (List UInt8)) (w : World) (hbig : lens xss ≤ 1000000) (h : rSl 1 rBy (Old w) w [v] xss) :
    Calls Tryz.prog 54 #[v] w fun e w' => ∃ u, e = .returned u ∧ w'.ownsRow w.heap.size 5 1 u (lens xss) (u8s xss.flatten) ∧ Below w.heap.size w w' := by
  obtain ⟨A, c, e1, l1, m1, hA⟩ := rows_open h
  cases e1
  have HA := Lib.hid hA
  clear hA h
  obtain ⟨n, hn⟩ : ∃ n, xss.length = n := ⟨_, rfl⟩
  rw [hn] at l1 ⊢
  replace hn := Lib.hid hn
  obtain ⟨m, hm⟩ : ∃ m, lens xss = m := ⟨_, rfl⟩
  rw [hm] at hbig ⊢
  have hle := Lib.hid (fun k => (hm ▸ lens_le k : lens (xss.take k) ≤ m))
  replace hm := Lib.hid hm
  go_enter Tryz.func54, Tryz.ntmps54
  go_wp2_with fail
  go_loop [3, 11] (fun s i => ∃ k : Nat, k ≤ n ∧ i = .int .i64 k ∧ s = .int .i64 (lens (xss.take k))) (fun _ i => n - (intOf i).toNat)
  case atStart => exact ⟨0, by omega, rfl, rfl⟩
  case round =>
    obtain ⟨k, hk, rfl, rfl⟩ := hrel
    have hlk := hle.out k
    by_cases hlt : k < n
    · obtain ⟨x, hx⟩ : ∃ x, xss[k]? = some x := ⟨_, List.getElem?_eq_getElem (by rw [hn.out]; exact hlt)⟩
      obtain ⟨ad, u, rfl, hok, hc, hby⟩ := HA.out k x hx
      have hs := Lib.hid (lens_snoc hx)
      have hlk2 := hle.out (k + 1)
      rw [hs.out] at hlk2
      obtain ⟨E, ce, rfl, _⟩ := id (rBy_open hby)
      generalize lens (xss.take k) = q at *
      replace hx := Lib.hid hx
      have h3 : ¬ ((q : Int) + (x.length : Int) < 0) := by omega
      clear hby
      go_wp2_with fail
      go_round
      case rel => exact ⟨k + 1, by omega, by go_num, by rw [hs.out]; go_num⟩
      case measure => simp [intOf]; omega
    · have hge : n ≤ k := by omega
      have htk := Lib.hid (show lens (xss.take k) = m by rw [List.take_of_length_le (by rw [hn.out]; exact hge)]; exact hm.out)
      rw [htk.out] at hlk ⊢
      go_wp2_with fail
      with_reducible refine (grow_nil m hbig _).mono ?_
      rintro e2 w2 ⟨u, rfl, ho, hb2⟩
      replace ho := Lib.hid ho
      replace hb2 := Lib.hid hb2
      clear hlk htk
      go_wp2_with fail
      go_loopw [6, 27] (fun u i wr => ∃ k : Nat, k ≤ n ∧ i = .int .i64 k ∧ wr.ownsRow w.heap.size 5 1 u (lens (xss.take k)) (u8s (xss.take k).flatten) ∧ Below w.heap.size w wr) (fun _ i _ => n - (intOf i).toNat)
      case atStart => exact ⟨0, by omega, rfl, ho.out, hb2.out⟩
      case round =>
        clear hge hk hlt ho hb2
        obtain ⟨j, hk, rfl, hown, hB⟩ := hrel
        have hlk := hle.out j
        by_cases hlt : j < n
        · obtain ⟨x, hx⟩ : ∃ x, xss[j]? = some x := ⟨_, List.getElem?_eq_getElem (by rw [hn.out]; exact hlt)⟩
          obtain ⟨ad, u, rfl, hok, hc, hby⟩ := HA.out j x hx
          have hc' := (hB.cell hok).trans hc
          have hs := Lib.hid (lens_snoc hx)
          have hf := Lib.hid (flat_snoc hx)
          have hlk2 := hle.out (j + 1)
          rw [hs.out] at hlk2
          obtain ⟨E, ce, rfl, _, _, hy⟩ := rBy_byt (B := wr.heap.size) (fun p hp => hp) (stab_by.old hby hB)
          obtain ⟨v3, w3, hr3, o3, ba3⟩ := app_own_byt _ (lens (xss.take j)) x.length ce _ _ E w.heap.size wr hown hy rfl (by omega) hB.size
          have B3 := Lib.hid (hB.trans ba3)
          have H3 := Lib.hid hr3
          replace o3 := Lib.hid o3
          clear hr3 ba3 hy hby hc hown hB
          replace hx := Lib.hid hx
          go_wp2_with (at_builtin; refine wpList_append_run rfl _ _ _ rfl rfl rfl H3.out ?_; clear H3)
          go_roundw
          case rel => exact ⟨j + 1, by omega, by go_num, by rw [hs.out, hf.out]; exact o3.out, B3.out⟩
          case measure => simp [intOf]; omega
        · have hge : n ≤ j := by omega
          have htk : xss.take j = xss := List.take_of_length_le (by rw [hn.out]; exact hge)
          rw [htk, hm.out] at hown
          replace hown := Lib.hid hown
          have B := Lib.hid hB
          clear hB htk
          go_wp2_with fail
          go_ret
          exact ⟨_, rfl, hown.out, B.out⟩
end Go.Proofs.YtmdlgnlfgfhkmaaGreat

/-
  Layer 2: the contracts for every argument. Conditions: those that each lemma states.
-/
namespace Go.Proofs.YtmdlgnlfgfhkmaaGreat
open Go.RowKit

/-- What Seal and Open answer. -/
def sb (xs : List UInt8) : List UInt8 := if xs.length ≤ 124 then sealN xs else []
def se (n : Nat) : Int := if n ≤ 124 then 0 else 3
open Classical in
noncomputable def ob (xs : List UInt8) : List UInt8 := if xs.length = 128 ∧ fits xs then xs.drop 4 else []
open Classical in
noncomputable def oe (xs : List UInt8) : Int := if xs.length = 128 then (if fits xs then 0 else 8) else 3

theorem seal_any (A : Option Addr) (len cap : Nat) (xs : List UInt8) (hlen : Hid (xs.length = len)) (hlc : len ≤ cap) (hcap : cap ≤ 9223372036854775807) (w : World) (hx : Byt w w.heap.size A xs) :
    Calls Tryz.prog 34 #[.slice A len cap] w fun e w' => ∃ v, e = .returned (.tuple #[v, .int .i64 (se len)]) ∧ w'.ownsRow w.heap.size 5 1 v (sb xs).length (u8s (sb xs)) ∧ Below w.heap.size w w' := by
  by_cases h : len ≤ 124
  · have h1 : se len = 0 := if_pos h
    have h2 : sb xs = sealN xs := if_pos (by rw [hlen.out]; exact h)
    rw [h1, h2]
    refine (seal_ok A len cap xs hlen h hlc hcap w hx).mono ?_
    rintro e w' ⟨rfl, hR, hb⟩
    have hl := sealN_length (xs := xs) (by rw [hlen.out]; exact h)
    have := hR.own (Nat.le_refl _) (by omega)
    exact ⟨_, rfl, by rwa [hl] at this ⊢, hb⟩
  · have h1 : se len = 3 := if_neg h
    have h2 : sb xs = [] := if_neg (by rw [hlen.out]; exact h)
    rw [h1, h2]
    refine (seal_no A len cap (by omega) w).mono ?_
    rintro e w' ⟨rfl, rfl⟩
    exact ⟨_, rfl, World.ownsRow_nil _ _ _ _, Below.refl _ _⟩
theorem open_any (A : Option Addr) (len cap : Nat) (xs : List UInt8) (hlen : Hid (xs.length = len)) (hlc : len ≤ cap) (hcap : cap ≤ 9223372036854775807) (w : World) (hx : Byt w w.heap.size A xs) :
    Calls Tryz.prog 98 #[.slice A len cap] w fun e w' => ∃ v, e = .returned (.tuple #[v, .int .i64 (oe xs)]) ∧ w'.ownsRow w.heap.size 5 1 v (ob xs).length (u8s (ob xs)) ∧ Below w.heap.size w w' := by
  by_cases h : len = 128
  · subst h
    obtain ⟨ad, rfl, _, _⟩ := hx (by rw [hlen.out]; omega)
    by_cases hf : fits xs
    · have h1 : oe xs = 0 := by unfold oe; rw [if_pos hlen.out, if_pos hf]
      have h2 : ob xs = xs.drop 4 := by unfold ob; rw [if_pos ⟨hlen.out, hf⟩]
      rw [h1, h2, show (xs.drop 4).length = 124 by simp [hlen.out]]
      exact open_ok ad cap xs hlen hlc hcap w hx hf
    · have h1 : oe xs = 8 := by unfold oe; rw [if_pos hlen.out, if_neg hf]
      have h2 : ob xs = [] := by unfold ob; rw [if_neg (fun h => hf h.2)]
      rw [h1, h2]
      refine (open_bad ad cap xs hlen hlc hcap w hx hf).mono ?_
      rintro e w' ⟨rfl, hb⟩
      exact ⟨_, rfl, World.ownsRow_nil _ _ _ _, hb⟩
  · have h1 : oe xs = 3 := by unfold oe; rw [if_neg (by rw [hlen.out]; exact h)]
    have h2 : ob xs = [] := by unfold ob; rw [if_neg (fun h' => h (by rw [← hlen.out]; exact h'.1))]
    rw [h1, h2]
    refine (open_no A len cap h w).mono ?_
    rintro e w' ⟨rfl, rfl⟩
    exact ⟨_, rfl, World.ownsRow_nil _ _ _ _, Below.refl _ _⟩
theorem openRef_any (A : Option Addr) (len cap : Nat) (xs : List UInt8) (hlen : Hid (xs.length = len)) (hlc : len ≤ cap) (hcap : cap ≤ 9223372036854775807) (w : World) (hx : Byt w w.heap.size A xs) :
    Calls Tryz.prog 93 #[.slice A len cap] w fun e w' => ∃ v, e = .returned (.tuple #[v, .int .i64 (oe xs)]) ∧ w'.ownsRow w.heap.size 5 1 v (ob xs).length (u8s (ob xs)) ∧ Below w.heap.size w w' := by
  by_cases h : len = 128
  · subst h
    obtain ⟨ad, rfl, _, _⟩ := hx (by rw [hlen.out]; omega)
    by_cases hf : fits xs
    · have h1 : oe xs = 0 := by unfold oe; rw [if_pos hlen.out, if_pos hf]
      have h2 : ob xs = xs.drop 4 := by unfold ob; rw [if_pos ⟨hlen.out, hf⟩]
      rw [h1, h2, show (xs.drop 4).length = 124 by simp [hlen.out]]
      exact openRef_ok ad cap xs hlen hlc hcap w hx hf
    · have h1 : oe xs = 8 := by unfold oe; rw [if_pos hlen.out, if_neg hf]
      have h2 : ob xs = [] := by unfold ob; rw [if_neg (fun h => hf h.2)]
      rw [h1, h2]
      refine (openRef_bad ad cap xs hlen hlc hcap w hx hf).mono ?_
      rintro e w' ⟨rfl, hb⟩
      exact ⟨_, rfl, World.ownsRow_nil _ _ _ _, hb⟩
  · have h1 : oe xs = 3 := by unfold oe; rw [if_neg (by rw [hlen.out]; exact h)]
    have h2 : ob xs = [] := by unfold ob; rw [if_neg (fun h' => h (by rw [← hlen.out]; exact h'.1))]
    rw [h1, h2]
    refine (openRef_no A len cap h w).mono ?_
    rintro e w' ⟨rfl, rfl⟩
    exact ⟨_, rfl, World.ownsRow_nil _ _ _ _, Below.refl _ _⟩
end Go.Proofs.YtmdlgnlfgfhkmaaGreat

/-
  Package ring: Write. Conditions: those that each lemma states.
-/
namespace Go.Proofs.YtmdlgnlfgfhkmaaGreat
open Go.RowKit

theorem four_by (n : Int) (h0 : 0 ≤ n) (h1 : n < 4294967296) (w : World) :
    Calls Tryz.prog 55 #[.int .u32 n] w fun e w' => ∃ A c, e = .returned (.slice A 4 c) ∧ rBy (Old w') w' [.slice A 4 c] (le 4 n) ∧ Below w.heap.size w w' :=
  (four_any n h0 h1 w).mono fun _ _ ⟨A, e, hy, hb⟩ => ⟨A, 4, e, by have := byt_rBy (cap := 4) hy (by rw [le_length]; omega) (by omega); rwa [le_length] at this, hb⟩
theorem two_by (n : Int) (h0 : 0 ≤ n) (h1 : n < 65536) (w : World) :
    Calls Tryz.prog 53 #[.int .i64 n] w fun e w' => ∃ A, e = .returned (.tuple #[.slice A 2 2, .int .i64 0]) ∧ rBy (Old w') w' [.slice A 2 2] (le 2 n) ∧ Below w.heap.size w w' :=
  (two_ok n h0 h1 w).mono fun _ _ ⟨A, e, hy, hb⟩ => ⟨A, e, by have := byt_rBy (cap := 2) hy (by rw [le_length]; omega) (by omega); rwa [le_length] at this, hb⟩
theorem byte_lit (w : World) (t : TypeId) (x : UInt8) (n : Int) (h : (x.toNat : Int) = n) : rBy (Old (w.alloc (.cells #[.int .u8 n] t))) (w.alloc (.cells #[.int .u8 n] t)) [.slice (some ⟨w.heap.size, 0, none⟩) 1 1] [x] := by
  subst h
  have hy := byt_new w t [x] #[.int .u8 (x.toNat : Int)] rfl
  have e : (w.alloc (.cells #[.int .u8 (x.toNat : Int)] t)).heap.size = w.heap.size + 1 := by simp
  rw [← e] at hy
  exact byt_rBy (xs := [x]) (cap := 1) hy (Nat.le_refl _) (by omega)
/-- A literal row of slices of bytes. -/
theorem rows_lit (w : World) (t : TypeId) (vs : List Value) (xss : List (List UInt8)) (hl : vs.length = xss.length) (hb : xss.length ≤ 1000) (h : ∀ (i : Nat) (v : Value) (x : List UInt8), vs[i]? = some v → xss[i]? = some x → rBy (Old w) w [v] x) :
    rSl 1 rBy (Old (w.alloc (.cells vs.toArray t))) (w.alloc (.cells vs.toArray t)) [.slice (some ⟨w.heap.size, 0, none⟩) xss.length xss.length] xss := by
  have hB : Below w.heap.size w (w.alloc (.cells vs.toArray t)) := (Below.refl _ _).alloc (Nat.le_refl _) _
  refine ⟨_, _, rfl, Nat.le_refl _, by omega, fun i x hi => ?_⟩
  have hil : i < vs.length := by rw [hl]; exact (List.getElem?_eq_some_iff.1 hi).1
  have hv : vs[i]? = some vs[i] := List.getElem?_eq_getElem hil
  refine ⟨_, [vs[i]], rfl, rfl, fun j v hj => ?_, stab_by.old (h i _ x hv hi) hB⟩
  have hj0 : j = 0 := by
    have := (List.getElem?_eq_some_iff.1 hj).1
    simp at this
    omega
  subst hj0
  cases hj
  have e : (⟨w.heap.size, 0, none⟩ : Addr).add (i * 1 + 0) = ⟨w.heap.size, i, none⟩ := by rw [add_off]; simp
  rw [e]
  refine ⟨by simp [Old], ?_⟩
  simp

end Go.Proofs.YtmdlgnlfgfhkmaaGreat

/-
  Package ring: Write of any superblock, deadOf, fields, Read; cmp.Or. Conditions: those that each lemma states.
-/
namespace Go.Proofs.YtmdlgnlfgfhkmaaGreat
open Go.RowKit

theorem put_five {W : World} {g : Nat} {a b c d e u0 u1 u2 u3 u4 : Value} {t : TypeId} (h : W.heap[g]? = some (.cells #[a, b, c, d, e] t (0, 0))) : ∃ W1, ((((W.setCell ⟨g, 0, none⟩ u0).setCell ⟨g, 1, none⟩ u1).setCell ⟨g, 2, none⟩ u2).setCell ⟨g, 3, none⟩ u3).setCell ⟨g, 4, none⟩ u4 = W1 ∧
    W1.heap[g]? = some (.cells #[u0, u1, u2, u3, u4] t (0, 0)) ∧ W.grownBy W1 (some g) ∧ W1.heap.size = W.heap.size :=
  ⟨_, rfl, by simp [World.setCell, Array.getElem?_modify, h], grow_put (p := ⟨g, 4, none⟩) (grow_put (p := ⟨g, 3, none⟩) (grow_put (p := ⟨g, 2, none⟩) (grow_put (p := ⟨g, 1, none⟩) (grow_put (p := ⟨g, 0, none⟩) (grow_refl W (some g)) rfl u0) rfl u1) rfl u2) rfl u3) rfl u4, by simp⟩
theorem five_cells {W : World} {g : Nat} {a b c d e : Value} {t : TypeId} (h : W.heap[g]? = some (.cells #[a, b, c, d, e] t (0, 0))) : W.cell? ⟨g, 0, none⟩ = some a ∧ W.cell? ⟨g, 1, none⟩ = some b ∧ W.cell? ⟨g, 2, none⟩ = some c ∧ W.cell? ⟨g, 3, none⟩ = some d ∧ W.cell? ⟨g, 4, none⟩ = some e ∧ (∀ o, W.frozen? ⟨g, o, none⟩ = false) ∧ g < W.heap.size :=
  ⟨by simp [World.cell?, h], by simp [World.cell?, h], by simp [World.cell?, h], by simp [World.cell?, h], by simp [World.cell?, h], fun o => by simp [World.frozen?, h], (Array.getElem?_eq_some_iff.1 h).1⟩

/-! ### The numbers that wait, as bytes tell them -/
def deadN (body : List UInt8) (k : Nat) : List Int := (List.range k).map fun i : Nat => gv 2 body (15 + 2 * (i : Int))
theorem deadN_length (body : List UInt8) (k : Nat) : (deadN body k).length = k := by simp [deadN]
theorem deadN_succ (body : List UInt8) (k : Nat) : deadN body (k + 1) = deadN body k ++ [gv 2 body (15 + 2 * (k : Int))] := by simp [deadN, List.range_succ]
def cntN (body : List UInt8) : Nat := (body[14]?.getD 0).toNat
theorem cntN_lt (body : List UInt8) : cntN body < 256 := (body[14]?.getD 0).toNat_lt
theorem int_info0 : (Tryz.prog.info? 3).map (fun i => (i.zero, i.size, i.bytes)) = some (some (.int .i64 0), 1, 8) := by kernel_rfl
theorem rI64_mk {ok : Addr → Prop} {w : World} {n : Int} (h : In64 n) : rK .i64 ok w [.int .i64 n] n := ⟨rfl, by simpa [IntKind.min, IntKind.signed, IntKind.bits] using h.1, by simpa [IntKind.max, IntKind.signed, IntKind.bits] using h.2⟩
theorem ints_push {w : World} {lo : Nat} {A : Option Addr} {c : Nat} {xs : List Int} (h : RowOf (rK .i64) 1 3 lo w A c xs) (g : Nat) (n : Int) (m : Nat) (hg : w.heap[g]? = some (.cells #[.int .i64 n] 3 (0, 0))) (hs : xs.length < 100000) (hbase : lo ≤ w.heap.size) (hn : In64 n) :
    ∃ A' c' w', (Builtin.append_ #[102, 102] 102 #[.slice A xs.length c, .slice (some ⟨g, 0, none⟩) 1 m]).run Tryz.prog w = .ok (.slice A' (xs.length + 1) c') w' ∧ RowOf (rK .i64) 1 3 lo w' A' c' (xs ++ [n]) ∧ w.grownBy w' (A.map (·.block)) ∧ Below lo w w' := by
  obtain ⟨i0, hi, hz0, hz1, hz2⟩ := info_parts int_info0
  exact RowOf.push (stab_k _) h 102 102 i0 (.int .i64 0) 8 Tryz.underlying102 hi hz0 hz1 hz2 rfl (by decide) ⟨g, 0, none⟩ m _ n rfl (World.news_of_block (cs := #[.int .i64 n]) hg) (fun u hu => by
    simp at hu
    subst hu
    rfl) (by unfold maxLen; omega) (by omega) hbase (rI64_mk hn)

def deadE (k : Nat) : Int := if k ≤ 54 then 0 else 8
def deadV (body : List UInt8) : List Int := if cntN body ≤ 54 then deadN body (cntN body) else []
theorem gv2_in (body : List UInt8) (k : Int) : In64 (gv 2 body k) := by
  have := gv_bounds 2 body k
  exact ⟨by omega, by omega⟩
theorem gv4_in (body : List UInt8) (k : Int) : InU (gv 4 body k) := by
  have := gv_bounds 4 body k
  exact ⟨by omega, by omega⟩

/-! ### The first that is no nought -/
def orN (xs : List Int) : Int := (xs.find? fun x => x != 0).getD 0
theorem orN_take {xs : List Int} {k : Nat} {x : Int} (h : ∀ y ∈ xs.take k, y = 0) (hx : xs[k]? = some x) (h0 : x ≠ 0) : orN xs = x := by
  have e : xs = xs.take k ++ x :: xs.drop (k + 1) := by
    have hk := (List.getElem?_eq_some_iff.1 hx)
    obtain ⟨hk1, hk2⟩ := hk
    rw [← hk2, ← List.drop_eq_getElem_cons hk1, List.take_append_drop]
  unfold orN
  rw [e, List.find?_append, List.find?_eq_none.2 (by intro y hy; simp [h y hy])]
  simp [h0]
theorem orN_zero {xs : List Int} (h : ∀ y ∈ xs, y = 0) : orN xs = 0 := by
  unfold orN
  rw [List.find?_eq_none.2 (by intro y hy; simp [h y hy])]
  rfl
set_option maxRecDepth 100000 in
set_option maxHeartbeats 2000000 in
theorem or_any (v : Value) (xs : List Int) (w : World) (h : rInts (Old w) w [v] xs) :
    Calls Tryz.prog 118 #[v] w fun e w' => e = .returned (.int .i64 (orN xs)) ∧ w = w' := by
  obtain ⟨A, c, rfl, l1, m1, hA⟩ := rInts_open h
  have HA := Lib.hid hA
  clear hA h
  obtain ⟨n, hn⟩ : ∃ n, xs.length = n := ⟨_, rfl⟩
  rw [hn] at l1 ⊢
  replace hn := Lib.hid hn
  go_enter Tryz.func118, Tryz.ntmps118
  go_wp2_with fail
  go_loop [8] (fun i => ∃ k : Nat, k ≤ n ∧ i = .int .i64 k ∧ ∀ y ∈ xs.take k, y = 0) (fun i => n - (intOf i).toNat)
  case atStart => exact ⟨0, by omega, rfl, fun y hy => by simp at hy⟩
  case round =>
    obtain ⟨k, hk, rfl, ha⟩ := hrel
    replace ha := Lib.hid ha
    by_cases hlt : k < n
    · obtain ⟨x, hx⟩ : ∃ x, xs[k]? = some x := ⟨_, List.getElem?_eq_getElem (by rw [hn.out]; exact hlt)⟩
      obtain ⟨ad, rfl, hok, hc, _⟩ := HA.out k x hx
      replace hx := Lib.hid hx
      by_cases e : x = 0
      · have he : (x != 0) = false := by simpa using e
        replace e := Lib.hid e
        go_wp2_with fail
        go_round
        case rel => exact ⟨k + 1, by omega, by go_num, fun y hy => by
          rw [List.take_add_one, hx.out] at hy
          simp at hy
          rcases hy with hy | hy
          · exact ha.out y hy
          · rw [hy]; exact e.out⟩
        case measure => simp [intOf]; omega
      · have he : (x != 0) = true := by simpa using e
        have hor := Lib.hid (orN_take ha.out hx.out e)
        clear e
        go_wp2_with fail
        go_ret
        exact ⟨ret_int hor.out.symm, rfl⟩
    · have hge : n ≤ k := by omega
      have hor : Hid (orN xs = 0) := Lib.hid (orN_zero (by
        have := ha.out
        rwa [List.take_of_length_le (by rw [hn.out]; exact hge)] at this))
      go_wp2_with fail
      go_ret
      exact ⟨ret_int hor.out.symm, rfl⟩
/-- A literal row of numbers. -/
theorem ints_lit (w : World) (t : TypeId) (xs : List Int) (cs : Array Value) (hc : cs.toList = xs.map fun x => Value.int .i64 x) (hb : xs.length ≤ 1000) (h : ∀ x ∈ xs, In64 x) :
    rInts (Old (w.alloc (.cells cs t))) (w.alloc (.cells cs t)) [.slice (some ⟨w.heap.size, 0, none⟩) xs.length xs.length] xs := by
  refine ⟨_, _, rfl, Nat.le_refl _, by omega, fun i x hi => ?_⟩
  refine ⟨_, [.int .i64 x], rfl, rfl, fun j v hj => ?_, rI64_mk (h x (List.mem_of_getElem? hi))⟩
  have hj0 : j = 0 := by
    have := (List.getElem?_eq_some_iff.1 hj).1
    simp at this
    omega
  subst hj0
  cases hj
  have e : (⟨w.heap.size, 0, none⟩ : Addr).add (i * 1 + 0) = ⟨w.heap.size, i, none⟩ := by rw [add_off]; simp
  rw [e]
  have hci : cs[i]? = some (.int .i64 x) := by rw [← Array.getElem?_toList, hc, List.getElem?_map, hi]; rfl
  refine ⟨by simp [Old], ?_⟩
  rw [← hci]
  simp
end Go.Proofs.YtmdlgnlfgfhkmaaGreat

/-
  Package ring: fields, Read. Conditions: those that each lemma states.
-/
namespace Go.Proofs.YtmdlgnlfgfhkmaaGreat
open Go.RowKit

def zeroSp : Sp := (0, 0, 0, 0, [])
def fieldsS (body : List UInt8) : Sp := (gv 4 body 0, gv 2 body 4, gv 4 body 6, gv 4 body 10, deadV body)
def fieldsR (body : List UInt8) : Sp := if cntN body ≤ 54 then fieldsS body else zeroSp
theorem inSp_zero : InSp zeroSp := ⟨⟨by decide, by decide⟩, ⟨by decide, by decide⟩, ⟨by decide, by decide⟩, ⟨by decide, by decide⟩⟩
theorem inSp_fields (body : List UInt8) : InSp (fieldsS body) := ⟨gv4_in _ _, gv2_in _ _, gv4_in _ _, gv4_in _ _⟩
theorem sup_zero (ok : Addr → Prop) (w : World) : Sup ok w (.agg #[.int .u32 0, .int .i64 0, .int .u32 0, .int .u32 0, .slice none 0 0]) zeroSp := ⟨_, rfl, inSp_zero, rInts_none _ _⟩
theorem ge_in {m : Nat} {k : Int} (h0 : 0 ≤ k) (h1 : k + m ≤ 124) : ge m 124 k = 0 := ge_yes ⟨h0, by omega⟩
theorem orN_five (e : Int) : orN [0, 0, 0, 0, e] = e := by
  unfold orN
  by_cases h : e = 0
  · subst h; rfl
  · simp [h]
theorem deadE_in (k : Nat) : In64 (deadE k) := by
  unfold deadE
  split <;> exact ⟨by decide, by decide⟩
theorem Sup.grown {w w' : World} {lo : Nat} {v : Value} {s : Sp} {row : Option Nat} (h : Sup (New lo w) w v s) (hg : w.grownBy w' row) (hr : ∀ q, row = some q → q < lo) : Sup (New lo w') w' v s := by
  obtain ⟨d, e, h1, h2⟩ := h
  exact ⟨d, e, h1, stab_ints.grown h2 hg hr⟩

end Go.Proofs.YtmdlgnlfgfhkmaaGreat

/-
  Package ring: Read. Conditions: those that each lemma states.
-/
namespace Go.Proofs.YtmdlgnlfgfhkmaaGreat
open Go.RowKit

noncomputable def okRe (b : List UInt8) : Bool := decide (cntN (ob b) ≤ 40) && mayS (fieldsS (ob b)) && decide (blkS (fieldsS (ob b)) = b)
noncomputable def reE (b : List UInt8) : Int := if oe b = 0 then (if okRe b then 0 else 8) else oe b
noncomputable def reS (b : List UInt8) : Sp := if oe b = 0 then (if okRe b then fieldsS (ob b) else zeroSp) else zeroSp
theorem oe_zero {b : List UInt8} (h : oe b = 0) : b.length = 128 ∧ fits b ∧ ob b = b.drop 4 ∧ (ob b).length = 124 := by
  unfold oe at h
  by_cases h1 : b.length = 128
  · by_cases h2 : fits b
    · have e : ob b = b.drop 4 := by unfold ob; rw [if_pos ⟨h1, h2⟩]
      exact ⟨h1, h2, e, by rw [e, List.length_drop, h1]⟩
    · rw [if_pos h1, if_neg h2] at h
      cases h
  · rw [if_neg h1] at h
    cases h
theorem okRe_no {b : List UInt8} (h : ¬ cntN (ob b) ≤ 54) : okRe b = false := by
  have : decide (cntN (ob b) ≤ 40) = false := by simp; omega
  simp [okRe, this]
theorem okRe_may {b : List UInt8} (h : mayS (fieldsS (ob b)) = false) : okRe b = false := by simp [okRe, h]
theorem okRe_eq {b : List UInt8} (hc : cntN (ob b) ≤ 54) (h : mayS (fieldsS (ob b)) = true) : okRe b = decide (blkS (fieldsS (ob b)) = b) := by
  have h40 := (mayS_of h).2.1
  have hd : (fieldsS (ob b)).2.2.2.2 = deadN (ob b) (cntN (ob b)) := by simp [fieldsS, deadV, hc]
  rw [hd, deadN_length] at h40
  simp [okRe, h, h40]

end Go.Proofs.YtmdlgnlfgfhkmaaGreat

/-
  The document's answers of layer 4: Read. Conditions: those that each lemma states.
-/
namespace Go.Proofs.YtmdlgnlfgfhkmaaGreat
open Go.RowKit

section
variable {W : World} {g : Nat} {a b c d e u : Value} {t : TypeId}
theorem put5_0 (h : W.heap[g]? = some (.cells #[a, b, c, d, e] t (0, 0))) (u : Value) : ∃ W1, W.setCell ⟨g, 0, none⟩ u = W1 ∧ W1.heap[g]? = some (.cells #[u, b, c, d, e] t (0, 0)) ∧ W.grownBy W1 (some g) ∧ W1.heap.size = W.heap.size :=
  ⟨_, rfl, by simp [World.setCell, Array.getElem?_modify, h], grow_put (p := ⟨g, 0, none⟩) (grow_refl W (some g)) rfl u, by simp⟩
theorem put5_1 (h : W.heap[g]? = some (.cells #[a, b, c, d, e] t (0, 0))) (u : Value) : ∃ W1, W.setCell ⟨g, 1, none⟩ u = W1 ∧ W1.heap[g]? = some (.cells #[a, u, c, d, e] t (0, 0)) ∧ W.grownBy W1 (some g) ∧ W1.heap.size = W.heap.size :=
  ⟨_, rfl, by simp [World.setCell, Array.getElem?_modify, h], grow_put (p := ⟨g, 1, none⟩) (grow_refl W (some g)) rfl u, by simp⟩
theorem put5_2 (h : W.heap[g]? = some (.cells #[a, b, c, d, e] t (0, 0))) (u : Value) : ∃ W1, W.setCell ⟨g, 2, none⟩ u = W1 ∧ W1.heap[g]? = some (.cells #[a, b, u, d, e] t (0, 0)) ∧ W.grownBy W1 (some g) ∧ W1.heap.size = W.heap.size :=
  ⟨_, rfl, by simp [World.setCell, Array.getElem?_modify, h], grow_put (p := ⟨g, 2, none⟩) (grow_refl W (some g)) rfl u, by simp⟩
theorem put5_3 (h : W.heap[g]? = some (.cells #[a, b, c, d, e] t (0, 0))) (u : Value) : ∃ W1, W.setCell ⟨g, 3, none⟩ u = W1 ∧ W1.heap[g]? = some (.cells #[a, b, c, u, e] t (0, 0)) ∧ W.grownBy W1 (some g) ∧ W1.heap.size = W.heap.size :=
  ⟨_, rfl, by simp [World.setCell, Array.getElem?_modify, h], grow_put (p := ⟨g, 3, none⟩) (grow_refl W (some g)) rfl u, by simp⟩
theorem put5_4 (h : W.heap[g]? = some (.cells #[a, b, c, d, e] t (0, 0))) (u : Value) : ∃ W1, W.setCell ⟨g, 4, none⟩ u = W1 ∧ W1.heap[g]? = some (.cells #[a, b, c, d, u] t (0, 0)) ∧ W.grownBy W1 (some g) ∧ W1.heap.size = W.heap.size :=
  ⟨_, rfl, by simp [World.setCell, Array.getElem?_modify, h], grow_put (p := ⟨g, 4, none⟩) (grow_refl W (some g)) rfl u, by simp⟩
end
theorem getTwo_refB (A : Option Addr) (len cap : Nat) (k : Int) (xs : List UInt8) (hlen : Hid (xs.length = len)) (hlc : len ≤ cap) (hcap : cap ≤ 9223372036854775807) (w : World) (hx : Byt w w.heap.size A xs) :
    Calls Tryz.prog 102 #[.slice A len cap, .int .i64 k] w fun e w' => e = .returned (.tuple #[.int .i64 (gv 2 xs k), .int .i64 (ge 2 len k)]) ∧ Below w.heap.size w w' :=
  (getTwo_ref A len cap k xs hlen hlc hcap w hx).mono fun _ _ ⟨e, hw⟩ => ⟨e, hw ▸ Below.refl _ _⟩
theorem getFour_refB (A : Option Addr) (len cap : Nat) (k : Int) (xs : List UInt8) (hlen : Hid (xs.length = len)) (hlc : len ≤ cap) (hcap : cap ≤ 9223372036854775807) (w : World) (hx : Byt w w.heap.size A xs) :
    Calls Tryz.prog 101 #[.slice A len cap, .int .i64 k] w fun e w' => e = .returned (.tuple #[.int .u32 (gv 4 xs k), .int .i64 (ge 4 len k)]) ∧ Below w.heap.size w w' :=
  (getFour_ref A len cap k xs hlen hlc hcap w hx).mono fun _ _ ⟨e, hw⟩ => ⟨e, hw ▸ Below.refl _ _⟩
theorem okRe_many {b : List UInt8} (h : 40 < cntN (ob b)) : okRe b = false := by
  have : decide (cntN (ob b) ≤ 40) = false := by simp; omega
  simp [okRe, this]

end Go.Proofs.YtmdlgnlfgfhkmaaGreat

/-
  A bag's facts on superblocks. Conditions: those that each lemma states.
-/
namespace Go.Proofs.YtmdlgnlfgfhkmaaGreat
open Go.RowKit

/-- Five cells that are a box. -/
def Box5 (g : Nat) (a b c d e : Value) : World → Prop := fun w => w.cell? ⟨g, 0, none⟩ = some a ∧ w.cell? ⟨g, 1, none⟩ = some b ∧ w.cell? ⟨g, 2, none⟩ = some c ∧ w.cell? ⟨g, 3, none⟩ = some d ∧ w.cell? ⟨g, 4, none⟩ = some e ∧ g < w.heap.size
theorem lasts_box5 (g : Nat) (a b c d e : Value) : Lasts (Box5 g a b c d e) := fun _ _ h hb => ⟨(hb.cell (p := ⟨g, 0, none⟩) h.2.2.2.2.2).trans h.1, (hb.cell (p := ⟨g, 1, none⟩) h.2.2.2.2.2).trans h.2.1, (hb.cell (p := ⟨g, 2, none⟩) h.2.2.2.2.2).trans h.2.2.1, (hb.cell (p := ⟨g, 3, none⟩) h.2.2.2.2.2).trans h.2.2.2.1, (hb.cell (p := ⟨g, 4, none⟩) h.2.2.2.2.2).trans h.2.2.2.2.1, Nat.lt_of_lt_of_le h.2.2.2.2.2 hb.size⟩
def OldS (v : Value) (s : Sp) : World → Prop := fun w => Sup (Old w) w v s
theorem lasts_oldS (v : Value) (s : Sp) : Lasts (OldS v s) := fun _ _ h hb => h.below hb
/-- The value of a superblock, its list at A, c. -/
abbrev supV (s : Sp) (A : Option Addr) (c : Nat) : Value := .agg #[.int .u32 s.1, .int .i64 s.2.1, .int .u32 s.2.2.1, .int .u32 s.2.2.2.1, .slice A s.2.2.2.2.length c]
end Go.Proofs.YtmdlgnlfgfhkmaaGreat

/-
  Items and keys (api.Item, api.Key): how they read; which may be; their bytes; items as arguments. Conditions: those that each lemma states.
-/
namespace Go.Proofs.YtmdlgnlfgfhkmaaGreat
open Go.ChangeShapes Go.WideShapes Go.RowKit

/-! ### Keys: kind, id, off -/
abbrev Ky := UInt8 × Int × Int
def rKy : Rel Ky := rPair rU8 (rPair (rK .u32) (rK .u32))
theorem stab_ky : Stab rKy := stab_pair stab_u8 (stab_pair (stab_k _) (stab_k _))
structure InK (k : Ky) : Prop where
  id : InU k.2.1
  off : InU k.2.2
abbrev kyV (k : Ky) : Value := .agg #[.int .u8 (k.1.toNat : Int), .int .u32 k.2.1, .int .u32 k.2.2]
theorem rKy_open {ok : Addr → Prop} {w : World} {cs : List Value} {k : Ky} (h : rKy ok w cs k) : cs = [.int .u8 (k.1.toNat : Int), .int .u32 k.2.1, .int .u32 k.2.2] ∧ InK k := by
  obtain ⟨_, _, rfl, rfl, _, _, rfl, ⟨rfl, a1, a2⟩, ⟨rfl, b1, b2⟩⟩ := h
  simp [IntKind.min, IntKind.max, IntKind.signed, IntKind.bits] at a1 a2 b1 b2
  exact ⟨rfl, ⟨⟨a1, by omega⟩, ⟨b1, by omega⟩⟩⟩
theorem rKy_mk {ok : Addr → Prop} {w : World} {k : Ky} (h : InK k) : rKy ok w [.int .u8 (k.1.toNat : Int), .int .u32 k.2.1, .int .u32 k.2.2] k := by
  obtain ⟨⟨a1, a2⟩, ⟨b1, b2⟩⟩ := h
  refine ⟨[_], _, rfl, rfl, [_], _, rfl, ⟨rfl, ?_, ?_⟩, rfl, ?_, ?_⟩ <;> simp [IntKind.min, IntKind.max, IntKind.signed, IntKind.bits] <;> omega

/-! ### Items: key, ref, val -/
abbrev It := Ky × Int × List UInt8
def rIt : Rel It := rPair rKy (rPair (rK .i64) rBy)
theorem stab_it : Stab rIt := stab_pair stab_ky (stab_pair (stab_k _) stab_by)
structure InI (s : It) : Prop where
  key : InK s.1
  ref : In64 s.2.1
abbrev itV (s : It) (d : Value) : Value := .agg #[.int .u8 (s.1.1.toNat : Int), .int .u32 s.1.2.1, .int .u32 s.1.2.2, .int .i64 s.2.1, d]
/-- A value that reads as an item. -/
def Itm (ok : Addr → Prop) (w : World) (v : Value) (s : It) : Prop := ∃ d, v = itV s d ∧ InI s ∧ rBy ok w [d] s.2.2
theorem rIt_open {ok : Addr → Prop} {w : World} {cs : List Value} {s : It} (h : rIt ok w cs s) : ∃ d, cs = [.int .u8 (s.1.1.toNat : Int), .int .u32 s.1.2.1, .int .u32 s.1.2.2, .int .i64 s.2.1, d] ∧ InI s ∧ rBy ok w [d] s.2.2 := by
  obtain ⟨_, _, rfl, hk, _, _, rfl, ⟨rfl, a1, a2⟩, hd⟩ := h
  obtain ⟨rfl, hi⟩ := rKy_open hk
  obtain ⟨A, cap, rfl, hd'⟩ := hd
  simp [IntKind.min, IntKind.max, IntKind.signed, IntKind.bits] at a1 a2
  exact ⟨_, rfl, ⟨hi, ⟨a1, a2⟩⟩, A, cap, rfl, hd'⟩
theorem rIt_mk {ok : Addr → Prop} {w : World} {d : Value} {s : It} (h : InI s) (hd : rBy ok w [d] s.2.2) : rIt ok w [.int .u8 (s.1.1.toNat : Int), .int .u32 s.1.2.1, .int .u32 s.1.2.2, .int .i64 s.2.1, d] s := by
  obtain ⟨hk, ⟨a1, a2⟩⟩ := h
  refine ⟨[_, _, _], _, rfl, rKy_mk hk, [_], _, rfl, ⟨rfl, ?_, ?_⟩, hd⟩ <;> simp [IntKind.min, IntKind.max, IntKind.signed, IntKind.bits] <;> omega
theorem Itm.cells {ok : Addr → Prop} {w : World} {v : Value} {s : It} (h : Itm ok w v s) : rIt ok w v.cells.toList s := by
  obtain ⟨d, rfl, h1, h2⟩ := h
  exact rIt_mk h1 h2
theorem Itm.map {ok ok' : Addr → Prop} {w w' : World} {v : Value} {s : It} (hk : ∀ p v, ok p → w.cell? p = some v → ok' p ∧ w'.cell? p = some v) (h : Itm ok w v s) : Itm ok' w' v s := by
  obtain ⟨d, e, h1, h2⟩ := h
  exact ⟨d, e, h1, stab_by _ _ _ _ _ _ hk h2⟩
theorem Itm.below {w w' : World} {v : Value} {s : It} (h : Itm (Old w) w v s) (hb : Below w.heap.size w w') : Itm (Old w') w' v s :=
  h.map fun _ _ hp hc => ⟨Nat.lt_of_lt_of_le hp hb.size, (hb.cell hp).trans hc⟩
theorem Itm.drop {lo : Nat} {w : World} {v : Value} {s : It} (h : Itm (New lo w) w v s) : Itm (Old w) w v s :=
  h.map fun _ _ hp hc => ⟨hp.2.1, hc⟩
theorem Itm.new {lo lo' : Nat} {w w' : World} {v : Value} {s : It} (h : Itm (New lo w) w v s) (hl : lo' ≤ lo) (hb : Below w.heap.size w w') : Itm (New lo' w') w' v s :=
  h.map fun _ _ hp hc => ⟨⟨Nat.le_trans hl hp.1, Nat.lt_of_lt_of_le hp.2.1 hb.size, (hb.frozen hp.2.1).trans hp.2.2⟩, (hb.cell hp.2.1).trans hc⟩
theorem Itm.grown {w w' : World} {lo : Nat} {v : Value} {s : It} {row : Option Nat} (h : Itm (New lo w) w v s) (hg : w.grownBy w' row) (hr : ∀ q, row = some q → q < lo) : Itm (New lo w') w' v s := by
  obtain ⟨d, e, h1, h2⟩ := h
  exact ⟨d, e, h1, stab_by.grown h2 hg hr⟩
/-- An item, opened. -/
theorem Itm.open {ok : Addr → Prop} {w : World} {v : Value} {s : It} (h : Itm ok w v s) : ∃ A c, v = itV s (.slice A s.2.2.length c) ∧ InI s ∧ s.2.2.length ≤ c ∧ c ≤ 9223372036854775807 ∧ rBy ok w [.slice A s.2.2.length c] s.2.2 := by
  obtain ⟨d, rfl, h1, h2⟩ := h
  obtain ⟨A, c, rfl, h3, h4, h5⟩ := rBy_open h2
  exact ⟨A, c, rfl, h1, h3, h4, h2⟩
/-- A box of three. -/
theorem box_three (w : World) (a b c : Value) (t : TypeId) : ∃ w1, w.alloc (.cells #[a, b, c] t) = w1 ∧ w1.cell? ⟨w.heap.size, 0, none⟩ = some a ∧ w1.cell? ⟨w.heap.size, 1, none⟩ = some b ∧ w1.cell? ⟨w.heap.size, 2, none⟩ = some c ∧ w1.heap.size = w.heap.size + 1 ∧ Below w.heap.size w w1 ∧ w1.heap[w.heap.size]? = some (.cells #[a, b, c] t (0, 0)) :=
  ⟨_, rfl, by simp, by simp, by simp, by simp, (Below.refl _ _).alloc (Nat.le_refl _) _, heap_alloc_new _ _⟩

/-! ### Which items may be; their bytes -/
def mayI (s : It) : Bool := (decide (s.2.1 = 0) || (decide (8 ≤ s.2.1) && decide (s.2.1 < 256))) && decide (s.2.2.length ≤ 12)
def chkI (s : It) : Int := if mayI s then 0 else 8
theorem mayI_of {s : It} (h : mayI s = true) : (s.2.1 = 0 ∨ (8 ≤ s.2.1 ∧ s.2.1 < 256)) ∧ s.2.2.length ≤ 12 := by
  simpa [mayI] using h
theorem mayI_mk {s : It} (h : (s.2.1 = 0 ∨ (8 ≤ s.2.1 ∧ s.2.1 < 256)) ∧ s.2.2.length ≤ 12) : mayI s = true := by simpa [mayI] using h
theorem mayI_no {s : It} (h : ¬ ((s.2.1 = 0 ∨ (8 ≤ s.2.1 ∧ s.2.1 < 256)) ∧ s.2.2.length ≤ 12)) : mayI s = false := by
  cases e : mayI s with
  | true => exact absurd (mayI_of e) h
  | false => rfl
theorem chkI_ok {s : It} (h : mayI s = true) : chkI s = 0 := by simp [chkI, h]
theorem chkI_bad {s : It} (h : mayI s = false) : chkI s = 8 := by simp [chkI, h]
theorem chkI_in (s : It) : In64 (chkI s) := by
  unfold chkI
  split <;> exact ⟨by decide, by decide⟩
def itB (s : It) : List UInt8 := [s.1.1] ++ (le 4 s.1.2.1 ++ (le 4 s.1.2.2 ++ (le 2 s.2.1 ++ ([UInt8.ofNat s.2.2.length] ++ s.2.2))))
theorem itB_length (s : It) : (itB s).length = 12 + s.2.2.length := by simp [itB, le_length]; omega
def wrI (s : It) : List UInt8 := if mayI s then itB s else []
def zeroI : It := ((0, 0, 0), 0, [])
theorem inI_zero : InI zeroI := ⟨⟨⟨by decide, by decide⟩, ⟨by decide, by decide⟩⟩, ⟨by decide, by decide⟩⟩
theorem itm_zero (ok : Addr → Prop) (w : World) : Itm ok w (.agg #[.int .u8 0, .int .u32 0, .int .u32 0, .int .i64 0, .slice none 0 0]) zeroI := ⟨_, rfl, inI_zero, none, 0, rfl, by simp [zeroI], by omega, fun i x h => by simp [zeroI] at h⟩

/-! ### Arguments -/
set_option maxRecDepth 100000 in
theorem opens_key : Opens Tryz.prog 50 rKy := opens_struct Tryz.underlying50 (opensF_cons rfl (opens_u8 Tryz.underlying5) (opensF_cons (by kernel_rfl) (opens_k Tryz.underlying48) (opensF_one (by kernel_rfl) (by kernel_rfl) (opens_k Tryz.underlying48))))
set_option maxRecDepth 100000 in
theorem opens_by8 : Opens Tryz.prog 26 rBy := opens_sl Tryz.underlying26 (by kernel_rfl) (opens_u8 Tryz.underlying5)
set_option maxRecDepth 100000 in
theorem opens_item : Opens Tryz.prog 52 rIt := opens_struct Tryz.underlying52 (opensF_cons rfl opens_key (opensF_cons (by kernel_rfl) (opens_k Tryz.underlying3) (opensF_one (by kernel_rfl) (by kernel_rfl) opens_by8)))
set_option maxRecDepth 100000 in
/-- An item that came in. -/
theorem open_item {H : Type} {enc : TypeId × Value → H} {w : World} {b0 : Nat} {spare : Nat → Bool} {held : Bool} {r : Reach} {v : Value} {x : DataW H} {ps : List MemPlace} (hval : Value.okWide Tryz.prog w r b0 52 v) (hd : DataW.Trod enc Tryz.prog w 0 spare held 52 v x ps) :
    ∃ s, Itm (Old w) w v s := by
  obtain ⟨cs, rfl, _⟩ := okWide_struct Tryz.underlying52 hval
  obtain ⟨s, hs⟩ := open_rel opens_item hd
  obtain ⟨d, h1, h2, h3⟩ := rIt_open hs
  exact ⟨s, d, by obtain ⟨cs⟩ := cs; simp [Value.cells] at h1; rw [h1], h2, h3⟩
set_option maxRecDepth 100000 in
/-- A key that came in. -/
theorem open_key {H : Type} {enc : TypeId × Value → H} {w : World} {b0 : Nat} {spare : Nat → Bool} {held : Bool} {r : Reach} {v : Value} {x : DataW H} {ps : List MemPlace} (hval : Value.okWide Tryz.prog w r b0 50 v) (hd : DataW.Trod enc Tryz.prog w 0 spare held 50 v x ps) :
    ∃ k, v = kyV k ∧ InK k := by
  obtain ⟨cs, rfl, _⟩ := okWide_struct Tryz.underlying50 hval
  obtain ⟨s, hs⟩ := open_rel opens_key hd
  obtain ⟨h1, h2⟩ := rKy_open hs
  exact ⟨s, by obtain ⟨cs⟩ := cs; simp [Value.cells] at h1; rw [h1], h2⟩
end Go.Proofs.YtmdlgnlfgfhkmaaGreat

/-
  Package item and the document's answers of layer 5: Less; cmp.Compare, cmp.Or at numbers. Conditions: those that each lemma states.
-/
namespace Go.Proofs.YtmdlgnlfgfhkmaaGreat
open Go.RowKit

/-- How two numbers stand. -/
def cmpN (a b : Int) : Int := if a < b then -1 else if b < a then 1 else 0
theorem cmpN_lt {a b : Int} (h : a < b) : cmpN a b = -1 := if_pos h
theorem cmpN_gt {a b : Int} (h : b < a) : cmpN a b = 1 := by unfold cmpN; rw [if_neg (by omega), if_pos h]
theorem cmpN_eq {a b : Int} (h : a = b) : cmpN a b = 0 := by subst h; simp [cmpN]
theorem cmpN_in (a b : Int) : In64 (cmpN a b) := by
  unfold cmpN
  split
  · exact ⟨by decide, by decide⟩
  · split <;> exact ⟨by decide, by decide⟩
def lessK (a b : Ky) : Bool := if a.1.toNat ≠ b.1.toNat then decide (a.1.toNat < b.1.toNat) else if a.2.1 ≠ b.2.1 then decide (a.2.1 < b.2.1) else decide (a.2.2 < b.2.2)
theorem orN_three (a b c : Int) : orN [a, b, c] = if a ≠ 0 then a else if b ≠ 0 then b else c := by
  unfold orN
  by_cases h : a = 0
  · subst h
    by_cases h : b = 0
    · subst h
      by_cases h : c = 0
      · subst h; rfl
      · simp [h]
    · simp [h]
  · simp [h]
theorem less_or (a b : Ky) : decide (orN [cmpN a.1.toNat b.1.toNat, cmpN a.2.1 b.2.1, cmpN a.2.2 b.2.2] < 0) = lessK a b := by
  rw [orN_three]
  unfold lessK
  have z : ¬ (0 : Int) ≠ 0 := by omega
  have m1 : (-1 : Int) ≠ 0 := by omega
  have p1 : (1 : Int) ≠ 0 := by omega
  rcases Nat.lt_trichotomy a.1.toNat b.1.toNat with h | h | h
  · rw [cmpN_lt (by omega), if_pos m1, if_pos (show a.1.toNat ≠ b.1.toNat by omega)]; simp [h]
  · rw [cmpN_eq (show (a.1.toNat : Int) = b.1.toNat by omega), if_neg z, if_neg (show ¬ a.1.toNat ≠ b.1.toNat by omega)]
    rcases Int.lt_trichotomy a.2.1 b.2.1 with h1 | h1 | h1
    · rw [cmpN_lt h1, if_pos m1, if_pos (show a.2.1 ≠ b.2.1 by omega)]; simp [h1]
    · rw [cmpN_eq h1, if_neg z, if_neg (show ¬ a.2.1 ≠ b.2.1 by omega)]
      rcases Int.lt_trichotomy a.2.2 b.2.2 with h2 | h2 | h2
      · rw [cmpN_lt h2]; simp [h2]
      · rw [cmpN_eq h2]; simp [h2]
      · rw [cmpN_gt h2, decide_eq_false (show ¬ (1 : Int) < 0 by omega), decide_eq_false (show ¬ a.2.2 < b.2.2 by omega)]
    · rw [cmpN_gt h1, if_pos p1, if_pos (show a.2.1 ≠ b.2.1 by omega), decide_eq_false (show ¬ (1 : Int) < 0 by omega), decide_eq_false (show ¬ a.2.1 < b.2.1 by omega)]
  · rw [cmpN_gt (show (b.1.toNat : Int) < a.1.toNat by omega), if_pos p1, if_pos (show a.1.toNat ≠ b.1.toNat by omega), decide_eq_false (show ¬ (1 : Int) < 0 by omega), decide_eq_false (show ¬ a.1.toNat < b.1.toNat by omega)]

set_option maxRecDepth 100000 in
theorem isNaN8 (a : Int) (w : World) : Calls Tryz.prog 84 #[.int .u8 a] w fun e w' => e = .returned (.bool false) ∧ w = w' := by
  go_enter Tryz.func84, Tryz.ntmps84
  go_wp2_with fail
  go_ret
  exact ⟨ret_bool (by simp), rfl⟩
set_option maxRecDepth 100000 in
theorem isNaN32 (a : Int) (w : World) : Calls Tryz.prog 85 #[.int .u32 a] w fun e w' => e = .returned (.bool false) ∧ w = w' := by
  go_enter Tryz.func85, Tryz.ntmps85
  go_wp2_with fail
  go_ret
  exact ⟨ret_bool (by simp), rfl⟩
set_option maxRecDepth 100000 in
theorem compare8 (a b : Int) (w : World) : Calls Tryz.prog 70 #[.int .u8 a, .int .u8 b] w fun e w' => e = .returned (.int .i64 (cmpN a b)) ∧ w = w' := by
  rcases Int.lt_trichotomy a b with h | h | h
  · rw [cmpN_lt h]
    go_enter Tryz.func70, Tryz.ntmps70
    go_wp2_with fail
    with_reducible refine (isNaN8 a _).mono ?_
    rintro e w1 ⟨rfl, rfl⟩
    go_wp2_with fail
    with_reducible refine (isNaN8 b _).mono ?_
    rintro e w1 ⟨rfl, rfl⟩
    go_wp2_with fail
    go_ret
    exact ⟨rfl, rfl⟩
  · rw [cmpN_eq h]
    subst h
    go_enter Tryz.func70, Tryz.ntmps70
    go_wp2_with fail
    with_reducible refine (isNaN8 a _).mono ?_
    rintro e w1 ⟨rfl, rfl⟩
    go_wp2_with fail
    with_reducible refine (isNaN8 a _).mono ?_
    rintro e w1 ⟨rfl, rfl⟩
    go_wp2_with fail
    go_ret
    exact ⟨rfl, rfl⟩
  · rw [cmpN_gt h]
    have h2 : ¬ a < b := by omega
    go_enter Tryz.func70, Tryz.ntmps70
    go_wp2_with fail
    with_reducible refine (isNaN8 a _).mono ?_
    rintro e w1 ⟨rfl, rfl⟩
    go_wp2_with fail
    with_reducible refine (isNaN8 b _).mono ?_
    rintro e w1 ⟨rfl, rfl⟩
    go_wp2_with fail
    go_ret
    exact ⟨rfl, rfl⟩
set_option maxRecDepth 100000 in
theorem compare32 (a b : Int) (w : World) : Calls Tryz.prog 71 #[.int .u32 a, .int .u32 b] w fun e w' => e = .returned (.int .i64 (cmpN a b)) ∧ w = w' := by
  rcases Int.lt_trichotomy a b with h | h | h
  · rw [cmpN_lt h]
    go_enter Tryz.func71, Tryz.ntmps71
    go_wp2_with fail
    with_reducible refine (isNaN32 a _).mono ?_
    rintro e w1 ⟨rfl, rfl⟩
    go_wp2_with fail
    with_reducible refine (isNaN32 b _).mono ?_
    rintro e w1 ⟨rfl, rfl⟩
    go_wp2_with fail
    go_ret
    exact ⟨rfl, rfl⟩
  · rw [cmpN_eq h]
    subst h
    go_enter Tryz.func71, Tryz.ntmps71
    go_wp2_with fail
    with_reducible refine (isNaN32 a _).mono ?_
    rintro e w1 ⟨rfl, rfl⟩
    go_wp2_with fail
    with_reducible refine (isNaN32 a _).mono ?_
    rintro e w1 ⟨rfl, rfl⟩
    go_wp2_with fail
    go_ret
    exact ⟨rfl, rfl⟩
  · rw [cmpN_gt h]
    have h2 : ¬ a < b := by omega
    go_enter Tryz.func71, Tryz.ntmps71
    go_wp2_with fail
    with_reducible refine (isNaN32 a _).mono ?_
    rintro e w1 ⟨rfl, rfl⟩
    go_wp2_with fail
    with_reducible refine (isNaN32 b _).mono ?_
    rintro e w1 ⟨rfl, rfl⟩
    go_wp2_with fail
    go_ret
    exact ⟨rfl, rfl⟩
set_option maxRecDepth 100000 in
set_option maxHeartbeats 2000000 in
theorem orInt_any (v : Value) (xs : List Int) (w : World) (h : rInts (Old w) w [v] xs) :
    Calls Tryz.prog 69 #[v] w fun e w' => e = .returned (.int .i64 (orN xs)) ∧ w = w' := by
  obtain ⟨A, c, rfl, l1, m1, hA⟩ := rInts_open h
  have HA := Lib.hid hA
  clear hA h
  obtain ⟨n, hn⟩ : ∃ n, xs.length = n := ⟨_, rfl⟩
  rw [hn] at l1 ⊢
  replace hn := Lib.hid hn
  go_enter Tryz.func69, Tryz.ntmps69
  go_wp2_with fail
  go_loop [8] (fun i => ∃ k : Nat, k ≤ n ∧ i = .int .i64 k ∧ ∀ y ∈ xs.take k, y = 0) (fun i => n - (intOf i).toNat)
  case atStart => exact ⟨0, by omega, rfl, fun y hy => by simp at hy⟩
  case round =>
    obtain ⟨k, hk, rfl, ha⟩ := hrel
    replace ha := Lib.hid ha
    by_cases hlt : k < n
    · obtain ⟨x, hx⟩ : ∃ x, xs[k]? = some x := ⟨_, List.getElem?_eq_getElem (by rw [hn.out]; exact hlt)⟩
      obtain ⟨ad, rfl, hok, hc, _⟩ := HA.out k x hx
      replace hx := Lib.hid hx
      by_cases e : x = 0
      · have he : (x != 0) = false := by simpa using e
        replace e := Lib.hid e
        go_wp2_with fail
        go_round
        case rel => exact ⟨k + 1, by omega, by go_num, fun y hy => by
          rw [List.take_add_one, hx.out] at hy
          simp at hy
          rcases hy with hy | hy
          · exact ha.out y hy
          · rw [hy]; exact e.out⟩
        case measure => simp [intOf]; omega
      · have he : (x != 0) = true := by simpa using e
        have hor := Lib.hid (orN_take ha.out hx.out e)
        clear e
        go_wp2_with fail
        go_ret
        exact ⟨ret_int hor.out.symm, rfl⟩
    · have hge : n ≤ k := by omega
      have hor : Hid (orN xs = 0) := Lib.hid (orN_zero (by
        have := ha.out
        rwa [List.take_of_length_le (by rw [hn.out]; exact hge)] at this))
      go_wp2_with fail
      go_ret
      exact ⟨ret_int hor.out.symm, rfl⟩

set_option maxRecDepth 100000 in
set_option maxHeartbeats 4000000 in
theorem less_any (a b : Ky) (w : World) :
    Calls Tryz.prog 52 #[kyV a, kyV b] w fun e w' => e = .returned (.bool (lessK a b)) ∧ Below w.heap.size w w' := by
  have hfin := Lib.hid (less_or a b)
  obtain ⟨ak, ai, ao⟩ := a
  obtain ⟨bk, bi, bo⟩ := b
  unfold kyV
  dsimp only at hfin ⊢
  generalize lessK (ak, ai, ao) (bk, bi, bo) = res at hfin ⊢
  obtain ⟨p, hp⟩ : ∃ p : Int, (ak.toNat : Int) = p := ⟨_, rfl⟩
  obtain ⟨q, hq⟩ : ∃ q : Int, (bk.toNat : Int) = q := ⟨_, rfl⟩
  rw [hp, hq] at hfin ⊢
  clear hp hq
  obtain ⟨w1, hw1, f1, f2, f3, hs1, hB1, _⟩ := box_three w (.int .u8 p) (.int .u32 ai) (.int .u32 ao) 50
  obtain ⟨w2, hw2, g1, g2, g3, hs2, hB2, _⟩ := box_three w1 (.int .u8 q) (.int .u32 bi) (.int .u32 bo) 50
  have hB := Lib.hid (hB1.trans (hB2.mono hB1.size))
  have k1 := (hB2.cell (p := ⟨w.heap.size, 0, none⟩) (show w.heap.size < _ by omega)).trans f1
  have k2 := (hB2.cell (p := ⟨w.heap.size, 1, none⟩) (show w.heap.size < _ by omega)).trans f2
  have k3 := (hB2.cell (p := ⟨w.heap.size, 2, none⟩) (show w.heap.size < _ by omega)).trans f3
  have lt1 : w.heap.size < w2.heap.size := by omega
  have lt2 : w1.heap.size < w2.heap.size := by omega
  have i1 := Lib.hid (cmpN_in p q)
  have i2 := Lib.hid (cmpN_in ai bi)
  have i3 := Lib.hid (cmpN_in ao bo)
  obtain ⟨c1, h1⟩ : ∃ c, cmpN p q = c := ⟨_, rfl⟩
  obtain ⟨c2, h2⟩ : ∃ c, cmpN ai bi = c := ⟨_, rfl⟩
  obtain ⟨c3, h3⟩ : ∃ c, cmpN ao bo = c := ⟨_, rfl⟩
  rw [h1] at i1 hfin
  rw [h2] at i2 hfin
  rw [h3] at i3 hfin
  replace h1 := Lib.hid h1
  replace h2 := Lib.hid h2
  replace h3 := Lib.hid h3
  obtain ⟨c, hc⟩ : ∃ c, orN [c1, c2, c3] = c := ⟨_, rfl⟩
  rw [hc] at hfin
  replace hc := Lib.hid hc
  clear f1 f2 f3 hB1 hB2
  replace hs1 := Lib.hid hs1
  replace hs2 := Lib.hid hs2
  go_enter Tryz.func52, Tryz.ntmps52
  go_upto_region 1 with fail
  clear hw1 hw2
  refine wp_region_fx (by kernel_rfl) (fun W => Below w2.heap.size w2 W) (fun i => match i with
      | 15 => some (fun v W => rInts (Old W) W [v] [c1, c2, c3])
      | _ => none) (fun i => match i with
      | 4 => some (.int .i64 c1)
      | 9 => some (.int .i64 c2)
      | 14 => some (.int .i64 c3)
      | 16 => some (.int .i64 c)
      | _ => none) (by kernel_rfl) (Below.refl _ _).drew (fun w w' h hb => h.trans (hb.mono h.size)) ?tst ?_
  case tst =>
    intro j φ x W W' hp hx hb
    match j, hp with
    | 15, hp => cases hp; exact stab_ints.old hx hb
  repeat (first
    | (refine wpAs_skip rfl ?_; simp only [Act.put, List.setIfInBounds_toArray, List.set_cons_zero, List.set_cons_succ])
    | (refine wpAs_pure (v := ?_) rfl rfl ?_ ?_; rotate_left; (intro W hC hE; clear hE; (have z1 := (hC.cell (p := ⟨w.heap.size, 0, none⟩) lt1).trans k1; have z2 := (hC.cell (p := ⟨w1.heap.size, 0, none⟩) lt2).trans g1); clear hC; go_simp; done); simp only [Act.put, List.setIfInBounds_toArray, List.set_cons_zero, List.set_cons_succ])
    | (refine wpAs_pure (v := ?_) rfl rfl ?_ ?_; rotate_left; (intro W hC hE; clear hE; (have z1 := (hC.cell (p := ⟨w.heap.size, 0, none⟩) lt1).trans k1; have z2 := (hC.cell (p := ⟨w1.heap.size, 0, none⟩) lt2).trans g1); clear hC; go_simp; with_reducible rfl); simp only [Act.put, List.setIfInBounds_toArray, List.set_cons_zero, List.set_cons_succ]))
  refine wpAs_fixed rfl rfl rfl ?_ ?_
  · intro W hC hE
    refine does_enter (f := 70) (args := #[.int .u8 p, .int .u8 q]) ?_ ?_
    · go_simp
    · refine (compare8 p q W).mono ?_
      rintro e w' ⟨rfl, rfl⟩; rw [h1.out]; have hg := Below.refl W.heap.size W
      exact ⟨_, rfl, rfl, hg⟩
  simp only [Act.put, List.setIfInBounds_toArray, List.set_cons_zero, List.set_cons_succ]
  repeat (first
    | (refine wpAs_skip rfl ?_; simp only [Act.put, List.setIfInBounds_toArray, List.set_cons_zero, List.set_cons_succ])
    | (refine wpAs_pure (v := ?_) rfl rfl ?_ ?_; rotate_left; (intro W hC hE; clear hE; (have z1 := (hC.cell (p := ⟨w.heap.size, 1, none⟩) lt1).trans k2; have z2 := (hC.cell (p := ⟨w1.heap.size, 1, none⟩) lt2).trans g2); clear hC; go_simp; done); simp only [Act.put, List.setIfInBounds_toArray, List.set_cons_zero, List.set_cons_succ])
    | (refine wpAs_pure (v := ?_) rfl rfl ?_ ?_; rotate_left; (intro W hC hE; clear hE; (have z1 := (hC.cell (p := ⟨w.heap.size, 1, none⟩) lt1).trans k2; have z2 := (hC.cell (p := ⟨w1.heap.size, 1, none⟩) lt2).trans g2); clear hC; go_simp; with_reducible rfl); simp only [Act.put, List.setIfInBounds_toArray, List.set_cons_zero, List.set_cons_succ]))
  refine wpAs_fixed rfl rfl rfl ?_ ?_
  · intro W hC hE
    refine does_enter (f := 71) (args := #[.int .u32 ai, .int .u32 bi]) ?_ ?_
    · go_simp
    · refine (compare32 ai bi W).mono ?_
      rintro e w' ⟨rfl, rfl⟩; rw [h2.out]; have hg := Below.refl W.heap.size W
      exact ⟨_, rfl, rfl, hg⟩
  simp only [Act.put, List.setIfInBounds_toArray, List.set_cons_zero, List.set_cons_succ]
  repeat (first
    | (refine wpAs_skip rfl ?_; simp only [Act.put, List.setIfInBounds_toArray, List.set_cons_zero, List.set_cons_succ])
    | (refine wpAs_pure (v := ?_) rfl rfl ?_ ?_; rotate_left; (intro W hC hE; clear hE; (have z1 := (hC.cell (p := ⟨w.heap.size, 2, none⟩) lt1).trans k3; have z2 := (hC.cell (p := ⟨w1.heap.size, 2, none⟩) lt2).trans g3); clear hC; go_simp; done); simp only [Act.put, List.setIfInBounds_toArray, List.set_cons_zero, List.set_cons_succ])
    | (refine wpAs_pure (v := ?_) rfl rfl ?_ ?_; rotate_left; (intro W hC hE; clear hE; (have z1 := (hC.cell (p := ⟨w.heap.size, 2, none⟩) lt1).trans k3; have z2 := (hC.cell (p := ⟨w1.heap.size, 2, none⟩) lt2).trans g3); clear hC; go_simp; with_reducible rfl); simp only [Act.put, List.setIfInBounds_toArray, List.set_cons_zero, List.set_cons_succ]))
  refine wpAs_fixed rfl rfl rfl ?_ ?_
  · intro W hC hE
    refine does_enter (f := 71) (args := #[.int .u32 ao, .int .u32 bo]) ?_ ?_
    · go_simp
    · refine (compare32 ao bo W).mono ?_
      rintro e w' ⟨rfl, rfl⟩; rw [h3.out]; have hg := Below.refl W.heap.size W
      exact ⟨_, rfl, rfl, hg⟩
  simp only [Act.put, List.setIfInBounds_toArray, List.set_cons_zero, List.set_cons_succ]
  refine wpAs_act rfl rfl ?_ ?_
  · intro W hC hE
    clear hE
    have hl := Lib.hid (ints_lit W 3 [c1, c2, c3] #[.int .i64 c1, .int .i64 c2, .int .i64 c3] rfl (by simp) (fun x hx => by
      simp at hx
      rcases hx with rfl | rfl | rfl
      · exact i1.out
      · exact i2.out
      · exact i3.out))
    clear hC
    go_simp
    exact ⟨hl.out, (Below.refl _ _).alloc (Nat.le_refl _) _⟩
  simp only [Act.put, List.setIfInBounds_toArray, List.set_cons_zero, List.set_cons_succ, envAdd]
  intro x20
  refine wpAs_fixed rfl rfl rfl ?_ ?_
  · intro W hC hE
    have y20 := hE.1 rfl
    refine does_enter (f := 69) (args := #[x20]) ?_ ?_
    · clear hE hC
      obtain ⟨_, _, e, _⟩ := rInts_open y20
      cases e
      clear y20
      go_simp
    · refine (orInt_any x20 _ W y20).mono ?_
      rintro e w' ⟨rfl, rfl⟩
      rw [hc.out]
      exact ⟨_, rfl, rfl, Below.refl _ _⟩
  simp only [Act.put, List.setIfInBounds_toArray, List.set_cons_zero, List.set_cons_succ]
  repeat (first
    | (refine wpAs_skip rfl ?_; simp only [Act.put, List.setIfInBounds_toArray, List.set_cons_zero, List.set_cons_succ])
    | (refine wpAs_pure (v := ?_) rfl rfl ?_ ?_; rotate_left; (intro W hC hE; clear hE; skip; clear hC; go_simp; done); simp only [Act.put, List.setIfInBounds_toArray, List.set_cons_zero, List.set_cons_succ])
    | (refine wpAs_pure (v := ?_) rfl rfl ?_ ?_; rotate_left; (intro W hC hE; clear hE; skip; clear hC; go_simp; with_reducible rfl); simp only [Act.put, List.setIfInBounds_toArray, List.set_cons_zero, List.set_cons_succ]))
  refine wpAs_end fun W hC hE => ?_
  clear hE
  go_wp2
  go_ret
  exact ⟨ret_bool (by rw [← hfin.out]), hB.out.trans (hC.mono hB.out.size)⟩
end Go.Proofs.YtmdlgnlfgfhkmaaGreat

/-
  Package item and the document's answers of layer 5: Check. Conditions: those that each lemma states.
-/
namespace Go.Proofs.YtmdlgnlfgfhkmaaGreat
open Go.RowKit

/-- The five ways of a Ref and a length. -/
theorem may_ways (s : It) (n : Nat) (hn : s.2.2.length = n) : (s.2.1 = 0 ∧ n ≤ 12 ∧ mayI s = true) ∨ (s.2.1 = 0 ∧ 12 < n ∧ mayI s = false) ∨ (s.2.1 ≠ 0 ∧ s.2.1 < 8 ∧ mayI s = false) ∨ (s.2.1 ≠ 0 ∧ ¬ s.2.1 < 8 ∧ 256 ≤ s.2.1 ∧ mayI s = false) ∨ (s.2.1 ≠ 0 ∧ ¬ s.2.1 < 8 ∧ ¬ 256 ≤ s.2.1 ∧ n ≤ 12 ∧ mayI s = true) ∨ (s.2.1 ≠ 0 ∧ ¬ s.2.1 < 8 ∧ ¬ 256 ≤ s.2.1 ∧ 12 < n ∧ mayI s = false) := by
  subst hn
  cases e : mayI s with
  | true =>
    have := mayI_of e
    simp only [and_true, reduceCtorEq, and_false, or_false, false_or]
    omega
  | false =>
    have : ¬ ((s.2.1 = 0 ∨ (8 ≤ s.2.1 ∧ s.2.1 < 256)) ∧ s.2.2.length ≤ 12) := fun h => by rw [mayI_mk h] at e; cases e
    simp only [and_true, reduceCtorEq, and_false, false_or]
    omega

set_option maxRecDepth 100000 in
set_option maxHeartbeats 2000000 in
theorem checkI_any (v : Value) (s : It) (w : World) (h : Itm (Old w) w v s) : Calls Tryz.prog 50 #[v] w fun e w' => e = .returned (.int .i64 (chkI s)) ∧ Below w.heap.size w w' := by
  obtain ⟨A, c, rfl, _, l1, m1, _⟩ := h.open
  obtain ⟨n, hn⟩ : ∃ n, s.2.2.length = n := ⟨_, rfl⟩
  have hw := may_ways s n hn
  unfold itV
  rw [hn] at l1 ⊢
  obtain ⟨w0, hw0, f1, f2, f3, f4, f5, hs0, hB0, _⟩ := box_five w (.int .u8 (s.1.1.toNat : Int)) (.int .u32 s.1.2.1) (.int .u32 s.1.2.2) (.int .i64 s.2.1) (.slice A n c) 52
  clear f1 f2 f3 hs0 hn h
  have HB0 := Lib.hid hB0
  clear hB0
  obtain ⟨r, hr⟩ : ∃ r, s.2.1 = r := ⟨_, rfl⟩
  rw [hr] at hw f4 ⊢
  rw [hr] at hw0
  clear hr
  rcases hw with ⟨rfl, h1, hm⟩ | ⟨rfl, h1, hm⟩ | ⟨h0, h1, hm⟩ | ⟨h0, h1, h2, hm⟩ | ⟨h0, h1, h2, h3, hm⟩ | ⟨h0, h1, h2, h3, hm⟩
  · have hc := Lib.hid (chkI_ok hm)
    have i1 : ¬ (12 : Int) < n := by omega
    clear hm
    rw [hc.out]
    go_enter Tryz.func50, Tryz.ntmps50
    go_upto_region 1 with fail
    clear hw0
    go_wp2_with fail
    go_ret
    exact ⟨rfl, HB0.out⟩
  · have hc := Lib.hid (chkI_bad hm)
    have i1 : (12 : Int) < n := by omega
    clear hm
    rw [hc.out]
    go_enter Tryz.func50, Tryz.ntmps50
    go_upto_region 1 with fail
    clear hw0
    go_wp2_with fail
    go_ret
    exact ⟨rfl, HB0.out⟩
  · have hc := Lib.hid (chkI_bad hm)
    have t0 : (r != 0) = true := by simpa using h0
    have t1 : (r == 0) = false := by simpa using h0
    clear h0
    clear hm
    rw [hc.out]
    go_enter Tryz.func50, Tryz.ntmps50
    go_upto_region 1 with fail
    clear hw0
    go_wp2_with fail
    go_ret
    exact ⟨rfl, HB0.out⟩
  · have hc := Lib.hid (chkI_bad hm)
    have t0 : (r != 0) = true := by simpa using h0
    have t1 : (r == 0) = false := by simpa using h0
    clear h0
    clear hm
    rw [hc.out]
    go_enter Tryz.func50, Tryz.ntmps50
    go_upto_region 1 with fail
    clear hw0
    go_wp2_with fail
    go_ret
    exact ⟨rfl, HB0.out⟩
  · have hc := Lib.hid (chkI_ok hm)
    have t0 : (r != 0) = true := by simpa using h0
    have t1 : (r == 0) = false := by simpa using h0
    have i4 : ¬ (12 : Int) < n := by omega
    clear h0
    clear hm
    rw [hc.out]
    go_enter Tryz.func50, Tryz.ntmps50
    go_upto_region 1 with fail
    clear hw0
    go_wp2_with fail
    go_ret
    exact ⟨rfl, HB0.out⟩
  · have hc := Lib.hid (chkI_bad hm)
    have t0 : (r != 0) = true := by simpa using h0
    have t1 : (r == 0) = false := by simpa using h0
    have i4 : (12 : Int) < n := by omega
    clear h0
    clear hm
    rw [hc.out]
    go_enter Tryz.func50, Tryz.ntmps50
    go_upto_region 1 with fail
    clear hw0
    go_wp2_with fail
    go_ret
    exact ⟨rfl, HB0.out⟩

set_option maxRecDepth 100000 in
set_option maxHeartbeats 2000000 in
theorem refMayI_any (v : Value) (s : It) (w : World) (h : Itm (Old w) w v s) : Calls Tryz.prog 40 #[v] w fun e w' => e = .returned (.bool (mayI s)) ∧ Below w.heap.size w w' := by
  obtain ⟨A, c, rfl, _, l1, m1, _⟩ := h.open
  obtain ⟨n, hn⟩ : ∃ n, s.2.2.length = n := ⟨_, rfl⟩
  have hw := may_ways s n hn
  unfold itV
  rw [hn] at l1 ⊢
  obtain ⟨w0, hw0, f1, f2, f3, f4, f5, hs0, hB0, _⟩ := box_five w (.int .u8 (s.1.1.toNat : Int)) (.int .u32 s.1.2.1) (.int .u32 s.1.2.2) (.int .i64 s.2.1) (.slice A n c) 52
  clear f1 f2 f3 hs0 hn h
  have HB0 := Lib.hid hB0
  clear hB0
  obtain ⟨r, hr⟩ : ∃ r, s.2.1 = r := ⟨_, rfl⟩
  rw [hr] at hw f4 ⊢
  rw [hr] at hw0
  clear hr
  rcases hw with ⟨rfl, h1, hm⟩ | ⟨rfl, h1, hm⟩ | ⟨h0, h1, hm⟩ | ⟨h0, h1, h2, hm⟩ | ⟨h0, h1, h2, h3, hm⟩ | ⟨h0, h1, h2, h3, hm⟩
  · have hc := Lib.hid hm
    have i1 : (n : Int) ≤ 12 := by omega
    clear hm
    rw [hc.out]
    go_enter Tryz.func40, Tryz.ntmps40
    go_upto_region 1 with fail
    clear hw0
    go_wp2_with fail
    go_ret
    exact ⟨ret_bool (by simp <;> omega), HB0.out⟩
  · have hc := Lib.hid hm
    have i1 : ¬ (n : Int) ≤ 12 := by omega
    clear hm
    rw [hc.out]
    go_enter Tryz.func40, Tryz.ntmps40
    go_upto_region 1 with fail
    clear hw0
    go_wp2_with fail
    go_ret
    exact ⟨ret_bool (by simp <;> omega), HB0.out⟩
  · have hc := Lib.hid hm
    have t0 : (r != 0) = true := by simpa using h0
    have t1 : (r == 0) = false := by simpa using h0
    have i2 : ¬ 8 ≤ r := by omega
    clear h0
    clear hm
    rw [hc.out]
    go_enter Tryz.func40, Tryz.ntmps40
    go_upto_region 1 with fail
    clear hw0
    go_wp2_with fail
    go_ret
    exact ⟨ret_bool (by simp <;> omega), HB0.out⟩
  · have hc := Lib.hid hm
    have t0 : (r != 0) = true := by simpa using h0
    have t1 : (r == 0) = false := by simpa using h0
    have i2 : 8 ≤ r := by omega
    have i3 : ¬ r ≤ 255 := by omega
    clear h0
    clear hm
    rw [hc.out]
    go_enter Tryz.func40, Tryz.ntmps40
    go_upto_region 1 with fail
    clear hw0
    go_wp2_with fail
    go_ret
    exact ⟨ret_bool (by simp <;> omega), HB0.out⟩
  · have hc := Lib.hid hm
    have t0 : (r != 0) = true := by simpa using h0
    have t1 : (r == 0) = false := by simpa using h0
    have i2 : 8 ≤ r := by omega
    have i3 : r ≤ 255 := by omega
    have i4 : (n : Int) ≤ 12 := by omega
    clear h0
    clear hm
    rw [hc.out]
    go_enter Tryz.func40, Tryz.ntmps40
    go_upto_region 1 with fail
    clear hw0
    go_wp2_with fail
    go_ret
    exact ⟨ret_bool (by simp <;> omega), HB0.out⟩
  · have hc := Lib.hid hm
    have t0 : (r != 0) = true := by simpa using h0
    have t1 : (r == 0) = false := by simpa using h0
    have i2 : 8 ≤ r := by omega
    have i3 : r ≤ 255 := by omega
    have i4 : ¬ (n : Int) ≤ 12 := by omega
    clear h0
    clear hm
    rw [hc.out]
    go_enter Tryz.func40, Tryz.ntmps40
    go_upto_region 1 with fail
    clear hw0
    go_wp2_with fail
    go_ret
    exact ⟨ret_bool (by simp <;> omega), HB0.out⟩

end Go.Proofs.YtmdlgnlfgfhkmaaGreat

/-
  Package item and the document's answers of layer 5: Same, Twin. Conditions: those that each lemma states.
-/
namespace Go.Proofs.YtmdlgnlfgfhkmaaGreat
open Go.RowKit

def sameI (s o : It) : Bool := decide (s = o)
theorem sameI_self (s : It) : sameI s s = true := by simp [sameI]
theorem sameI_eq {s o : It} (h : sameI s o = true) : s = o := by simpa [sameI] using h
theorem same_parts (a1 b1 : UInt8) (a2 b2 a3 b3 a4 b4 : Int) (a5 b5 : List UInt8) : sameI ((a1, a2, a3), a4, a5) ((b1, b2, b3), b4, b5) = decide ((a1.toNat : Int) = b1.toNat ∧ a2 = b2 ∧ a3 = b3 ∧ a4 = b4 ∧ a5 = b5) := by
  unfold sameI
  rw [Bool.eq_iff_iff]
  simp only [Prod.mk.injEq, decide_eq_true_eq]
  have h : a1 = b1 ↔ (a1.toNat : Int) = b1.toNat := ⟨fun h => by rw [h], fun h => UInt8.toNat.inj (by omega)⟩
  rw [h]
  constructor
  · rintro ⟨⟨h1, h2, h3⟩, h4, h5⟩; exact ⟨h1, h2, h3, h4, h5⟩
  · rintro ⟨h1, h2, h3, h4, h5⟩; exact ⟨⟨h1, h2, h3⟩, h4, h5⟩
theorem sameI_comm (s o : It) : sameI s o = sameI o s := by
  unfold sameI
  rw [Bool.eq_iff_iff]
  simp only [decide_eq_true_eq]
  exact ⟨fun h => h.symm, fun h => h.symm⟩

theorem put_last {W : World} {g : Nat} {a b c d e u : Value} {t : TypeId} (h : W.heap[g]? = some (.cells #[a, b, c, d, e] t (0, 0))) : ∃ W1, W.setCell ⟨g, 4, none⟩ u = W1 ∧ W1.heap[g]? = some (.cells #[a, b, c, d, u] t (0, 0)) ∧ W.grownBy W1 (some g) ∧ W1.heap.size = W.heap.size :=
  ⟨_, rfl, by simp [World.setCell, Array.getElem?_modify, h], grow_put (p := ⟨g, 4, none⟩) (grow_refl W (some g)) rfl u, by simp⟩
theorem itm_put {lo g : Nat} {w w' : World} {v : Value} {s : It} (h : Itm (New lo w) w v s) (hg : w.grownBy w' (some g)) (hr : g < lo) : Itm (New lo w') w' v s := h.grown hg (fun q e => by cases e; exact hr)

set_option maxRecDepth 100000 in
set_option maxHeartbeats 4000000 in
theorem twinI_any (v : Value) (s : It) (w : World) (hbig : s.2.2.length ≤ 1000000000) (h : Itm (Old w) w v s) :
    Calls Tryz.prog 113 #[v] w fun e w' => ∃ u, e = .returned u ∧ Itm (New w.heap.size w') w' u s ∧ Below w.heap.size w w' := by
  obtain ⟨A, c, rfl, hin, _, _, rv⟩ := h.open
  obtain ⟨⟨a1, a2, a3⟩, a4, a5⟩ := s
  unfold itV
  dsimp only at *
  obtain ⟨w1, hw1, f1, f2, f3, f4, f5, hs1, hB1, b1⟩ := box_five w (.int .u8 (a1.toNat : Int)) (.int .u32 a2) (.int .u32 a3) (.int .i64 a4) (.slice A a5.length c) 52
  obtain ⟨w2, hw2, _, _, _, _, _, hs2, hB2, b2⟩ := box_five w1 (.int .u8 0) (.int .u32 0) (.int .u32 0) (.int .i64 0) (.slice none 0 0) 52
  have hB := hB1.trans (hB2.mono hB1.size)
  have lt1 : w.heap.size < w1.heap.size := by omega
  have lt2 : w1.heap.size < w2.heap.size := by omega
  have b1' := Lib.hid ((hB2.block w.heap.size lt1).trans b1)
  have k5 := (hB2.cell (p := ⟨w.heap.size, 4, none⟩) lt1).trans f5
  have xv := Lib.hid (stab_by.old rv hB)
  clear f1 f2 f3 f4 f5 h rv hB1 hB2 b1
  replace hB := Lib.hid hB
  replace hs1 := Lib.hid hs1
  replace hs2 := Lib.hid hs2
  replace b2 := Lib.hid b2
  replace hw2 := Lib.hid hw2
  replace hbig := Lib.hid hbig
  go_enter Tryz.func113, Tryz.ntmps113
  go_upto_region 1 with fail
  rw [hw2.out]
  clear hw1 hw2
  go_wp2_with fail
  with_reducible refine (clone_by _ a5 _ (by have := hbig.out; omega) xv.out).mono ?_
  rintro e w3 ⟨u, rfl, hu, hb3⟩
  have lt3 : w2.heap.size ≤ w3.heap.size := hb3.size
  have c1 := (hb3.block w.heap.size (by omega)).trans b1'.out
  have c2 := (hb3.block w1.heap.size (by omega)).trans b2.out
  obtain ⟨k0, k1, k2, k3, _, kf, _⟩ := five_cells c1
  obtain ⟨w4, hw4, d1, gr4, gs4⟩ := put_last (u := u) c1
  obtain ⟨l0, l1, l2, l3, l4, _, _⟩ := five_cells d1
  have d2 := (gr4.block w1.heap.size (by omega) (by simp; omega)).trans c2
  obtain ⟨W9, hW9, g9, gr9, gs9⟩ := put_five (u0 := .int .u8 (a1.toNat : Int)) (u1 := .int .u32 a2) (u2 := .int .u32 a3) (u3 := .int .i64 a4) (u4 := u) d2
  obtain ⟨m0, m1, m2, m3, m4, _, _⟩ := five_cells g9
  obtain ⟨n0, n1, n2, n3, n4, nf, _⟩ := five_cells d2
  have B3 := hB.out.trans (hb3.mono hB.out.size)
  have B4 := B3.grown gr4 B3.size (fun q e => by cases e; omega)
  have B9 := Lib.hid (B4.grown gr9 B4.size (fun q e => by cases e; omega))
  have hfin : Hid (Itm (New w.heap.size W9) W9 (.agg #[.int .u8 (a1.toNat : Int), .int .u32 a2, .int .u32 a3, .int .i64 a4, u]) ((a1, a2, a3), a4, a5)) := Lib.hid ⟨u, rfl, hin, by
    have h1 := stab_by.grown hu gr4 (fun q e => by cases e; omega)
    have h2 := stab_by.grown h1 gr9 (fun q e => by cases e; omega)
    exact stab_by.mono h2 (by omega)⟩
  obtain ⟨_, _, rfl, _⟩ := id (rBy_open hu)
  clear c1 c2 d1 d2 g9 gr4 gr9 hu B3 B4 hb3 lt3
  replace hs1 := Lib.hid lt1
  replace hs2 := Lib.hid lt2
  clear lt1 lt2
  go_wp2_with fail
  exact bodyPost_ret (v := .agg #[.int .u8 (a1.toNat : Int), .int .u32 a2, .int .u32 a3, .int .i64 a4, .slice _ _ _]) (by simp [results, Tryz.results113, go_sem, m0, m1, m2, m3, m4]) rfl ⟨_, rfl, hfin.out, B9.out⟩

end Go.Proofs.YtmdlgnlfgfhkmaaGreat

/-
  The document's answers of layer 5: Less, Bytes, Write. Conditions: those that each lemma states.
-/
namespace Go.Proofs.YtmdlgnlfgfhkmaaGreat
open Go.RowKit

theorem less_ways (a b : Ky) : lessK a b = (if (a.1.toNat : Int) ≠ b.1.toNat then decide ((a.1.toNat : Int) < b.1.toNat) else if a.2.1 ≠ b.2.1 then decide (a.2.1 < b.2.1) else decide (a.2.2 < b.2.2)) := by
  unfold lessK
  by_cases h : a.1.toNat = b.1.toNat
  · rw [if_neg (show ¬ a.1.toNat ≠ b.1.toNat by omega), if_neg (show ¬ (a.1.toNat : Int) ≠ b.1.toNat by omega)]
  · rw [if_pos h, if_pos (show (a.1.toNat : Int) ≠ b.1.toNat by omega)]
    rw [Bool.eq_iff_iff]
    simp

set_option maxRecDepth 100000 in
set_option maxHeartbeats 4000000 in
theorem refLess_any (a b : Ky) (w : World) :
    Calls Tryz.prog 41 #[kyV a, kyV b] w fun e w' => e = .returned (.bool (lessK a b)) ∧ Below w.heap.size w w' := by
  have hfin := Lib.hid (less_ways a b)
  obtain ⟨ak, ai, ao⟩ := a
  obtain ⟨bk, bi, bo⟩ := b
  unfold kyV
  dsimp only at hfin ⊢
  generalize lessK (ak, ai, ao) (bk, bi, bo) = res at hfin ⊢
  obtain ⟨p, hp⟩ : ∃ p : Int, (ak.toNat : Int) = p := ⟨_, rfl⟩
  obtain ⟨q, hq⟩ : ∃ q : Int, (bk.toNat : Int) = q := ⟨_, rfl⟩
  rw [hp, hq] at hfin ⊢
  clear hp hq
  obtain ⟨w1, hw1, f1, f2, f3, hs1, hB1, _⟩ := box_three w (.int .u8 p) (.int .u32 ai) (.int .u32 ao) 50
  obtain ⟨w2, hw2, g1, g2, g3, hs2, hB2, _⟩ := box_three w1 (.int .u8 q) (.int .u32 bi) (.int .u32 bo) 50
  have hB := Lib.hid (hB1.trans (hB2.mono hB1.size))
  have k1 := (hB2.cell (p := ⟨w.heap.size, 0, none⟩) (show w.heap.size < _ by omega)).trans f1
  have k2 := (hB2.cell (p := ⟨w.heap.size, 1, none⟩) (show w.heap.size < _ by omega)).trans f2
  have k3 := (hB2.cell (p := ⟨w.heap.size, 2, none⟩) (show w.heap.size < _ by omega)).trans f3
  clear f1 f2 f3 hB1 hB2
  replace hs1 := Lib.hid hs1
  replace hs2 := Lib.hid hs2
  by_cases e1 : p = q
  case neg =>
    have t1 : (p != q) = true := by simpa using e1
    have hr := Lib.hid (show res = decide (p < q) by rw [hfin.out, if_pos e1])
    clear e1
    go_enter Tryz.func41, Tryz.ntmps41
    go_upto_region 1 with fail
    clear hw1 hw2
    go_wp2_with fail
    go_ret
    exact ⟨ret_bool (by rw [hr.out]), hB.out⟩
  subst e1
  by_cases e2 : ai = bi
  case neg =>
    have t2 : (ai != bi) = true := by simpa using e2
    have hr := Lib.hid (show res = decide (ai < bi) by rw [hfin.out, if_neg (fun h => h rfl), if_pos e2])
    clear e2
    go_enter Tryz.func41, Tryz.ntmps41
    go_upto_region 1 with fail
    clear hw1 hw2
    go_wp2_with fail
    go_ret
    exact ⟨ret_bool (by rw [hr.out]), hB.out⟩
  subst e2
  have hr := Lib.hid (show res = decide (ao < bo) by rw [hfin.out, if_neg (fun h => h rfl), if_neg (fun h => h rfl)])
  go_enter Tryz.func41, Tryz.ntmps41
  go_upto_region 1 with fail
  clear hw1 hw2
  go_wp2_with fail
  go_ret
  exact ⟨ret_bool (by rw [hr.out]), hB.out⟩

/-- A literal byte, as a row of the call's own. -/
theorem lit_own (w : World) (x : UInt8) (n : Int) (h : (x.toNat : Int) = n) : ∃ w1, w.alloc (.cells #[.int .u8 n] 5) = w1 ∧ w1.ownsRow w.heap.size 5 1 (.slice (some ⟨w.heap.size, 0, none⟩) 1 1) 1 (u8s [x]) ∧ Below w.heap.size w w1 ∧ w1.heap.size = w.heap.size + 1 := by
  subst h
  refine ⟨_, rfl, ?_, (Below.refl _ _).alloc (Nat.le_refl _) _, by simp⟩
  have h1 : Row (w.alloc (.cells #[.int .u8 (x.toNat : Int)] 5)) w.heap.size [x] := Row.new w [x]
  exact h1.own (Nat.le_refl _) (by simp)

set_option maxRecDepth 100000 in
set_option maxHeartbeats 8000000 in
theorem refBytes_ok (v : Value) (s : It) (w : World) (h : Itm (Old w) w v s) (hm : mayI s = true) :
    Calls Tryz.prog 79 #[v] w fun e w' => ∃ u, e = .returned u ∧ rBy (New w.heap.size w') w' [u] (itB s) ∧ Below w.heap.size w w' := by
  have hmay := mayI_of hm
  obtain ⟨A, c, rfl, hin, l1, m1, rv⟩ := h.open
  obtain ⟨⟨⟨g0, g1⟩, ⟨n0, n1⟩⟩, _⟩ := hin
  obtain ⟨w0, hw0, f1, f2, f3, f4, f5, hs0, hB0, _⟩ := box_five w (.int .u8 (s.1.1.toNat : Int)) (.int .u32 s.1.2.1) (.int .u32 s.1.2.2) (.int .i64 s.2.1) (.slice A s.2.2.length c) 52
  have RV : Hid (Byt w0 w0.heap.size A s.2.2) := Lib.hid (by
    obtain ⟨_, _, e, _, _, hy⟩ := rBy_byt (B := w.heap.size) (fun p hp => hp) rv
    cases e
    exact (hy.below hB0).more hB0.size)
  clear rv
  obtain ⟨n, hn⟩ : ∃ n, s.2.2.length = n := ⟨_, rfl⟩
  have hfin := Lib.hid (show itB s = [s.1.1] ++ le 4 s.1.2.1 ++ le 4 s.1.2.2 ++ le 2 s.2.1 ++ [UInt8.ofNat n] ++ s.2.2 by rw [← hn]; simp [itB])
  unfold itV
  rw [hn] at l1 f5 hw0 hmay ⊢
  have h12 : n ≤ 12 := hmay.2
  have hr0 : 0 ≤ s.2.1 ∧ s.2.1 < 65536 := by have := hmay.1; omega
  have hu8 : ((UInt8.ofNat n).toNat : Int) = (n : Int) := by
    rw [UInt8.toNat_ofNat']
    omega
  have HU := Lib.hid hu8
  obtain ⟨p, hp⟩ : ∃ p : Int, (s.1.1.toNat : Int) = p := ⟨_, rfl⟩
  have HP := Lib.hid hp
  rw [hp] at f1 hw0 ⊢
  have lt0 : w.heap.size < w0.heap.size := by omega
  have HB0 := Lib.hid hB0
  replace hn := Lib.hid hn
  clear hp hmay hB0 hs0 h hu8 hm
  go_enter Tryz.func79, Tryz.ntmps79
  go_upto_region 1 with fail
  clear hw0
  obtain ⟨w1, hw1, o1, B1, hs1⟩ := lit_own w0 s.1.1 p HP.out
  have k2 := (B1.cell (p := ⟨w.heap.size, 1, none⟩) lt0).trans f2
  have k3 := (B1.cell (p := ⟨w.heap.size, 2, none⟩) lt0).trans f3
  have k4 := (B1.cell (p := ⟨w.heap.size, 3, none⟩) lt0).trans f4
  have k5 := (B1.cell (p := ⟨w.heap.size, 4, none⟩) lt0).trans f5
  replace B1 := Lib.hid B1
  replace o1 := Lib.hid o1
  replace hs1 := Lib.hid hs1
  go_upto_region 2 with fail
  clear hw1 f1 f2 f3 f4 f5
  go_wp2_with fail
  with_reducible refine (four_ref s.1.2.1 g0 g1 _).mono ?_
  rintro e4 w4 ⟨A4, c4, rfl, y4, hb4⟩
  obtain ⟨v5, w5, hr5, o5, ba5⟩ := app_own_byt _ 1 4 c4 _ _ A4 w0.heap.size w4 (own_below o1.out hb4) y4 (le_length _ _) (by omega) (Nat.le_trans B1.out.size hb4.size)
  have B5 := Lib.hid ((B1.out.trans (hb4.mono B1.out.size)).trans ba5)
  have q3 := (ba5.cell (p := ⟨w.heap.size, 2, none⟩) lt0).trans ((hb4.cell (p := ⟨w.heap.size, 2, none⟩) (Nat.lt_of_lt_of_le lt0 B1.out.size)).trans k3)
  have q4 := (ba5.cell (p := ⟨w.heap.size, 3, none⟩) lt0).trans ((hb4.cell (p := ⟨w.heap.size, 3, none⟩) (Nat.lt_of_lt_of_le lt0 B1.out.size)).trans k4)
  have q5 := (ba5.cell (p := ⟨w.heap.size, 4, none⟩) lt0).trans ((hb4.cell (p := ⟨w.heap.size, 4, none⟩) (Nat.lt_of_lt_of_le lt0 B1.out.size)).trans k5)
  have H5 := Lib.hid hr5
  replace o5 := Lib.hid o5
  clear k2 k3 k4 k5 hb4 y4 ba5 o1 B1 hr5
  go_wp2_with (at_builtin; refine wpList_append_run rfl _ _ _ rfl rfl rfl H5.out ?_; clear H5)
  with_reducible refine (four_ref s.1.2.2 n0 n1 _).mono ?_
  rintro e4 w6 ⟨A6, c6, rfl, y6, hb6⟩
  obtain ⟨v7, w7, hr7, o7, ba7⟩ := app_own_byt v5 5 4 c6 _ _ A6 w0.heap.size w6 (own_below o5.out hb6) y6 (le_length _ _) (by omega) (Nat.le_trans B5.out.size hb6.size)
  have B7 := Lib.hid ((B5.out.trans (hb6.mono B5.out.size)).trans ba7)
  have k4 := (ba7.cell (p := ⟨w.heap.size, 3, none⟩) lt0).trans ((hb6.cell (p := ⟨w.heap.size, 3, none⟩) (Nat.lt_of_lt_of_le lt0 B5.out.size)).trans q4)
  have k5 := (ba7.cell (p := ⟨w.heap.size, 4, none⟩) lt0).trans ((hb6.cell (p := ⟨w.heap.size, 4, none⟩) (Nat.lt_of_lt_of_le lt0 B5.out.size)).trans q5)
  have H7 := Lib.hid hr7
  replace o7 := Lib.hid o7
  clear q3 q4 q5 hb6 y6 ba7 o5 B5 hr7
  go_wp2_with (at_builtin; refine wpList_append_run rfl _ _ _ rfl rfl rfl H7.out ?_; clear H7)
  refine (bytes_ref s.2.1 2 (by omega) (by omega) (by omega) _).mono ?_
  rintro e2 w8 ⟨A8, c8, rfl, y8, hb8⟩
  obtain ⟨v9, w9, hr9, o9, ba9⟩ := app_own_byt v7 9 2 c8 _ _ A8 w0.heap.size w8 (own_below o7.out hb8) y8 (le_length _ _) (by omega) (Nat.le_trans B7.out.size hb8.size)
  have B9 := Lib.hid ((B7.out.trans (hb8.mono B7.out.size)).trans ba9)
  have q5 := (ba9.cell (p := ⟨w.heap.size, 4, none⟩) lt0).trans ((hb8.cell (p := ⟨w.heap.size, 4, none⟩) (Nat.lt_of_lt_of_le lt0 B7.out.size)).trans k5)
  have H9 := Lib.hid hr9
  obtain ⟨wa, hwa, oa, Ba, hsa⟩ := lit_own w9 (UInt8.ofNat n) n HU.out
  obtain ⟨_, _, e, _, _, ya⟩ := own_byt oa
  cases e
  obtain ⟨vb, wb, hrb, ob, bab⟩ := app_own_byt v9 11 1 1 _ _ _ w0.heap.size wa (own_below o9 Ba) ya rfl (by omega) (Nat.le_trans B9.out.size Ba.size)
  have Bb := Lib.hid ((B9.out.trans (Ba.mono B9.out.size)).trans bab)
  have z5 := (Bb.out.cell (p := ⟨w.heap.size, 4, none⟩) lt0)
  have q5b := (bab.cell (p := ⟨w.heap.size, 4, none⟩) lt0).trans ((Ba.cell (p := ⟨w.heap.size, 4, none⟩) (Nat.lt_of_lt_of_le lt0 B9.out.size)).trans q5)
  have yv := (RV.out.below Bb.out).more Bb.out.size
  obtain ⟨vc, wc, hrc, oc, bac⟩ := app_own_byt vb 12 n c _ _ A w0.heap.size wb ob yv hn.out (by omega) Bb.out.size
  have BF := Lib.hid (HB0.out.trans ((Bb.out.trans bac).mono HB0.out.size))
  have hown : Hid (rBy (New w.heap.size wc) wc [vc] (itB s)) := Lib.hid (by
    rw [hfin.out]
    exact stab_by.mono (own_by oc) (Nat.le_of_lt lt0))
  have HB := Lib.hid hrb
  have HC := Lib.hid hrc
  clear k4 k5 hb8 y8 ba9 o7 B7 hr9 o9 oa Ba ya hrb ob bab z5 yv hrc oc bac
  replace hsa := Lib.hid hsa
  go_wp2_with (first
    | (at_builtin; refine wpList_append_run rfl _ _ _ rfl rfl rfl H9.out ?_; clear H9)
    | (at_builtin; refine wpList_append_run rfl _ _ _ rfl rfl rfl HB.out ?_; clear HB)
    | (at_builtin; refine wpList_append_run rfl _ _ _ rfl rfl rfl HC.out ?_; clear HC))
  go_ret
  exact ⟨_, rfl, hown.out, BF.out⟩

end Go.Proofs.YtmdlgnlfgfhkmaaGreat

/-
  Package item: Write. Conditions: those that each lemma states.
-/
namespace Go.Proofs.YtmdlgnlfgfhkmaaGreat
open Go.RowKit

theorem itB_flat (s : It) : [[s.1.1], le 4 s.1.2.1, le 4 s.1.2.2, le 2 s.2.1, [UInt8.ofNat s.2.2.length], s.2.2].flatten = itB s := by simp [itB]

set_option maxRecDepth 100000 in
set_option maxHeartbeats 8000000 in
theorem itWrite_ok (v : Value) (s : It) (w : World) (h : Itm (Old w) w v s) (hm : mayI s = true) :
    Calls Tryz.prog 33 #[v] w fun e w' => ∃ u, e = .returned (.tuple #[u, .int .i64 0]) ∧ rBy (New w.heap.size w') w' [u] (itB s) ∧ Below w.heap.size w w' := by
  have hmay := mayI_of hm
  have hchk := Lib.hid (chkI_ok hm)
  have hlen := Lib.hid (itB_length s)
  obtain ⟨A, c, rfl, hin, l1, m1, rv⟩ := h.open
  obtain ⟨⟨⟨g0, g1⟩, ⟨n0, n1⟩⟩, _⟩ := hin
  have hhead := Lib.hid (itB_flat s)
  obtain ⟨w0, hw0, f1, f2, f3, f4, f5, hs0, hB0, _⟩ := box_five w (.int .u8 (s.1.1.toNat : Int)) (.int .u32 s.1.2.1) (.int .u32 s.1.2.2) (.int .i64 s.2.1) (.slice A s.2.2.length c) 52
  have H0 := Lib.hid (h.below hB0)
  have RV := Lib.hid (stab_by.old rv hB0)
  clear rv
  obtain ⟨n, hn⟩ : ∃ n, s.2.2.length = n := ⟨_, rfl⟩
  unfold itV at H0 ⊢
  rw [hn] at l1 f5 H0 hw0 RV hmay hlen hhead ⊢
  have h12 : n ≤ 12 := hmay.2
  have hr0 : 0 ≤ s.2.1 ∧ s.2.1 < 65536 := by have := hmay.1; omega
  have hu8 : ((UInt8.ofNat n).toNat : Int) = (n : Int) := by
    rw [UInt8.toNat_ofNat']
    omega
  have HU := Lib.hid hu8
  have HWR := Lib.hid (show IntKind.u8.wrap (n : Int) = n by rw [IntKind.wrap_u8']; omega)
  obtain ⟨p, hp⟩ : ∃ p : Int, (s.1.1.toNat : Int) = p := ⟨_, rfl⟩
  have HP := Lib.hid hp
  rw [hp] at f1 hw0 H0 ⊢
  clear hp hmay
  replace hn := Lib.hid hn
  have lt0 : w.heap.size < w0.heap.size := by omega
  have HB0 := Lib.hid hB0
  clear hB0 hs0 h hu8
  go_enter Tryz.func33, Tryz.ntmps33
  go_upto_region 1 with fail
  clear hw0
  go_wp2_with fail
  with_reducible refine (checkI_any _ s _ H0.out).mono ?_
  rintro e1 w1 ⟨rfl, hb1⟩
  rw [hchk.out]
  have B1 := Lib.hid hb1
  replace f1 := (hb1.cell (p := ⟨w.heap.size, 0, none⟩) lt0).trans f1
  replace f2 := (hb1.cell (p := ⟨w.heap.size, 1, none⟩) lt0).trans f2
  replace f3 := (hb1.cell (p := ⟨w.heap.size, 2, none⟩) lt0).trans f3
  replace f4 := (hb1.cell (p := ⟨w.heap.size, 3, none⟩) lt0).trans f4
  replace f5 := (hb1.cell (p := ⟨w.heap.size, 4, none⟩) lt0).trans f5
  clear hb1 H0
  go_wp2_with fail
  with_reducible refine (two_by s.2.1 hr0.1 hr0.2 _).mono ?_
  rintro e2 w2 ⟨A2, rfl, y2, hb2⟩
  have lt1 : w.heap.size < w1.heap.size := Nat.lt_of_lt_of_le lt0 B1.out.size
  replace f1 := (hb2.cell (p := ⟨w.heap.size, 0, none⟩) lt1).trans f1
  replace f2 := (hb2.cell (p := ⟨w.heap.size, 1, none⟩) lt1).trans f2
  replace f3 := (hb2.cell (p := ⟨w.heap.size, 2, none⟩) lt1).trans f3
  replace f5 := (hb2.cell (p := ⟨w.heap.size, 4, none⟩) lt1).trans f5
  have B2 := Lib.hid (B1.out.trans (hb2.mono B1.out.size))
  replace y2 := Lib.hid y2
  replace RV := Lib.hid (stab_by.old RV.out B2.out)
  have lt2 : w.heap.size < w2.heap.size := Nat.lt_of_lt_of_le lt1 hb2.size
  clear f4 hb2
  go_wp2_with fail
  refine wp_region_as (by kernel_rfl) (fun W => Below w2.heap.size w2 W) (fun i => match i with
      | 3 => some (fun v W => rBy (Old W) W [v] [s.1.1])
      | 7 => some (fun v W => rBy (Old W) W [v] (le 4 s.1.2.1))
      | 11 => some (fun v W => rBy (Old W) W [v] (le 4 s.1.2.2))
      | 17 => some (fun v W => rBy (Old W) W [v] [UInt8.ofNat n])
      | 20 => some (fun v W => rSl 1 rBy (Old W) W [v] [[s.1.1], le 4 s.1.2.1, le 4 s.1.2.2, le 2 s.2.1, [UInt8.ofNat n], s.2.2])
      | 21 => some (fun v W => rBy (New w2.heap.size W) W [v] (itB s))
      | _ => none) (by kernel_rfl) (Below.refl _ _).drew (fun w w' h hb => h.trans (hb.mono h.size)) ?tst ?_
  case tst =>
    intro j φ x W W' hp hx hb
    match j, hp with
    | 3, hp => cases hp; exact stab_by.old hx hb
    | 7, hp => cases hp; exact stab_by.old hx hb
    | 11, hp => cases hp; exact stab_by.old hx hb
    | 17, hp => cases hp; exact stab_by.old hx hb
    | 20, hp => cases hp; exact (stab_sl stab_by).old hx hb
    | 21, hp => cases hp; exact stab_by.new hx (Nat.le_refl _) hb
  repeat (first
    | (refine wpAs_skip rfl ?_; simp only [Act.put, List.setIfInBounds_toArray, List.set_cons_zero, List.set_cons_succ])
    | (refine wpAs_pure (v := ?_) rfl rfl ?_ ?_; rotate_left; (intro W hC hE; clear hE; (have z1 := (hC.cell (p := ⟨w.heap.size, 0, none⟩) lt2).trans f1); clear hC; go_simp; done); simp only [Act.put, List.setIfInBounds_toArray, List.set_cons_zero, List.set_cons_succ])
    | (refine wpAs_pure (v := ?_) rfl rfl ?_ ?_; rotate_left; (intro W hC hE; clear hE; (have z1 := (hC.cell (p := ⟨w.heap.size, 0, none⟩) lt2).trans f1); clear hC; go_simp; with_reducible rfl); simp only [Act.put, List.setIfInBounds_toArray, List.set_cons_zero, List.set_cons_succ]))
  refine wpAs_act rfl rfl ?_ ?_
  · intro W hC hE
    clear hE hC
    have hy2 := Lib.hid (byte_lit W 5 s.1.1 p HP.out)
    go_simp
    exact ⟨hy2.out, (Below.refl _ _).alloc (Nat.le_refl _) _⟩
  simp only [Act.put, List.setIfInBounds_toArray, List.set_cons_zero, List.set_cons_succ, envAdd]
  intro x24
  repeat (first
    | (refine wpAs_skip rfl ?_; simp only [Act.put, List.setIfInBounds_toArray, List.set_cons_zero, List.set_cons_succ])
    | (refine wpAs_pure (v := ?_) rfl rfl ?_ ?_; rotate_left; (intro W hC hE; clear hE; (have z2 := (hC.cell (p := ⟨w.heap.size, 1, none⟩) lt2).trans f2); clear hC; go_simp; done); simp only [Act.put, List.setIfInBounds_toArray, List.set_cons_zero, List.set_cons_succ])
    | (refine wpAs_pure (v := ?_) rfl rfl ?_ ?_; rotate_left; (intro W hC hE; clear hE; (have z2 := (hC.cell (p := ⟨w.heap.size, 1, none⟩) lt2).trans f2); clear hC; go_simp; with_reducible rfl); simp only [Act.put, List.setIfInBounds_toArray, List.set_cons_zero, List.set_cons_succ]))
  refine wpAs_act rfl rfl ?_ ?_
  · intro W hC hE
    clear hE
    refine does_enter (f := 55) (args := #[.int .u32 s.1.2.1]) ?_ ?_
    · go_simp
    · refine (four_by s.1.2.1 g0 g1 W).mono ?_
      rintro e W' ⟨_, _, rfl, hy, hb⟩
      exact ⟨_, rfl, hy, hb⟩
  simp only [Act.put, List.setIfInBounds_toArray, List.set_cons_zero, List.set_cons_succ, envAdd]
  intro x28
  repeat (first
    | (refine wpAs_skip rfl ?_; simp only [Act.put, List.setIfInBounds_toArray, List.set_cons_zero, List.set_cons_succ])
    | (refine wpAs_pure (v := ?_) rfl rfl ?_ ?_; rotate_left; (intro W hC hE; clear hE; (have z3 := (hC.cell (p := ⟨w.heap.size, 2, none⟩) lt2).trans f3); clear hC; go_simp; done); simp only [Act.put, List.setIfInBounds_toArray, List.set_cons_zero, List.set_cons_succ])
    | (refine wpAs_pure (v := ?_) rfl rfl ?_ ?_; rotate_left; (intro W hC hE; clear hE; (have z3 := (hC.cell (p := ⟨w.heap.size, 2, none⟩) lt2).trans f3); clear hC; go_simp; with_reducible rfl); simp only [Act.put, List.setIfInBounds_toArray, List.set_cons_zero, List.set_cons_succ]))
  refine wpAs_act rfl rfl ?_ ?_
  · intro W hC hE
    clear hE
    refine does_enter (f := 55) (args := #[.int .u32 s.1.2.2]) ?_ ?_
    · go_simp
    · refine (four_by s.1.2.2 n0 n1 W).mono ?_
      rintro e W' ⟨_, _, rfl, hy, hb⟩
      exact ⟨_, rfl, hy, hb⟩
  simp only [Act.put, List.setIfInBounds_toArray, List.set_cons_zero, List.set_cons_succ, envAdd]
  intro x32
  repeat (first
    | (refine wpAs_skip rfl ?_; simp only [Act.put, List.setIfInBounds_toArray, List.set_cons_zero, List.set_cons_succ])
    | (refine wpAs_pure (v := ?_) rfl rfl ?_ ?_; rotate_left; (intro W hC hE; clear hE; (have hwz := HWR.out; have z5 := (hC.cell (p := ⟨w.heap.size, 4, none⟩) lt2).trans f5); clear hC; go_simp; done); simp only [Act.put, List.setIfInBounds_toArray, List.set_cons_zero, List.set_cons_succ])
    | (refine wpAs_pure (v := ?_) rfl rfl ?_ ?_; rotate_left; (intro W hC hE; clear hE; (have hwz := HWR.out; have z5 := (hC.cell (p := ⟨w.heap.size, 4, none⟩) lt2).trans f5); clear hC; go_simp; with_reducible rfl); simp only [Act.put, List.setIfInBounds_toArray, List.set_cons_zero, List.set_cons_succ]))
  refine wpAs_act rfl rfl ?_ ?_
  · intro W hC hE
    clear hE hC
    have hy2 := Lib.hid (byte_lit W 5 (UInt8.ofNat n) (n : Int) HU.out)
    go_simp
    exact ⟨hy2.out, (Below.refl _ _).alloc (Nat.le_refl _) _⟩
  simp only [Act.put, List.setIfInBounds_toArray, List.set_cons_zero, List.set_cons_succ, envAdd]
  intro x38
  repeat (first
    | (refine wpAs_skip rfl ?_; simp only [Act.put, List.setIfInBounds_toArray, List.set_cons_zero, List.set_cons_succ])
    | (refine wpAs_pure (v := ?_) rfl rfl ?_ ?_; rotate_left; (intro W hC hE; clear hE; (have z5 := (hC.cell (p := ⟨w.heap.size, 4, none⟩) lt2).trans f5); clear hC; go_simp; done); simp only [Act.put, List.setIfInBounds_toArray, List.set_cons_zero, List.set_cons_succ])
    | (refine wpAs_pure (v := ?_) rfl rfl ?_ ?_; rotate_left; (intro W hC hE; clear hE; (have z5 := (hC.cell (p := ⟨w.heap.size, 4, none⟩) lt2).trans f5); clear hC; go_simp; with_reducible rfl); simp only [Act.put, List.setIfInBounds_toArray, List.set_cons_zero, List.set_cons_succ]))
  refine wpAs_act rfl rfl ?_ ?_
  · intro W hC hE
    have y38 := hE.1 rfl
    have y32 := hE.2.1 rfl
    have y28 := hE.2.2.1 rfl
    have y24 := hE.2.2.2.1 rfl
    have hl6 := Lib.hid (rows_lit W 26 [x24, x28, x32, .slice A2 2 2, x38, .slice A n c] [[s.1.1], le 4 s.1.2.1, le 4 s.1.2.2, le 2 s.2.1, [UInt8.ofNat n], s.2.2] rfl (by simp) (fun i v x h1 h2 => by
      match i, h1, h2 with
      | 0, h1, h2 => cases h1; cases h2; exact y24
      | 1, h1, h2 => cases h1; cases h2; exact y28
      | 2, h1, h2 => cases h1; cases h2; exact y32
      | 3, h1, h2 => cases h1; cases h2; exact stab_by.old y2.out hC
      | 4, h1, h2 => cases h1; cases h2; exact y38
      | 5, h1, h2 => cases h1; cases h2; exact stab_by.old RV.out hC))
    obtain ⟨_, _, rfl, _⟩ := rBy_open y24
    obtain ⟨_, _, rfl, _⟩ := rBy_open y28
    obtain ⟨_, _, rfl, _⟩ := rBy_open y32
    obtain ⟨_, _, rfl, _⟩ := rBy_open y38
    clear hE hC y24 y28 y32 y38
    go_simp
    exact ⟨hl6.out, (Below.refl _ _).alloc (Nat.le_refl _) _⟩
  simp only [Act.put, List.setIfInBounds_toArray, List.set_cons_zero, List.set_cons_succ, envAdd]
  intro x41
  refine wpAs_act rfl rfl ?_ ?_
  · intro W hC hE
    have y41 := hE.1 rfl
    have hlen2 : lens [[s.1.1], le 4 s.1.2.1, le 4 s.1.2.2, le 2 s.2.1, [UInt8.ofNat n], s.2.2] = 12 + n := by
      unfold lens
      rw [hhead.out, hlen.out]
    refine does_enter (f := 54) (args := #[x41]) ?_ ?_
    · clear hE hC hlen2
      obtain ⟨_, _, e, _⟩ := rows_open y41
      cases e
      clear y41
      go_simp
    · refine (concat_any x41 _ W (by rw [hlen2]; omega) y41).mono ?_
      rintro e W' ⟨u, rfl, ho, hb⟩
      rw [hlen2, hhead.out] at ho
      exact ⟨_, rfl, stab_by.mono (own_by ho) hC.size, hb⟩
  simp only [Act.put, List.setIfInBounds_toArray, List.set_cons_zero, List.set_cons_succ, envAdd]
  intro x42
  refine wpAs_pure (v := x42) rfl rfl ?_ ?_
  · intro W hC hE
    clear hE hC
    go_simp
  simp only [Act.put, List.setIfInBounds_toArray, List.set_cons_zero, List.set_cons_succ]
  repeat (first
    | (refine wpAs_skip rfl ?_; simp only [Act.put, List.setIfInBounds_toArray, List.set_cons_zero, List.set_cons_succ])
    | (refine wpAs_pure (v := ?_) rfl rfl ?_ ?_; rotate_left; (intro W hC hE; clear hE; skip; clear hC; go_simp; done); simp only [Act.put, List.setIfInBounds_toArray, List.set_cons_zero, List.set_cons_succ])
    | (refine wpAs_pure (v := ?_) rfl rfl ?_ ?_; rotate_left; (intro W hC hE; clear hE; skip; clear hC; go_simp; with_reducible rfl); simp only [Act.put, List.setIfInBounds_toArray, List.set_cons_zero, List.set_cons_succ]))
  refine wpAs_end fun W hC hE => ?_
  have o42 := Lib.hid hE.1
  clear hE
  have BW := Lib.hid (HB0.out.trans ((B2.out.trans (hC.mono B2.out.size)).mono HB0.out.size))
  clear hC
  go_wp2_with fail
  go_ret2
  exact ⟨_, rfl, stab_by.mono o42.out (Nat.le_of_lt lt2), BW.out⟩

theorem itWrite_any (v : Value) (s : It) (w : World) (h : Itm (Old w) w v s) :
    Calls Tryz.prog 33 #[v] w fun e w' => ∃ u, e = .returned (.tuple #[u, .int .i64 (chkI s)]) ∧ rBy (New w.heap.size w') w' [u] (wrI s) ∧ Below w.heap.size w w' := by
  cases hm : mayI s with
  | true =>
    rw [chkI_ok hm, show wrI s = itB s by simp [wrI, hm]]
    exact itWrite_ok v s w h hm
  | false =>
    rw [chkI_bad hm, show wrI s = [] by simp [wrI, hm]]
    have hchk := Lib.hid (chkI_bad hm)
    replace hm := Lib.hid hm
    obtain ⟨A, c, rfl, _⟩ := h.open
    obtain ⟨w0, hw0, f1, f2, f3, f4, f5, hs0, hB0, _⟩ := box_five w (.int .u8 (s.1.1.toNat : Int)) (.int .u32 s.1.2.1) (.int .u32 s.1.2.2) (.int .i64 s.2.1) (.slice A s.2.2.length c) 52
    have H0 := Lib.hid (h.below hB0)
    have HB0 := Lib.hid hB0
    clear hB0 hs0 h
    go_enter Tryz.func33, Tryz.ntmps33
    go_upto_region 1 with fail
    clear hw0
    go_wp2_with fail
    with_reducible refine (checkI_any _ s _ H0.out).mono ?_
    rintro e1 w1 ⟨rfl, hb1⟩
    rw [hchk.out]
    have BF := Lib.hid (HB0.out.trans (hb1.mono HB0.out.size))
    clear hb1
    go_wp2_with fail
    go_ret2
    exact ⟨_, rfl, rBy_nil_new _ _, BF.out⟩
end Go.Proofs.YtmdlgnlfgfhkmaaGreat

/-
  Package item: cut, fields, Read. Conditions: those that each lemma states.
-/
namespace Go.Proofs.YtmdlgnlfgfhkmaaGreat
open Go.RowKit

/-! ### What bytes tell -/
def cutN (b : List UInt8) : Nat := (b[11]?.getD 0).toNat
theorem cutN_lt (b : List UInt8) : cutN b < 256 := (b[11]?.getD 0).toNat_lt
def okC (b : List UInt8) : Bool := decide (12 + cutN b ≤ b.length)
def cutV (b : List UInt8) : List UInt8 := if okC b then (b.drop 12).take (cutN b) else []
def cutE (b : List UInt8) : Int := if okC b then 0 else 8
def fieldsI (b : List UInt8) : It := ((b[0]?.getD 0, gv 4 b 1, gv 4 b 5), gv 2 b 9, (b.drop 12).take (cutN b))
def fldI (b : List UInt8) : It := if okC b then fieldsI b else zeroI
theorem okC_yes {b : List UInt8} (h : okC b = true) : 12 + cutN b ≤ b.length := by simpa [okC] using h
theorem okC_no {b : List UInt8} (h : okC b = false) : ¬ 12 + cutN b ≤ b.length := by simpa [okC] using h
theorem inI_fields (b : List UInt8) : InI (fieldsI b) := ⟨⟨gv4_in _ _, gv4_in _ _⟩, gv2_in _ _⟩
theorem inI_fld (b : List UInt8) : InI (fldI b) := by
  unfold fldI
  split
  · exact inI_fields b
  · exact inI_zero
theorem fieldsI_length {b : List UInt8} (h : okC b = true) : (fieldsI b).2.2.length = cutN b := by
  have := okC_yes h
  simp [fieldsI]
  omega
def okR (b : List UInt8) : Bool := okC b && mayI (fldI b)
def itR (b : List UInt8) : It := if okR b then fieldsI b else zeroI
def itN (b : List UInt8) : Int := if okR b then (12 + cutN b : Int) else 0
def itE (b : List UInt8) : Int := if okR b then 0 else 8

/-- A part of bytes. -/
theorem rBy_part {ok : Addr → Prop} {w : World} {ad : Addr} {n c : Nat} {b : List UInt8} (h : rBy ok w [.slice (some ad) n c] b) (k m cap : Nat) (hk : k + m ≤ b.length) (hm : m ≤ cap) (hc : cap ≤ 9223372036854775807) : rBy ok w [.slice (some (ad.add k)) m cap] ((b.drop k).take m) := by
  obtain ⟨A, c', e, _, _, h4⟩ := h
  cases e
  have hl : ((b.drop k).take m).length = m := by simp; omega
  refine ⟨some (ad.add k), cap, by rw [hl], by rw [hl]; exact hm, hc, fun i x hi => ?_⟩
  have him : i < m := by rw [← hl]; exact (List.getElem?_eq_some_iff.1 hi).1
  have hi' : b[k + i]? = some x := by
    rw [List.getElem?_take_of_lt him, List.getElem?_drop] at hi
    exact hi
  obtain ⟨ad', vs, e1, e2, e3, e4⟩ := h4 (k + i) x hi'
  cases e1
  refine ⟨ad.add k, vs, rfl, e2, fun j v hj => ?_, e4⟩
  have := e3 j v hj
  rw [add_add', show k + (i * 1 + j) = (k + i) * 1 + j by omega]
  exact this
theorem rBy_part0 (ok : Addr → Prop) (w : World) (A : Option Addr) : rBy ok w [.slice A 0 0] [] := ⟨A, 0, rfl, by simp, by omega, fun i x h => by simp at h⟩

set_option maxRecDepth 100000 in
set_option maxHeartbeats 2000000 in
theorem cut_any (ok : Addr → Prop) (v : Value) (b : List UInt8) (w : World) (h : rBy ok w [v] b) :
    Calls Tryz.prog 117 #[v] w fun e w' => ∃ u, e = .returned (.tuple #[u, .int .i64 (cutE b)]) ∧ rBy ok w' [u] (cutV b) ∧ w = w' := by
  obtain ⟨A, c, rfl, l1, m1, hy⟩ := rBy_open h
  obtain ⟨n, hn⟩ : ∃ n, b.length = n := ⟨_, rfl⟩
  have hcn := cutN_lt b
  cases hok : okC b with
  | false =>
    have hno := okC_no hok
    have hE := Lib.hid (show cutE b = 8 by simp [cutE, hok])
    have hV := Lib.hid (show cutV b = [] by simp [cutV, hok])
    rw [hE.out, hV.out]
    by_cases h12 : n < 12
    · have i1 : (n : Int) < 12 := by omega
      rw [hn] at l1 ⊢
      clear hok hno hn hy h
      go_enter Tryz.func117, Tryz.ntmps117
      go_wp2_with fail
      go_ret2
      exact ⟨_, rfl, rBy_part0 _ _ _, rfl⟩
    · obtain ⟨ad, rfl, _, hc⟩ := hy 11 (by omega)
      have h11 : w.cell? ⟨ad.block, ad.off + 11, none⟩ = some (.int .u8 (cutN b : Int)) := by simpa [Addr.add, cutN] using hc
      obtain ⟨k, hk⟩ : ∃ k, cutN b = k := ⟨_, rfl⟩
      rw [hk] at h11 hno hcn
      rw [hn] at l1 hno ⊢
      have i1 : ¬ (n : Int) < 12 := by omega
      have i2 : (n : Int) < 12 + k := by omega
      clear hok hno hn hy h hc hk
      go_enter Tryz.func117, Tryz.ntmps117
      go_wp2_with fail
      go_ret2
      exact ⟨_, rfl, rBy_part0 _ _ _, rfl⟩
  | true =>
    have hyes := okC_yes hok
    have hE := Lib.hid (show cutE b = 0 by simp [cutE, hok])
    have hV := Lib.hid (show cutV b = (b.drop 12).take (cutN b) by simp [cutV, hok])
    rw [hE.out, hV.out]
    obtain ⟨ad, rfl, _, hc⟩ := hy 11 (by omega)
    have h11 : w.cell? ⟨ad.block, ad.off + 11, none⟩ = some (.int .u8 (cutN b : Int)) := by simpa [Addr.add, cutN] using hc
    obtain ⟨k, hk⟩ : ∃ k, cutN b = k := ⟨_, rfl⟩
    rw [hk] at h11 hyes hcn ⊢
    rw [hn] at l1 hyes ⊢
    have i1 : ¬ (n : Int) < 12 := by omega
    have i2 : ¬ (n : Int) < 12 + k := by omega
    clear hok hE hV hc
    rcases Nat.eq_zero_or_pos k with h0 | h0
    · subst h0
      rw [List.take_zero]
      go_enter Tryz.func117, Tryz.ntmps117
      go_wp2_with fail
      go_ret2
      exact ⟨_, rfl, rBy_part0 _ _ _, rfl⟩
    · have hfin : Hid (rBy ok w [.slice (some ⟨ad.block, ad.off + 12, none⟩) k k] ((b.drop 12).take k)) := Lib.hid (by
        have h1 : ad.add 12 = ⟨ad.block, ad.off + 12, none⟩ := by simp [Addr.add]
        have h2 := rBy_part h 12 k k (by omega) (Nat.le_refl _) (by omega)
        rwa [h1] at h2)
      have h0' : ¬ k = 0 := by omega
      clear hy h hn hk
      go_enter Tryz.func117, Tryz.ntmps117
      go_wp2_with fail
      go_ret2
      exact ⟨_, rfl, hfin.out, rfl⟩

theorem orN_no {a b c : Int} (ha : a = 0 ∨ a = 8) (hb : b = 0 ∨ b = 8) (hc : c = 0 ∨ c = 8) : orN [a, b, c, 8] = 8 := by
  rcases ha with rfl | rfl <;> rcases hb with rfl | rfl <;> rcases hc with rfl | rfl <;> rfl
theorem ge_ways (m n : Nat) (k : Int) : ge m n k = 0 ∨ ge m n k = 8 := by
  unfold ge
  split
  · exact Or.inl rfl
  · exact Or.inr rfl
theorem errs_in {e : Int} (h : e = 0 ∨ e = 8) : In64 e := by
  rcases h with rfl | rfl <;> exact ⟨by decide, by decide⟩

set_option maxRecDepth 100000 in
set_option maxHeartbeats 8000000 in
theorem fieldsI_any (ok : Addr → Prop) (v : Value) (b : List UInt8) (w : World) (hok0 : ∀ p, ok p → p.block < w.heap.size) (h : rBy ok w [v] b) :
    Calls Tryz.prog 112 #[v] w fun e w' => ∃ u, e = .returned (.tuple #[u, .int .i64 (cutE b)]) ∧ Itm ok w' u (fldI b) ∧ Below w.heap.size w w' := by
  obtain ⟨A, c, rfl, l1, m1, hy⟩ := rBy_byt (B := w.heap.size) hok0 h
  obtain ⟨n, hn⟩ : ∃ n, b.length = n := ⟨_, rfl⟩
  have hin := Lib.hid (inI_fields b)
  have HO := Lib.hid hok0
  have hhead : okC b = true → ∃ ad, A = some ad ∧ Old w ad ∧ w.cell? ad = some (.int .u8 ((b[0]?.getD 0).toNat : Int)) := fun hk => by
    have := okC_yes hk
    obtain ⟨ad, rfl, hb, hc⟩ := hy (by omega)
    exact ⟨ad, rfl, hb, by have := hc 0 (by omega); simpa [Addr.add] using this⟩
  replace hhead := Lib.hid hhead
  have hF : Hid (fldI b = if okC b then fieldsI b else zeroI) := Lib.hid rfl
  have hE : Hid (cutE b = if okC b then 0 else 8) := Lib.hid rfl
  have hV : Hid (cutV b = if okC b then (b.drop 12).take (cutN b) else []) := Lib.hid rfl
  have hg1 := ge_ways 4 n 1
  have hg2 := ge_ways 4 n 5
  have hg3 := ge_ways 2 n 9
  have hgy : Hid (okC b = true → ge 4 n 1 = 0 ∧ ge 4 n 5 = 0 ∧ ge 2 n 9 = 0) := Lib.hid (fun hk => by
    have := okC_yes hk
    exact ⟨ge_yes (by omega), ge_yes (by omega), ge_yes (by omega)⟩)
  rw [hn] at l1 h ⊢
  have HL := Lib.hid hn
  have HY := Lib.hid hy
  have HV := Lib.hid h
  obtain ⟨w0, hw0, _, _, _, _, _, hs0, hB0, b0⟩ := box_five w (.int .u8 0) (.int .u32 0) (.int .u32 0) (.int .i64 0) (.slice none 0 0) 52
  have lt0 : w.heap.size < w0.heap.size := by omega
  have HB0 := Lib.hid hB0
  replace b0 := Lib.hid b0
  replace hw0 := Lib.hid hw0
  obtain ⟨x0, hx0⟩ : ∃ x, b[0]?.getD 0 = x := ⟨_, rfl⟩
  obtain ⟨x1, hx1⟩ : ∃ x, gv 4 b 1 = x := ⟨_, rfl⟩
  obtain ⟨x2, hx2⟩ : ∃ x, gv 4 b 5 = x := ⟨_, rfl⟩
  obtain ⟨x3, hx3⟩ : ∃ x, gv 2 b 9 = x := ⟨_, rfl⟩
  obtain ⟨e1, he1⟩ : ∃ x, ge 4 n 1 = x := ⟨_, rfl⟩
  obtain ⟨e2, he2⟩ : ∃ x, ge 4 n 5 = x := ⟨_, rfl⟩
  obtain ⟨e3, he3⟩ : ∃ x, ge 2 n 9 = x := ⟨_, rfl⟩
  rw [hx0] at hhead
  rw [he1] at hg1 hgy
  rw [he2] at hg2 hgy
  rw [he3] at hg3 hgy
  have hFE := Lib.hid (show fieldsI b = ((x0, x1, x2), x3, (b.drop 12).take (cutN b)) by rw [← hx0, ← hx1, ← hx2, ← hx3]; rfl)
  replace hx0 := Lib.hid hx0
  replace hx1 := Lib.hid hx1
  replace hx2 := Lib.hid hx2
  replace hx3 := Lib.hid hx3
  replace he1 := Lib.hid he1
  replace he2 := Lib.hid he2
  replace he3 := Lib.hid he3
  replace hg1 := Lib.hid hg1
  replace hg2 := Lib.hid hg2
  replace hg3 := Lib.hid hg3
  clear hB0 hs0 h hy hn hok0
  go_enter Tryz.func112, Tryz.ntmps112
  go_upto_region 1 with fail
  rw [hw0.out]
  clear hw0
  go_wp2_with fail
  with_reducible refine (getFour_any _ n c 1 b HL l1 m1 _ ((HY.out.below HB0.out).more HB0.out.size)).mono ?_
  rintro f1 w1 ⟨rfl, hb1⟩
  rw [he1.out, hx1.out]
  have B1 := Lib.hid (HB0.out.trans (hb1.mono HB0.out.size))
  have C1 := Lib.hid hb1
  clear hb1
  go_wp2_with fail
  with_reducible refine (getFour_any _ n c 5 b HL l1 m1 _ ((HY.out.below B1.out).more B1.out.size)).mono ?_
  rintro f2 w2 ⟨rfl, hb2⟩
  rw [he2.out, hx2.out]
  have B2 := Lib.hid (B1.out.trans (hb2.mono B1.out.size))
  have C2 := Lib.hid (C1.out.trans (hb2.mono C1.out.size))
  clear hb2
  go_wp2_with fail
  with_reducible refine (getTwo_any _ n c 9 b HL l1 m1 _ ((HY.out.below B2.out).more B2.out.size)).mono ?_
  rintro f3 w3 ⟨rfl, hb3⟩
  rw [he3.out, hx3.out]
  have B3 := Lib.hid (B2.out.trans (hb3.mono B2.out.size))
  have C3 := Lib.hid (C2.out.trans (hb3.mono C2.out.size))
  clear hb3
  go_wp2_with fail
  have hv3 : Hid (rBy ok w3 [.slice A n c] b) := Lib.hid (stab_by _ _ _ _ _ _ (fun p v hp hc => ⟨hp, (B3.out.cell (HO.out p hp)).trans hc⟩) HV.out)
  with_reducible refine (cut_any ok _ b _ hv3.out).mono ?_
  rintro f4 w4 ⟨u, rfl, hu, rfl⟩
  cases hok : okC b with
  | false =>
    have hq := Lib.hid (show cutE b = 8 by rw [hE.out, hok]; rfl)
    have hz := Lib.hid (show fldI b = zeroI by rw [hF.out, hok]; rfl)
    rw [hq.out]
    obtain ⟨w6, hw6, h6⟩ : ∃ w6, w3.alloc (.cells #[.int .i64 e1, .int .i64 e2, .int .i64 e3, .int .i64 8] 35) = w6 ∧ rInts (Old w6) w6 [.slice (some ⟨w3.heap.size, 0, none⟩) 4 4] [e1, e2, e3, 8] :=
      ⟨_, rfl, ints_lit w3 35 [e1, e2, e3, 8] _ rfl (by simp) (fun x hx => by
        simp at hx
        rcases hx with rfl | rfl | rfl | rfl
        · exact errs_in hg1.out
        · exact errs_in hg2.out
        · exact errs_in hg3.out
        · exact ⟨by decide, by decide⟩)⟩
    have b6 : Below w3.heap.size w3 w6 := by rw [← hw6]; exact (Below.refl _ _).alloc (Nat.le_refl _) _
    have B6 := Lib.hid (B3.out.trans (b6.mono B3.out.size))
    have C6 := Lib.hid (C3.out.trans (b6.mono C3.out.size))
    have hor := Lib.hid (orN_no hg1.out hg2.out hg3.out)
    replace h6 := Lib.hid h6
    replace hok := Lib.hid hok
    obtain ⟨_, _, rfl, _⟩ := id (rBy_open hu)
    clear b6 hu
    go_wp2_with fail
    with_reducible refine (or_any _ [e1, e2, e3, 8] _ h6.out).mono ?_
    rintro f7 w7 ⟨rfl, rfl⟩
    rw [hor.out]
    clear hw6
    have b9 := (C6.out.block w.heap.size lt0).trans b0.out
    obtain ⟨W9, hW9, g9, gr9, gs9⟩ := put_five (u0 := .int .u8 0) (u1 := .int .u32 0) (u2 := .int .u32 0) (u3 := .int .i64 0) (u4 := .slice none 0 0) b9
    obtain ⟨k0, k1, k2, k3, k4, _, _⟩ := five_cells g9
    obtain ⟨a0, a1, a2, a3, a4, af, _⟩ := five_cells b9
    have B9 := Lib.hid (B6.out.grown gr9 B6.out.size (fun q e => by cases e; omega))
    replace b9 := Lib.hid b9
    clear g9 gr9
    go_wp2_with fail
    exact bodyPost_ret (v := .tuple #[.agg #[.int .u8 0, .int .u32 0, .int .u32 0, .int .i64 0, .slice none 0 0], .int .i64 8]) (by simp [results, Tryz.results112, go_sem, k0, k1, k2, k3, k4]) rfl ⟨_, ret_two hq.out.symm, by rw [hz.out]; exact itm_zero _ _, B9.out⟩
  | true =>
    have hq := Lib.hid (show cutE b = 0 by rw [hE.out, hok]; rfl)
    have hz := Lib.hid (show fldI b = fieldsI b by rw [hF.out, hok]; rfl)
    have hv := Lib.hid (show cutV b = (b.drop 12).take (cutN b) by rw [hV.out, hok]; rfl)
    obtain ⟨rfl, rfl, rfl⟩ := hgy.out hok
    obtain ⟨ad, rfl, hold, hcell⟩ := hhead.out hok
    rw [hq.out]
    rw [hv.out] at hu
    obtain ⟨L, hL⟩ : ∃ L, (b.drop 12).take (cutN b) = L := ⟨_, rfl⟩
    rw [hL] at hu
    have hFL := hFE.out
    rw [hL] at hFL
    replace hFL := Lib.hid hFL
    replace hL := Lib.hid hL
    obtain ⟨w6, hw6, h6⟩ : ∃ w6, w3.alloc (.cells #[.int .i64 0, .int .i64 0, .int .i64 0, .int .i64 0] 35) = w6 ∧ rInts (Old w6) w6 [.slice (some ⟨w3.heap.size, 0, none⟩) 4 4] [0, 0, 0, 0] :=
      ⟨_, rfl, ints_lit w3 35 [0, 0, 0, 0] _ rfl (by simp) (fun x hx => by
        simp at hx
        subst hx
        exact ⟨by decide, by decide⟩)⟩
    have b6 : Below w3.heap.size w3 w6 := by rw [← hw6]; exact (Below.refl _ _).alloc (Nat.le_refl _) _
    have B6 := Lib.hid (B3.out.trans (b6.mono B3.out.size))
    have C6 := Lib.hid (C3.out.trans (b6.mono C3.out.size))
    have hor : Hid (orN [0, 0, 0, 0] = 0) := Lib.hid rfl
    have hu6 : Hid (rBy ok w6 _ L) := Lib.hid (stab_by _ _ _ _ _ _ (fun p v hp hc => ⟨hp, (b6.cell (Nat.lt_of_lt_of_le (HO.out p hp) B3.out.size)).trans hc⟩) hu)
    have hn0 := okC_yes hok
    have hnn : 0 < n := by have := HL.out; omega
    replace h6 := Lib.hid h6
    replace hok := Lib.hid hok
    obtain ⟨D, dc, rfl, _⟩ := id (rBy_open hu)
    clear b6 hu hn0
    go_wp2_with fail
    with_reducible refine (or_any _ [0, 0, 0, 0] _ h6.out).mono ?_
    rintro f7 w7 ⟨rfl, rfl⟩
    rw [hor.out]
    clear hw6
    have c0 := (B6.out.cell hold).trans hcell
    have b9 := (C6.out.block w.heap.size lt0).trans b0.out
    obtain ⟨W9, hW9, g9, gr9, gs9⟩ := put_five (u0 := .int .u8 (x0.toNat : Int)) (u1 := .int .u32 x1) (u2 := .int .u32 x2) (u3 := .int .i64 x3) (u4 := .slice D L.length dc) b9
    obtain ⟨k0, k1, k2, k3, k4, _, _⟩ := five_cells g9
    obtain ⟨a0, a1, a2, a3, a4, af, _⟩ := five_cells b9
    have B9 := Lib.hid (B6.out.grown gr9 B6.out.size (fun q e => by cases e; omega))
    have hfin : Hid (Itm ok W9 (.agg #[.int .u8 (x0.toNat : Int), .int .u32 x1, .int .u32 x2, .int .i64 x3, .slice D L.length dc]) (fldI b)) := Lib.hid (by
      have h2 := hin.out
      rw [hFL.out] at h2
      rw [hz.out, hFL.out]
      refine ⟨_, rfl, h2, stab_by _ _ _ _ _ _ (fun p v hp hc => ⟨hp, ?_⟩) hu6.out⟩
      have hb := gr9.block p.block (Nat.lt_of_lt_of_le (HO.out p hp) B6.out.size) (fun e => by have h1 := Option.some.inj e; have h2 : p.block < w.heap.size := HO.out p hp; omega)
      exact (World.cell?_of_block hb).trans hc)
    replace b9 := Lib.hid b9
    replace hold := Lib.hid hold
    clear g9 gr9 hcell
    go_wp2_with fail
    exact bodyPost_ret (v := .tuple #[.agg #[.int .u8 (x0.toNat : Int), .int .u32 x1, .int .u32 x2, .int .i64 x3, .slice D L.length dc], .int .i64 0]) (by simp [results, Tryz.results112, go_sem, k0, k1, k2, k3, k4]) rfl ⟨_, ret_two hq.out.symm, hfin.out, B9.out⟩

theorem bool_ways (b : Bool) : b = false ∨ b = true := by cases b <;> simp
theorem okR_fields {b : List UInt8} (h : okR b = true) : okC b = true ∧ mayI (fldI b) = true := by simpa [okR] using h

set_option maxRecDepth 100000 in
set_option maxHeartbeats 8000000 in
theorem itRead_any (v : Value) (b : List UInt8) (w : World) (h : rBy (Old w) w [v] b) :
    Calls Tryz.prog 105 #[v] w fun e w' => ∃ u, e = .returned (.tuple #[u, .int .i64 (itN b), .int .i64 (itE b)]) ∧ Itm (New w.heap.size w') w' u (itR b) ∧ Below w.heap.size w w' := by
  obtain ⟨A, c, rfl, _⟩ := id (rBy_open h)
  obtain ⟨n, hn⟩ : ∃ n, b.length = n := ⟨_, rfl⟩
  have hE : Hid (itE b = if okR b then 0 else 8) := Lib.hid rfl
  have hN : Hid (itN b = if okR b then (12 + cutN b : Int) else 0) := Lib.hid rfl
  have hR : Hid (itR b = if okR b then fieldsI b else zeroI) := Lib.hid rfl
  have hO : Hid (okR b = (okC b && mayI (fldI b))) := Lib.hid rfl
  obtain ⟨w0, hw0, _, _, _, _, _, hs0, hB0, b0⟩ := box_five w (.int .u8 0) (.int .u32 0) (.int .u32 0) (.int .i64 0) (.slice none 0 0) 52
  have lt0 : w.heap.size < w0.heap.size := by omega
  have HV : Hid (rBy (Old w) w0 [.slice A b.length c] b) := Lib.hid (stab_by _ _ _ _ _ _ (fun p v hp hc => ⟨hp, (hB0.cell hp).trans hc⟩) h)
  have HB0 := Lib.hid hB0
  replace b0 := Lib.hid b0
  replace hw0 := Lib.hid hw0
  rw [hn] at HV ⊢
  replace hn := Lib.hid hn
  clear hB0 hs0 h
  go_enter Tryz.func105, Tryz.ntmps105
  go_upto_region 1 with fail
  rw [hw0.out]
  clear hw0
  go_wp2_with fail
  with_reducible refine (fieldsI_any (Old w) _ b _ (fun p hp => Nat.lt_trans hp lt0) HV.out).mono ?_
  rintro f1 w1 ⟨u, rfl, hu, hb1⟩
  have B1 := Lib.hid (HB0.out.trans (hb1.mono HB0.out.size))
  have C1 := Lib.hid hb1
  have b1 := (hb1.block w.heap.size lt0).trans b0.out
  have lt1 : w.heap.size < w1.heap.size := Nat.lt_of_lt_of_le lt0 hb1.size
  have hF : Hid (fldI b = if okC b then fieldsI b else zeroI) := Lib.hid rfl
  obtain ⟨s, hs⟩ : ∃ s, fldI b = s := ⟨_, rfl⟩
  rw [hs] at hu hO hF
  replace hs := Lib.hid hs
  have hin := hu.open
  obtain ⟨D, dc, rfl, hin, d1, d2, hu2⟩ := hin
  obtain ⟨W2, hW2, g2, gr2, gs2⟩ := put_five (u0 := .int .u8 (s.1.1.toNat : Int)) (u1 := .int .u32 s.1.2.1) (u2 := .int .u32 s.1.2.2) (u3 := .int .i64 s.2.1) (u4 := .slice D s.2.2.length dc) b1
  obtain ⟨a0, a1, a2, a3, a4, af, _⟩ := five_cells b1
  obtain ⟨k0, k1, k2, k3, k4, kf, _⟩ := five_cells g2
  have B2 := Lib.hid (B1.out.grown gr2 B1.out.size (fun q e => by cases e; omega))
  have hu3 : Hid (Itm (Old w) W2 (itV s (.slice D s.2.2.length dc)) s) := Lib.hid (by
    refine ⟨_, rfl, hin, stab_by _ _ _ _ _ _ (fun p v hp hc => ⟨hp, ?_⟩) hu2⟩
    exact (World.cell?_of_block (gr2.block p.block (Nat.lt_trans hp lt1) (fun e => by have h1 := Option.some.inj e; have h2 : p.block < w.heap.size := hp; omega))).trans hc)
  have hfinB : ∀ (W : World), Below W2.heap.size W2 W → okR b = false → ∃ W9 : World, (((((W.setCell ⟨w.heap.size, 0, none⟩ (.int .u8 0)).setCell ⟨w.heap.size, 1, none⟩ (.int .u32 0)).setCell ⟨w.heap.size, 2, none⟩ (.int .u32 0)).setCell ⟨w.heap.size, 3, none⟩ (.int .i64 0)).setCell ⟨w.heap.size, 4, none⟩ (.slice none 0 0)) = W9 ∧
      W9.heap[w.heap.size]? = some (.cells #[.int .u8 0, .int .u32 0, .int .u32 0, .int .i64 0, .slice none 0 0] 52 (0, 0)) ∧ Hid (itE b = 8 ∧ itN b = 0 ∧ itR b = zeroI ∧ Below w.heap.size w W9) := fun W hW hno => by
    obtain ⟨W9, hW9, g9, gr9, gs9⟩ := put_five (u0 := .int .u8 0) (u1 := .int .u32 0) (u2 := .int .u32 0) (u3 := .int .i64 0) (u4 := .slice none 0 0) ((hW.block w.heap.size (by omega)).trans g2)
    have B := B2.out.trans (hW.mono B2.out.size)
    exact ⟨W9, hW9, g9, Lib.hid ⟨by rw [hE.out, hno]; rfl, by rw [hN.out, hno]; rfl, by rw [hR.out, hno]; rfl, B.grown gr9 B.size (fun q e => by cases e; omega)⟩⟩
  replace hfinB := Lib.hid hfinB
  replace b1 := Lib.hid b1
  replace g2 := Lib.hid g2
  replace gs2 := Lib.hid gs2
  replace gr2 := Lib.hid gr2
  clear hu hu2 hb1
  rcases bool_ways (okC b) with hok | hok
  · skip
    have hq := Lib.hid (show cutE b = 8 by simp [cutE, hok])
    have hno : okR b = false := by simp [okR, hok]
    obtain ⟨W9, hW9, g9, hz⟩ := hfinB.out W2 (Below.refl _ _) hno
    obtain ⟨m0, m1, m2, m3, m4, _, _⟩ := five_cells g9
    rw [hq.out]
    replace hok := Lib.hid hok
    replace hno := Lib.hid hno
    replace g9 := Lib.hid g9
    go_wp2_with fail
    exact bodyPost_ret (v := .tuple #[.agg #[.int .u8 0, .int .u32 0, .int .u32 0, .int .i64 0, .slice none 0 0], .int .i64 0, .int .i64 8]) (by simp [results, Tryz.results105, go_sem, m0, m1, m2, m3, m4]) rfl ⟨_, by rw [hz.out.1, hz.out.2.1], by rw [hz.out.2.2.1]; exact itm_zero _ _, hz.out.2.2.2⟩
  · skip
    have hq := Lib.hid (show cutE b = 0 by simp [cutE, hok])
    have hsf := Lib.hid (show s = fieldsI b by rw [hF.out, hok]; rfl)
    have hcl : s.2.2.length = cutN b := by rw [hsf.out]; exact fieldsI_length hok
    have hcn := cutN_lt b
    rw [hq.out]
    have hO2 := Lib.hid (show okR b = mayI s by rw [hO.out, hok]; rfl)
    replace hok := Lib.hid hok
    replace hcl := Lib.hid hcl
    go_wp2_with fail
    with_reducible refine (checkI_any _ s _ (hu3.out.map fun p v hp hc => ⟨Nat.lt_trans hp (by have := gs2.out; have := C1.out.size; omega), hc⟩)).mono ?_
    rintro f2 w3 ⟨rfl, hb3⟩
    have C3 := Lib.hid hb3
    have lt2 : w.heap.size < W2.heap.size := by have := gs2.out; omega
    have b3 := (hb3.block w.heap.size lt2).trans g2.out
    obtain ⟨q0, q1, q2, q3, q4, qf, _⟩ := five_cells b3
    clear k0 k1 k2 k3 k4 kf
    have B3 := Lib.hid (B2.out.trans (hb3.mono B2.out.size))
    rcases bool_ways (mayI s) with hm | hm
    · skip
      obtain ⟨W9, hW9, g9, hz⟩ := hfinB.out w3 C3.out (by rw [hO2.out, hm])
      obtain ⟨m0, m1, m2, m3, m4, _, _⟩ := five_cells g9
      have hck := Lib.hid (chkI_bad hm)
      rw [hck.out]
      replace hm := Lib.hid hm
      replace g9 := Lib.hid g9
      replace b3 := Lib.hid b3
      clear hb3
      go_wp2_with fail
      exact bodyPost_ret (v := .tuple #[.agg #[.int .u8 0, .int .u32 0, .int .u32 0, .int .i64 0, .slice none 0 0], .int .i64 0, .int .i64 8]) (by simp [results, Tryz.results105, go_sem, m0, m1, m2, m3, m4]) rfl ⟨_, by rw [hz.out.1, hz.out.2.1], by rw [hz.out.2.2.1]; exact itm_zero _ _, hz.out.2.2.2⟩
    · skip
      have hck := Lib.hid (chkI_ok hm)
      have hyes : okR b = true := by rw [hO2.out, hm]
      have hE9 := Lib.hid (show itE b = 0 by rw [hE.out, hyes]; rfl)
      have hN9 := Lib.hid (show itN b = 12 + s.2.2.length by rw [hN.out, hyes, hcl.out]; rfl)
      have hR9 := Lib.hid (show itR b = s by rw [hR.out, hyes, hsf.out]; rfl)
      have h12 : s.2.2.length ≤ 12 := (mayI_of hm).2
      have hu4 : Hid (Itm (Old w3) w3 (itV s (.slice D s.2.2.length dc)) s) := Lib.hid (hu3.out.map fun p v hp hc => by
        have h1 : p.block < W2.heap.size := Nat.lt_trans hp (by have := gs2.out; have := C1.out.size; omega)
        exact ⟨Nat.lt_of_lt_of_le h1 hb3.size, (hb3.cell h1).trans hc⟩)
      have lt3 : w.heap.size < w3.heap.size := Nat.lt_of_lt_of_le lt2 hb3.size
      rw [hck.out]
      replace hm := Lib.hid hm
      replace hyes := Lib.hid hyes
      replace b3 := Lib.hid b3
      clear hb3 a0 a1 a2 a3 a4 af
      go_wp2_with fail
      have HT : Hid (∀ W, Below w3.heap.size w3 W → Calls Tryz.prog 113 #[itV s (.slice D s.2.2.length dc)] W fun e w' => ∃ X xc, e = .returned (itV s (.slice X s.2.2.length xc)) ∧ Itm (New w3.heap.size w') w' (itV s (.slice X s.2.2.length xc)) s ∧ Below w3.heap.size w3 w') := Lib.hid fun W hC => by
        refine (twinI_any _ s W (by omega) (hu4.out.below hC)).mono ?_
        rintro e W' ⟨x, rfl, hx, hb⟩
        obtain ⟨X, xc, rfl, _⟩ := id hx.open
        exact ⟨X, xc, rfl, hx.map fun p v hp hc => ⟨⟨Nat.le_trans hC.size hp.1, hp.2⟩, hc⟩, hC.trans (hb.mono hC.size)⟩
      have hdr : Below w3.heap.size w3 w3.drew := (Below.refl _ _).drew
      have hwr : IntKind.i64.wrap (12 + (s.2.2.length : Int)) = 12 + s.2.2.length := by rw [IntKind.wrap_i64]; omega
      go_region_with (first
        | (go_at_call 113; refine (HT.out _ hdr).mono ?_; rintro e' wm ⟨X, xc, rfl, hx, hw⟩; have bW := (hw.block w.heap.size lt3).trans b3.out; obtain ⟨c0, c1, c2, c3, c4, cf, _⟩ := five_cells bW))
      all_goals
        (go_wp2_with fail
         obtain ⟨W9, hW9, g9, gr9, gs9⟩ := put_five (u0 := .int .u8 (s.1.1.toNat : Int)) (u1 := .int .u32 s.1.2.1) (u2 := .int .u32 s.1.2.2) (u3 := .int .i64 s.2.1) (u4 := .slice X s.2.2.length xc) bW
         obtain ⟨m0, m1, m2, m3, m4, _, _⟩ := five_cells g9
         rw [hW9]
         have BW := B3.out.trans (hw.mono B3.out.size)
         exact bodyPost_ret (v := .tuple #[.agg #[.int .u8 (s.1.1.toNat : Int), .int .u32 s.1.2.1, .int .u32 s.1.2.2, .int .i64 s.2.1, .slice X s.2.2.length xc], .int .i64 (12 + s.2.2.length), .int .i64 0]) (by simp [results, Tryz.results105, go_sem, m0, m1, m2, m3, m4]) rfl ⟨_, by rw [hE9.out, hN9.out], by
           rw [hR9.out]
           exact (hx.grown gr9 (fun q e => by cases e; omega)).map fun p v hp hc => ⟨⟨Nat.le_trans B3.out.size hp.1, hp.2⟩, hc⟩, BW.grown gr9 BW.size (fun q e => by cases e; omega)⟩)
end Go.Proofs.YtmdlgnlfgfhkmaaGreat

/-
  The document's answers of layer 5: Read. Conditions: those that each lemma states.
-/
namespace Go.Proofs.YtmdlgnlfgfhkmaaGreat
open Go.RowKit

set_option maxRecDepth 100000 in
set_option maxHeartbeats 8000000 in
theorem refReadI_any (v : Value) (b : List UInt8) (w : World) (h : rBy (Old w) w [v] b) :
    Calls Tryz.prog 94 #[v] w fun e w' => ∃ u, e = .returned (.tuple #[u, .int .i64 (itN b), .int .i64 (itE b)]) ∧ Itm (New w.heap.size w') w' u (itR b) ∧ Below w.heap.size w w' := by
  obtain ⟨A, c, rfl, l1, m1, hy⟩ := rBy_byt (B := w.heap.size) (fun p hp => hp) h
  obtain ⟨n, hn⟩ : ∃ n, b.length = n := ⟨_, rfl⟩
  have hE : Hid (itE b = if okR b then 0 else 8) := Lib.hid rfl
  have hN : Hid (itN b = if okR b then (12 + cutN b : Int) else 0) := Lib.hid rfl
  have hR : Hid (itR b = if okR b then fieldsI b else zeroI) := Lib.hid rfl
  obtain ⟨w0, hw0, _, _, _, _, _, hs0, hB0, b0⟩ := box_five w (.int .u8 0) (.int .u32 0) (.int .u32 0) (.int .i64 0) (.slice none 0 0) 52
  have lt0 : w.heap.size < w0.heap.size := by omega
  have hbad : okR b = false → ∃ u, Ending.returned (Value.tuple #[.agg #[.int .u8 0, .int .u32 0, .int .u32 0, .int .i64 0, .slice none 0 0], .int .i64 0, .int .i64 8]) = Ending.returned (Value.tuple #[u, .int .i64 (itN b), .int .i64 (itE b)]) ∧ ∀ (ok : Addr → Prop) (W : World), Itm ok W u (itR b) := fun hno =>
    ⟨_, by rw [hE.out, hN.out, hno]; rfl, fun ok W => by rw [hR.out, hno]; exact itm_zero _ _⟩
  replace hbad := Lib.hid hbad
  have HB0 := Lib.hid hB0
  have hcn := cutN_lt b
  rcases bool_ways (okC b) with hok | hok
  · have hno := okC_no hok
    obtain ⟨u, hu1, hu2⟩ := hbad.out (by simp [okR, hok])
    obtain ⟨W9, hW9, g9, gr9, gs9⟩ := put_five (u0 := .int .u8 0) (u1 := .int .u32 0) (u2 := .int .u32 0) (u3 := .int .i64 0) (u4 := .slice none 0 0) b0
    obtain ⟨k0, k1, k2, k3, k4, _, _⟩ := five_cells g9
    obtain ⟨a0, a1, a2, a3, a4, af, _⟩ := five_cells b0
    have B9 := Lib.hid (HB0.out.grown gr9 HB0.out.size (fun q e => by cases e; omega))
    replace g9 := Lib.hid g9
    replace b0 := Lib.hid b0
    replace hu1 := Lib.hid hu1
    replace hu2 := Lib.hid hu2
    replace hw0 := Lib.hid hw0
    by_cases h12 : n < 12
    · have i1 : (n : Int) < 12 := by omega
      rw [hn] at l1 ⊢
      clear hok hno hn hy h hB0 hs0 gr9 gs9
      go_enter Tryz.func94, Tryz.ntmps94
      go_upto_region 1 with fail
      rw [hw0.out]
      clear hw0
      go_wp2_with fail
      exact bodyPost_ret (v := .tuple #[.agg #[.int .u8 0, .int .u32 0, .int .u32 0, .int .i64 0, .slice none 0 0], .int .i64 0, .int .i64 8]) (by simp [results, Tryz.results94, go_sem, k0, k1, k2, k3, k4]) rfl ⟨u, hu1.out, hu2.out _ _, B9.out⟩
    · obtain ⟨ad, rfl, hb, hc⟩ := hy (by omega)
      have h11 : w0.cell? ⟨ad.block, ad.off + 11, none⟩ = some (.int .u8 (cutN b : Int)) := by
        have := (hB0.cell (p := ad.add 11) (by rw [add_block]; exact hb)).trans (hc 11 (by omega))
        simpa [Addr.add, cutN] using this
      obtain ⟨k, hk⟩ : ∃ k, cutN b = k := ⟨_, rfl⟩
      rw [hk] at h11 hno hcn
      rw [hn] at l1 hno ⊢
      have i1 : ¬ (n : Int) < 12 := by omega
      have i2 : (n : Int) - 12 < k := by omega
      clear hok hno hn hy h hc hk hB0 hs0 gr9 gs9
      go_enter Tryz.func94, Tryz.ntmps94
      go_upto_region 1 with fail
      rw [hw0.out]
      clear hw0
      go_wp2_with fail
      exact bodyPost_ret (v := .tuple #[.agg #[.int .u8 0, .int .u32 0, .int .u32 0, .int .i64 0, .slice none 0 0], .int .i64 0, .int .i64 8]) (by simp [results, Tryz.results94, go_sem, k0, k1, k2, k3, k4]) rfl ⟨u, hu1.out, hu2.out _ _, B9.out⟩
  have hyes := okC_yes hok
  obtain ⟨ad, rfl, hb, hc⟩ := hy (by omega)
  have h11 : w0.cell? ⟨ad.block, ad.off + 11, none⟩ = some (.int .u8 (cutN b : Int)) := by
    have := (hB0.cell (p := ad.add 11) (by rw [add_block]; exact hb)).trans (hc 11 (by omega))
    simpa [Addr.add, cutN] using this
  have h00 : w0.cell? ad = some (.int .u8 ((b[0]?.getD 0).toNat : Int)) := by
    have := (hB0.cell (p := ad) hb).trans (by simpa [Addr.add] using hc 0 (by omega))
    exact this
  have hin := Lib.hid (inI_fields b)
  obtain ⟨k, hk⟩ : ∃ k, cutN b = k := ⟨_, rfl⟩
  obtain ⟨x0, hx0⟩ : ∃ x : Int, ((b[0]?.getD 0).toNat : Int) = x := ⟨_, rfl⟩
  obtain ⟨x1, hx1⟩ : ∃ x, gv 4 b 1 = x := ⟨_, rfl⟩
  obtain ⟨x2, hx2⟩ : ∃ x, gv 4 b 5 = x := ⟨_, rfl⟩
  obtain ⟨x3, hx3⟩ : ∃ x, gv 2 b 9 = x := ⟨_, rfl⟩
  obtain ⟨L, hL⟩ : ∃ L, (b.drop 12).take k = L := ⟨_, rfl⟩
  have hF := Lib.hid (show fieldsI b = ((b[0]?.getD 0, x1, x2), x3, L) by rw [← hx1, ← hx2, ← hx3, ← hL, ← hk]; rfl)
  rw [hx0] at h00
  rw [hk] at h11 hyes hcn
  rw [hn] at l1 hyes ⊢
  have e1 := Lib.hid (show ge 4 n 1 = 0 from ge_yes (by omega))
  have e2 := Lib.hid (show ge 4 n 5 = 0 from ge_yes (by omega))
  have e3 := Lib.hid (show ge 2 n 9 = 0 from ge_yes (by omega))
  have i1 : ¬ (n : Int) < 12 := by omega
  have i2 : ¬ (n : Int) - 12 < k := by omega
  have i3 : 0 < n := by omega
  have HL := Lib.hid hn
  have HY := Lib.hid hy
  have HV := Lib.hid h
  have hOK : Hid (okR b = mayI (fieldsI b)) := Lib.hid (by simp [okR, hok, fldI])
  replace hok := Lib.hid hok
  replace hx0 := Lib.hid hx0
  replace hx1 := Lib.hid hx1
  replace hx2 := Lib.hid hx2
  replace hx3 := Lib.hid hx3
  replace hk := Lib.hid hk
  replace hL := Lib.hid hL
  replace hw0 := Lib.hid hw0
  replace b0 := Lib.hid b0
  obtain ⟨w2, hw2, _, _, _, _, _, hs2, hB2, b2⟩ := box_five w0 (.int .u8 x0) (.int .u32 0) (.int .u32 0) (.int .i64 0) (.slice none 0 0) 52
  have lt2 : w0.heap.size < w2.heap.size := by omega
  have C2 := Lib.hid hB2
  have B2 := Lib.hid (HB0.out.trans (hB2.mono HB0.out.size))
  replace hw2 := Lib.hid hw2
  clear hs0 hs2 hB0 hB2 h hy hc hn
  go_enter Tryz.func94, Tryz.ntmps94
  go_upto_region 1 with fail
  rw [hw0.out]
  clear hw0
  go_upto_region 4 with fail
  rw [hw2.out]
  clear hw2
  go_wp2_with fail
  with_reducible refine (getFour_refB (some ad) n c 1 b HL l1 m1 _ ((HY.out.below B2.out).more B2.out.size)).mono ?_
  rintro f3 w3 ⟨rfl, hb3⟩
  rw [e1.out, hx1.out]
  have b3 := (hb3.block w0.heap.size lt2).trans b2
  obtain ⟨w4, hw4, b4, gr4, gs4⟩ := put5_1 b3 (.int .u32 x1)
  obtain ⟨_, z3, _, _, _, zf, _⟩ := five_cells b3
  have C4 := Lib.hid ((C2.out.trans (hb3.mono C2.out.size)).grown gr4 (Nat.le_trans C2.out.size hb3.size) (fun q e => by cases e; omega))
  have lt4 : w0.heap.size < w4.heap.size := by have := hb3.size; omega
  clear hb3 gr4
  replace gs4 := Lib.hid gs4
  replace b3 := Lib.hid b3
  replace b4 := Lib.hid b4
  go_upto_region 5 with fail
  clear hw4 z3 zf b2 b3
  go_wp2_with fail
  with_reducible refine (getFour_refB (some ad) n c 5 b HL l1 m1 _ ((HY.out.below (HB0.out.trans (C4.out.mono HB0.out.size))).more (Nat.le_trans HB0.out.size C4.out.size))).mono ?_
  rintro f5 w5 ⟨rfl, hb5⟩
  rw [e2.out, hx2.out]
  have b5 := (hb5.block w0.heap.size lt4).trans b4.out
  obtain ⟨w6, hw6, b6, gr6, gs6⟩ := put5_2 b5 (.int .u32 x2)
  obtain ⟨_, _, z3, _, _, zf, _⟩ := five_cells b5
  have C6 := Lib.hid ((C4.out.trans (hb5.mono C4.out.size)).grown gr6 (Nat.le_trans C4.out.size hb5.size) (fun q e => by cases e; omega))
  have lt6 : w0.heap.size < w6.heap.size := by have := hb5.size; omega
  clear hb5 gr6
  replace gs6 := Lib.hid gs6
  replace b5 := Lib.hid b5
  replace b6 := Lib.hid b6
  go_upto_region 6 with fail
  clear hw6 z3 zf b4 b5
  go_wp2_with fail
  with_reducible refine (getTwo_refB (some ad) n c 9 b HL l1 m1 _ ((HY.out.below (HB0.out.trans (C6.out.mono HB0.out.size))).more (Nat.le_trans HB0.out.size C6.out.size))).mono ?_
  rintro f7 w7 ⟨rfl, hb7⟩
  rw [e3.out, hx3.out]
  have b7 := (hb7.block w0.heap.size lt6).trans b6.out
  obtain ⟨w8, hw8, b8, gr8, gs8⟩ := put5_3 b7 (.int .i64 x3)
  obtain ⟨_, _, _, z3, _, zf, _⟩ := five_cells b7
  have C8 := Lib.hid ((C6.out.trans (hb7.mono C6.out.size)).grown gr8 (Nat.le_trans C6.out.size hb7.size) (fun q e => by cases e; omega))
  have lt8 : w0.heap.size < w8.heap.size := by have := hb7.size; omega
  clear hb7 gr8
  replace gs8 := Lib.hid gs8
  replace b7 := Lib.hid b7
  replace b8 := Lib.hid b8
  have B8 := Lib.hid (HB0.out.trans (C8.out.mono HB0.out.size))
  have h8 : w8.cell? ⟨ad.block, ad.off + 11, none⟩ = some (.int .u8 (k : Int)) := (C8.out.cell (p := ⟨ad.block, ad.off + 11, none⟩) (Nat.lt_of_lt_of_le hb HB0.out.size)).trans h11
  go_upto_region 8 with fail
  clear hw8 z3 zf b6 b7
  obtain ⟨z0, z1, z2, z3, z4, zf, _⟩ := five_cells b8.out
  have hV8 := Lib.hid (stab_by.old HV.out B8.out)
  have hLl : Hid (L.length = k) := Lib.hid (by rw [← hL.out, List.length_take, List.length_drop, HL.out]; omega)
  have hsl : Hid (∀ W, Below w8.heap.size w8 W → rBy (Old W) W [.slice (some ⟨ad.block, ad.off + 12, none⟩) k (c - 12)] L) := Lib.hid fun W hW => by
    have h1 := rBy_part (stab_by.old hV8.out hW) 12 k (c - 12) (by rw [HL.out]; omega) (by omega) (by omega)
    rw [hL.out] at h1
    rwa [show ad.add 12 = ⟨ad.block, ad.off + 12, none⟩ by simp [Addr.add]] at h1
  have hsl0 : Hid (c = 12 → ∀ W, rBy (Old W) W [.slice (some ad) 0 0] L) := Lib.hid fun hc W => by
    have : L = [] := List.eq_nil_of_length_eq_zero (by rw [hLl.out]; omega)
    rw [this]
    exact rBy_part0 _ _ _
  replace b8 := Lib.hid b8.out
  refine wp_region_tails (by kernel_rfl) 6 (fun W => Below w8.heap.size w8 W) (fun i => match i with
      | 4 => some (fun v W => rBy (Old W) W [v] L)
      | 5 => some (fun v W => rBy (New w8.heap.size W) W [v] L)
      | _ => none) (fun _ => none) (by decide) (by kernel_rfl) (by kernel_rfl) (Below.refl _ _).drew (fun w w' h hb => h.trans (hb.mono h.size)) ?tst ?_
  case tst =>
    intro j φ x W W' hp hx hb
    match j, hp with
    | 4, hp => cases hp; exact stab_by.old hx hb
    | 5, hp => cases hp; exact stab_by.new hx (Nat.le_refl _) hb
  simp only [List.take_succ_cons, List.take_zero, List.drop_succ_cons, List.drop_zero]
  repeat (first
    | (refine wpAs_skip rfl ?_; simp only [Act.put, List.setIfInBounds_toArray, List.set_cons_zero, List.set_cons_succ])
    | (refine wpAs_pure (v := ?_) rfl rfl ?_ ?_; rotate_left; (intro W hC hE; clear hE; (have y4 := (hC.cell (p := ⟨w0.heap.size, 4, none⟩) lt8).trans z4); clear hC; go_simp; done); simp only [Act.put, List.setIfInBounds_toArray, List.set_cons_zero, List.set_cons_succ])
    | (refine wpAs_pure (v := ?_) rfl rfl ?_ ?_; rotate_left; (intro W hC hE; clear hE; (have y4 := (hC.cell (p := ⟨w0.heap.size, 4, none⟩) lt8).trans z4); clear hC; go_simp; with_reducible rfl); simp only [Act.put, List.setIfInBounds_toArray, List.set_cons_zero, List.set_cons_succ]))
  refine wpAs_act rfl rfl ?_ ?_
  · intro W hC hE
    clear hE
    have h1 := Lib.hid (hsl.out W hC)
    clear hC
    by_cases hc12 : c = 12
    · have h2 := Lib.hid (hsl0.out hc12 W)
      have hk0 : k = 0 := by omega
      subst hc12
      subst hk0
      go_simp
      exact ⟨h2.out, Below.refl _ _⟩
    · go_simp
      rw [if_pos (by omega), if_pos (by omega), show (12 + (k : Int)).toNat - 12 = k by omega]
      exact ⟨h1.out, Below.refl _ _⟩
  simp only [Act.put, List.setIfInBounds_toArray, List.set_cons_zero, List.set_cons_succ, envAdd]
  intro x55
  refine wpAs_act rfl rfl ?_ ?_
  · intro W hC hE
    have hx := hE.1 rfl
    obtain ⟨u, W', hr, hu, hb⟩ := app_copy x55 L W (by rw [hLl.out]; omega) hx
    exact does_append _ _ _ rfl rfl rfl hr ⟨stab_by.mono hu hC.size, hb⟩
  simp only [Act.put, List.setIfInBounds_toArray, List.set_cons_zero, List.set_cons_succ, envAdd]
  intro x56
  refine wpAs_end fun W hC hE => ?_
  have hx := hE.1
  clear hE
  have B9 := Lib.hid (B8.out.trans (hC.mono B8.out.size))
  have b9 := (hC.block w0.heap.size lt8).trans b8.out
  have C9 := Lib.hid (C8.out.trans (hC.mono C8.out.size))
  have b0' := (C9.out.block w.heap.size lt0).trans b0.out
  have hx' := Lib.hid hx
  obtain ⟨X, xc, rfl, _⟩ := id (rBy_open hx)
  clear hx
  obtain ⟨W5, hW5, g5, gr5, gs5⟩ := put5_4 b9 (.slice X L.length xc)
  obtain ⟨_, _, _, _, y4, yf, _⟩ := five_cells b9
  clear z0 z1 z2 z3 z4 zf
  obtain ⟨z0, z1, z2, z3, z4, zf, lt5⟩ := five_cells g5
  have bR := Lib.hid ((gr5.block w.heap.size (Nat.lt_of_lt_of_le lt0 C9.out.size) (fun e => by have := Option.some.inj e; omega)).trans b0')
  have B5 := Lib.hid (B9.out.grown gr5 B9.out.size (fun q e => by cases e; omega))
  have HI : Hid (Itm (New w0.heap.size W5) W5 (.agg #[.int .u8 x0, .int .u32 x1, .int .u32 x2, .int .i64 x3, .slice X L.length xc]) (fieldsI b)) := Lib.hid (by
    have h1 := stab_by.grown hx'.out gr5 (fun q e => by cases e; exact lt8)
    have h2 := hin.out
    rw [hF.out] at h2
    rw [hF.out, ← hx0.out]
    exact ⟨_, rfl, h2, stab_by.mono h1 (Nat.le_of_lt lt8)⟩)
  replace b9 := Lib.hid b9
  replace g5 := Lib.hid g5
  clear gr5 hC b0'
  go_wp2_with fail
  with_reducible refine (refMayI_any _ (fieldsI b) _ HI.out.drop).mono ?_
  rintro f6 w6 ⟨rfl, hb6⟩
  have B6 := Lib.hid (B5.out.trans (hb6.mono B5.out.size))
  have lt5' : w.heap.size < W5.heap.size := Nat.lt_trans lt0 lt5
  have b6 := (hb6.block w.heap.size lt5').trans bR.out
  have p0 := (hb6.cell (p := ⟨w0.heap.size, 0, none⟩) lt5).trans z0
  have p1 := (hb6.cell (p := ⟨w0.heap.size, 1, none⟩) lt5).trans z1
  have p2 := (hb6.cell (p := ⟨w0.heap.size, 2, none⟩) lt5).trans z2
  have p3 := (hb6.cell (p := ⟨w0.heap.size, 3, none⟩) lt5).trans z3
  have p4 := (hb6.cell (p := ⟨w0.heap.size, 4, none⟩) lt5).trans z4
  obtain ⟨a0, a1, a2, a3, a4, af, _⟩ := five_cells b6
  replace HI := Lib.hid (HI.out.new (Nat.le_refl _) hb6)
  clear z0 z1 z2 z3 z4 zf y4 yf hW5 hb6
  rcases bool_ways (mayI (fieldsI b)) with hm | hm
  · obtain ⟨u, hu1, hu2⟩ := hbad.out (by rw [hOK.out, hm])
    obtain ⟨W9, hW9, g9, gr9, gs9⟩ := put_five (u0 := .int .u8 0) (u1 := .int .u32 0) (u2 := .int .u32 0) (u3 := .int .i64 0) (u4 := .slice none 0 0) b6
    obtain ⟨m0, m1, m2, m3, m4, _, _⟩ := five_cells g9
    have BF := Lib.hid (B6.out.grown gr9 B6.out.size (fun q e => by cases e; omega))
    rw [hm]
    replace hm := Lib.hid hm
    replace g9 := Lib.hid g9
    replace b6 := Lib.hid b6
    replace hu1 := Lib.hid hu1
    replace hu2 := Lib.hid hu2
    clear gr9
    go_wp2_with fail
    exact bodyPost_ret (v := .tuple #[.agg #[.int .u8 0, .int .u32 0, .int .u32 0, .int .i64 0, .slice none 0 0], .int .i64 0, .int .i64 8]) (by simp [results, Tryz.results94, go_sem, m0, m1, m2, m3, m4]) rfl ⟨u, hu1.out, hu2.out _ _, BF.out⟩
  · have hyes : okR b = true := by rw [hOK.out, hm]
    have hE9 := Lib.hid (show itE b = 0 by rw [hE.out, hyes]; rfl)
    have hN9 := Lib.hid (show itN b = 12 + k by rw [hN.out, hyes, hk.out]; rfl)
    have hR9 := Lib.hid (show itR b = fieldsI b by rw [hR.out, hyes]; rfl)
    obtain ⟨W9, hW9, g9, gr9, gs9⟩ := put_five (u0 := .int .u8 x0) (u1 := .int .u32 x1) (u2 := .int .u32 x2) (u3 := .int .i64 x3) (u4 := .slice X L.length xc) b6
    obtain ⟨m0, m1, m2, m3, m4, _, _⟩ := five_cells g9
    have BF := Lib.hid (B6.out.grown gr9 B6.out.size (fun q e => by cases e; omega))
    have hfin : Hid (Itm (New w.heap.size W9) W9 (.agg #[.int .u8 x0, .int .u32 x1, .int .u32 x2, .int .i64 x3, .slice X L.length xc]) (itR b)) := Lib.hid (by
      rw [hR9.out]
      exact (HI.out.grown gr9 (fun q e => by cases e; exact lt0)).map fun p v hp hc => ⟨⟨Nat.le_trans (Nat.le_of_lt lt0) hp.1, hp.2⟩, hc⟩)
    rw [hm]
    replace hm := Lib.hid hm
    replace g9 := Lib.hid g9
    replace b6 := Lib.hid b6
    replace hyes := Lib.hid hyes
    clear gr9
    go_wp2_with fail
    exact bodyPost_ret (v := .tuple #[.agg #[.int .u8 x0, .int .u32 x1, .int .u32 x2, .int .i64 x3, .slice X L.length xc], .int .i64 (12 + k), .int .i64 0]) (by simp [results, Tryz.results94, go_sem, m0, m1, m2, m3, m4]) rfl ⟨_, by rw [hE9.out, hN9.out], hfin.out, BF.out⟩
end Go.Proofs.YtmdlgnlfgfhkmaaGreat

/-
  Layer 5's law helpers: key, alive. What bytes and items tell of one another, plain. Conditions: those that each lemma states.
-/
namespace Go.Proofs.YtmdlgnlfgfhkmaaGreat
open Go.RowKit

/-! ### Plain: items and their bytes -/
theorem gv_le (m : Nat) (n : Int) (xs ys : List UInt8) (k : Nat) (hk : xs.length = k) (h0 : 0 ≤ n) (h1 : n < 256 ^ m) : gv m (xs ++ (le m n ++ ys)) k = n := by
  have h := gv_yes (m := m) (xs := xs ++ (le m n ++ ys)) (k := (k : Int)) ⟨by omega, by simp [le_length, hk]; omega⟩
  rw [h]
  have e : (k : Int).toNat = xs.length := by omega
  rw [e, List.drop_left, List.take_left' (le_length m n)]
  exact num_le m n h0 h1
theorem itB_cut (s : It) (xs : List UInt8) (h : s.2.2.length ≤ 12) : cutN (itB s ++ xs) = s.2.2.length := by
  have e : (itB s ++ xs)[11]? = some (UInt8.ofNat s.2.2.length) := by
    have : itB s ++ xs = ([s.1.1] ++ (le 4 s.1.2.1 ++ (le 4 s.1.2.2 ++ le 2 s.2.1))) ++ (UInt8.ofNat s.2.2.length :: (s.2.2 ++ xs)) := by simp [itB]
    rw [this, List.getElem?_append_right (by simp [le_length])]
    simp [le_length]
  unfold cutN
  rw [e]
  simp only [Option.getD_some, UInt8.toNat_ofNat']
  omega
theorem itB_okC (s : It) (xs : List UInt8) (h : s.2.2.length ≤ 12) : okC (itB s ++ xs) = true := by
  unfold okC
  rw [itB_cut s xs h]
  simp [itB_length]
theorem itB_fields (s : It) (xs : List UInt8) (hi : InI s) (h : mayI s = true) : fieldsI (itB s ++ xs) = s := by
  obtain ⟨hr, hl⟩ := mayI_of h
  obtain ⟨⟨⟨i0, i1⟩, ⟨o0, o1⟩⟩, _⟩ := hi
  obtain ⟨⟨k, i, o⟩, r, v⟩ := s
  dsimp only at *
  have e0 : (itB ((k, i, o), r, v) ++ xs)[0]?.getD 0 = k := by simp [itB]
  have e1 : gv 4 (itB ((k, i, o), r, v) ++ xs) 1 = i := by
    have : itB ((k, i, o), r, v) ++ xs = [k] ++ (le 4 i ++ (le 4 o ++ (le 2 r ++ ([UInt8.ofNat v.length] ++ (v ++ xs))))) := by simp [itB]
    rw [this]
    exact gv_le 4 i [k] _ 1 rfl i0 (by simpa using i1)
  have e2 : gv 4 (itB ((k, i, o), r, v) ++ xs) 5 = o := by
    have : itB ((k, i, o), r, v) ++ xs = ([k] ++ le 4 i) ++ (le 4 o ++ (le 2 r ++ ([UInt8.ofNat v.length] ++ (v ++ xs)))) := by simp [itB]
    rw [this]
    exact gv_le 4 o ([k] ++ le 4 i) _ 5 (by simp [le_length]) o0 (by simpa using o1)
  have e3 : gv 2 (itB ((k, i, o), r, v) ++ xs) 9 = r := by
    have : itB ((k, i, o), r, v) ++ xs = ([k] ++ (le 4 i ++ le 4 o)) ++ (le 2 r ++ ([UInt8.ofNat v.length] ++ (v ++ xs))) := by simp [itB]
    rw [this]
    exact gv_le 2 r ([k] ++ (le 4 i ++ le 4 o)) _ 9 (by simp [le_length]) (by omega) (by simp; omega)
  have e4 : ((itB ((k, i, o), r, v) ++ xs).drop 12).take (cutN (itB ((k, i, o), r, v) ++ xs)) = v := by
    rw [itB_cut ((k, i, o), r, v) xs hl]
    have : itB ((k, i, o), r, v) ++ xs = ([k] ++ (le 4 i ++ (le 4 o ++ (le 2 r ++ [UInt8.ofNat v.length])))) ++ (v ++ xs) := by simp [itB]
    rw [this, show (12 : Nat) = ([k] ++ (le 4 i ++ (le 4 o ++ (le 2 r ++ [UInt8.ofNat v.length])))).length by simp [le_length], List.drop_left]
    exact List.take_left' rfl
  unfold fieldsI
  rw [e0, e1, e2, e3, e4]
theorem itB_read (s : It) (xs : List UInt8) (hi : InI s) (h : mayI s = true) : okR (itB s ++ xs) = true ∧ itR (itB s ++ xs) = s ∧ itN (itB s ++ xs) = (itB s).length ∧ itE (itB s ++ xs) = 0 := by
  obtain ⟨hr, hl⟩ := mayI_of h
  have h1 := itB_okC s xs hl
  have h2 := itB_fields s xs hi h
  have h3 : okR (itB s ++ xs) = true := by unfold okR fldI; rw [h1, if_pos rfl, h2, h]; rfl
  refine ⟨h3, by rw [itR, h3, if_pos rfl, h2], ?_, by rw [itE, h3]; rfl⟩
  rw [itN, h3, if_pos rfl, itB_cut s xs hl, itB_length]
  omega
theorem le_gv (m : Nat) (b : List UInt8) (k : Nat) (h : k + m ≤ b.length) : le m (gv m b k) = (b.drop k).take m := by
  rw [gv_yes (k := (k : Int)) ⟨by omega, by omega⟩, show (k : Int).toNat = k by omega]
  have hl : ((b.drop k).take m).length = m := by simp; omega
  have := le_num ((b.drop k).take m)
  rwa [hl] at this
theorem one_at (b : List UInt8) (k : Nat) (h : k < b.length) : (b.drop k).take 1 = [b[k]?.getD 0] := by
  rw [List.drop_eq_getElem_cons h, List.getElem?_eq_getElem h]
  rfl
theorem read_itB {b : List UInt8} (h : okR b = true) : ∃ n : Nat, itN b = n ∧ n ≤ b.length ∧ mayI (itR b) = true ∧ itB (itR b) = b.take n := by
  obtain ⟨h1, h2⟩ := okR_fields h
  have h3 := okC_yes h1
  have hR : itR b = fieldsI b := by rw [itR, h, if_pos rfl]
  have hf : fldI b = fieldsI b := by rw [fldI, h1, if_pos rfl]
  rw [hf] at h2
  refine ⟨12 + cutN b, by rw [itN, h, if_pos rfl]; simp, h3, by rw [hR]; exact h2, ?_⟩
  rw [hR]
  have l0 := one_at b 0 (by omega)
  rw [List.drop_zero] at l0
  have l1 := one_at b 11 (by omega)
  have hlen : ((b.drop 12).take (cutN b)).length = cutN b := by simp; omega
  have hc : UInt8.ofNat (cutN b) = b[11]?.getD 0 := by unfold cutN; simp
  have g1 := le_gv 4 b 1 (by omega)
  have g2 := le_gv 4 b 5 (by omega)
  have g3 := le_gv 2 b 9 (by omega)
  have ht : b.take (12 + cutN b) = b.take 1 ++ ((b.drop 1).take 4 ++ ((b.drop 5).take 4 ++ ((b.drop 9).take 2 ++ ((b.drop 11).take 1 ++ (b.drop 12).take (cutN b))))) := by
    have q : ∀ (j m n : Nat), (b.drop j).take m ++ (b.drop (j + m)).take n = (b.drop j).take (m + n) := fun j m n => by
      rw [← List.drop_drop, List.take_add]
    rw [q 11 1, q 9 2, q 5 4, q 1 4]
    have := q 0 1 (4 + (4 + (2 + (1 + cutN b))))
    rw [List.drop_zero, Nat.zero_add] at this
    rw [this]
    congr 1
    omega
  rw [ht, l0, l1]
  unfold itB fieldsI
  dsimp only
  rw [hlen, hc]
  have c1 : ((1 : Nat) : Int) = 1 := rfl
  have c5 : ((5 : Nat) : Int) = 5 := rfl
  have c9 : ((9 : Nat) : Int) = 9 := rfl
  rw [c1] at g1
  rw [c5] at g2
  rw [c9] at g3
  rw [g1, g2, g3]
theorem itB_inj {s o : It} (hs : InI s) (ho : InI o) (ms : mayI s = true) (mo : mayI o = true) {xs ys : List UInt8} (h : itB s ++ xs = itB o ++ ys) : s = o := by
  rw [← itB_fields s xs hs ms, h, itB_fields o ys ho mo]
theorem itB_bytes {s o : It} (hs : InI s) (ho : InI o) (ms : mayI s = true) (mo : mayI o = true) : decide (itB s = itB o) = sameI s o := by
  unfold sameI
  rw [Bool.eq_iff_iff]
  simp only [decide_eq_true_eq]
  exact ⟨fun h => itB_inj hs ho ms mo (xs := []) (ys := []) (by rw [List.append_nil, List.append_nil, h]), fun h => by rw [h]⟩
/-- No item's bytes begin another one's. -/
theorem itB_prefix {s o : It} (hs : InI s) (ho : InI o) (ms : mayI s = true) (mo : mayI o = true) {n : Nat} (hn : n = min (itB s).length (itB o).length) (h : (itB s).take n = (itB o).take n) : (itB s).length = (itB o).length := by
  rcases Nat.le_total (itB s).length (itB o).length with hl | hl
  · rw [Nat.min_eq_left hl] at hn
    subst hn
    rw [List.take_length] at h
    have := itB_inj hs ho ms mo (xs := (itB o).drop (itB s).length) (ys := []) (by rw [List.append_nil]; exact (congrArg (· ++ (itB o).drop (itB s).length) h).trans (List.take_append_drop _ _))
    rw [this]
  · rw [Nat.min_eq_right hl] at hn
    subst hn
    rw [List.take_length] at h
    have := itB_inj hs ho ms mo (xs := []) (ys := (itB s).drop (itB o).length) (by rw [List.append_nil]; exact (List.take_append_drop (itB o).length (itB s)).symm.trans (congrArg (· ++ (itB s).drop (itB o).length) h))
    rw [this]

/-! ### key, alive -/
theorem inI_small (k : UInt8) {i o r : Int} (v : List UInt8) (hi : 0 ≤ i) (hi' : i < 1000) (ho : 0 ≤ o) (ho' : o < 1000) (hr : 0 ≤ r) (hr' : r < 1000) : InI ((k, i, o), r, v) :=
  ⟨⟨⟨hi, by show i < _; omega⟩, ⟨ho, by show o < _; omega⟩⟩, ⟨by show _ ≤ r; omega, by show r ≤ _; omega⟩⟩

end Go.Proofs.YtmdlgnlfgfhkmaaGreat

/-
  A bag's facts on items and keys. Conditions: those that each lemma states.
-/
namespace Go.Proofs.YtmdlgnlfgfhkmaaGreat
open Go.RowKit

/-- Three cells that are a box. -/
def Box3 (g : Nat) (a b c : Value) : World → Prop := fun w => w.cell? ⟨g, 0, none⟩ = some a ∧ w.cell? ⟨g, 1, none⟩ = some b ∧ w.cell? ⟨g, 2, none⟩ = some c ∧ g < w.heap.size
theorem lasts_box3 (g : Nat) (a b c : Value) : Lasts (Box3 g a b c) := fun _ _ h hb => ⟨(hb.cell (p := ⟨g, 0, none⟩) h.2.2.2).trans h.1, (hb.cell (p := ⟨g, 1, none⟩) h.2.2.2).trans h.2.1, (hb.cell (p := ⟨g, 2, none⟩) h.2.2.2).trans h.2.2.1, Nat.lt_of_lt_of_le h.2.2.2 hb.size⟩
theorem bag_key {w w1 : World} {Fs : List (World → Prop)} (h : Bag w Fs) (hb : Below w.heap.size w w1) (a b c : Value) : ∃ w', w1.alloc (.cells #[a, b, c] 50) = w' ∧ Bag w' (Box3 w1.heap.size a b c :: Fs) ∧ Below w.heap.size w w' ∧ Below w1.heap.size w1 w' ∧ w1.heap.size < w'.heap.size := by
  obtain ⟨w2, e2, k1, k2, k3, k4, k5, _⟩ := box_three w1 a b c 50
  exact ⟨w2, e2, ((h.below hb).below k5).add ⟨k1, k2, k3, by omega⟩ (lasts_box3 _ _ _ _), hb.trans (k5.mono hb.size), k5, by omega⟩
theorem bag_item {w w1 : World} {Fs : List (World → Prop)} (h : Bag w Fs) (hb : Below w.heap.size w w1) (a b c d e : Value) : ∃ w', w1.alloc (.cells #[a, b, c, d, e] 52) = w' ∧ Bag w' (Box5 w1.heap.size a b c d e :: Fs) ∧ Below w.heap.size w w' ∧ Below w1.heap.size w1 w' ∧ w1.heap.size < w'.heap.size := by
  obtain ⟨w2, e2, k1, k2, k3, k4, k5, k6, k7, _⟩ := box_five w1 a b c d e 52
  exact ⟨w2, e2, ((h.below hb).below k7).add ⟨k1, k2, k3, k4, k5, by omega⟩ (lasts_box5 _ _ _ _ _ _), hb.trans (k7.mono hb.size), k7, by omega⟩
def OldI (v : Value) (s : It) : World → Prop := fun w => Itm (Old w) w v s
theorem lasts_oldI (v : Value) (s : It) : Lasts (OldI v s) := fun _ _ h hb => h.below hb
def NewI (lo : Nat) (v : Value) (s : It) : World → Prop := fun w => Itm (New lo w) w v s
theorem lasts_newI (lo : Nat) (v : Value) (s : It) : Lasts (NewI lo v s) := fun _ _ h hb => h.new (Nat.le_refl _) hb

/-! ### How keys stand -/
theorem less_self (a : Ky) : lessK a a = false := by simp [lessK]
theorem less_anti {a b : Ky} (h : lessK a b = true) : lessK b a = false := by
  unfold lessK at *
  by_cases h1 : a.1.toNat = b.1.toNat
  · rw [if_neg (by simpa using h1)] at h
    rw [if_neg (by simpa using h1.symm)]
    by_cases h2 : a.2.1 = b.2.1
    · rw [if_neg (by simpa using h2)] at h
      rw [if_neg (by simpa using h2.symm)]
      simp at h ⊢
      omega
    · rw [if_pos h2] at h
      rw [if_pos (fun e => h2 e.symm)]
      simp at h ⊢
      omega
  · rw [if_pos h1] at h
    rw [if_pos (fun e => h1 e.symm)]
    simp at h ⊢
    omega
theorem less_total {a b : Ky} (h : a ≠ b) (h' : lessK a b = false) : lessK b a = true := by
  unfold lessK at *
  by_cases h1 : a.1.toNat = b.1.toNat
  · rw [if_neg (by simpa using h1)] at h'
    rw [if_neg (by simpa using h1.symm)]
    by_cases h2 : a.2.1 = b.2.1
    · rw [if_neg (by simpa using h2)] at h'
      rw [if_neg (by simpa using h2.symm)]
      have h3 : a.2.2 ≠ b.2.2 := fun e => h (Prod.ext (UInt8.toNat.inj h1) (Prod.ext h2 e))
      simp at h' ⊢
      omega
    · rw [if_pos h2] at h'
      rw [if_pos (fun e => h2 e.symm)]
      simp at h' ⊢
      omega
  · rw [if_pos h1] at h'
    rw [if_pos (fun e => h1 e.symm)]
    simp at h' ⊢
    omega
theorem less_cases {a b : Ky} (h : lessK a b = true) : a.1.toNat < b.1.toNat ∨ (a.1.toNat = b.1.toNat ∧ (a.2.1 < b.2.1 ∨ (a.2.1 = b.2.1 ∧ a.2.2 < b.2.2))) := by
  unfold lessK at h
  by_cases h1 : a.1.toNat = b.1.toNat
  · rw [if_neg (by simpa using h1)] at h
    by_cases h2 : a.2.1 = b.2.1
    · rw [if_neg (by simpa using h2)] at h
      exact Or.inr ⟨h1, Or.inr ⟨h2, by simpa using h⟩⟩
    · rw [if_pos h2] at h
      exact Or.inr ⟨h1, Or.inl (by simpa using h)⟩
  · rw [if_pos h1] at h
    exact Or.inl (by simpa using h)
theorem less_of {a b : Ky} (h : a.1.toNat < b.1.toNat ∨ (a.1.toNat = b.1.toNat ∧ (a.2.1 < b.2.1 ∨ (a.2.1 = b.2.1 ∧ a.2.2 < b.2.2)))) : lessK a b = true := by
  cases e : lessK a b with
  | true => rfl
  | false =>
    by_cases hab : a = b
    · subst hab; omega
    · have := less_cases (less_total hab e)
      omega
theorem less_trans {a b c : Ky} (h : lessK a b = true) (h' : lessK b c = true) : lessK a c = true := by
  have h1 := less_cases h
  have h2 := less_cases h'
  exact less_of (by omega)
end Go.Proofs.YtmdlgnlfgfhkmaaGreat

/-
  Nodes (api.Node): how they read; which may be; their bytes; nodes as arguments. Conditions: those that each lemma states.
-/
namespace Go.Proofs.YtmdlgnlfgfhkmaaGreat
open Go.ChangeShapes Go.WideShapes Go.RowKit

/-! ### Nodes: level, items -/
abbrev Nd := Int × List It
def rIts : Rel (List It) := rSl 5 rIt
theorem stab_its : Stab rIts := stab_sl stab_it
/-- A value that reads as a node. -/
def Nod (ok : Addr → Prop) (w : World) (v : Value) (n : Nd) : Prop := ∃ d, v = .agg #[.int .i64 n.1, d] ∧ In64 n.1 ∧ rIts ok w [d] n.2
section
variable {ok ok' : Addr → Prop} {w w' : World} {v : Value} {n : Nd} {lo lo' : Nat}
theorem Nod.map (hk : ∀ p v, ok p → w.cell? p = some v → ok' p ∧ w'.cell? p = some v) (h : Nod ok w v n) : Nod ok' w' v n := by
  obtain ⟨d, e, h1, h2⟩ := h
  exact ⟨d, e, h1, stab_its _ _ _ _ _ _ hk h2⟩
theorem Nod.below (h : Nod (Old w) w v n) (hb : Below w.heap.size w w') : Nod (Old w') w' v n :=
  h.map fun _ _ hp hc => ⟨Nat.lt_of_lt_of_le hp hb.size, (hb.cell hp).trans hc⟩
theorem Nod.drop (h : Nod (New lo w) w v n) : Nod (Old w) w v n := h.map fun _ _ hp hc => ⟨hp.2.1, hc⟩
theorem Nod.new (h : Nod (New lo w) w v n) (hl : lo' ≤ lo) (hb : Below w.heap.size w w') : Nod (New lo' w') w' v n :=
  h.map fun _ _ hp hc => ⟨⟨Nat.le_trans hl hp.1, Nat.lt_of_lt_of_le hp.2.1 hb.size, (hb.frozen hp.2.1).trans hp.2.2⟩, (hb.cell hp.2.1).trans hc⟩
theorem Nod.grown {row : Option Nat} (h : Nod (New lo w) w v n) (hg : w.grownBy w' row) (hr : ∀ q, row = some q → q < lo) : Nod (New lo w') w' v n := by
  obtain ⟨d, e, h1, h2⟩ := h
  exact ⟨d, e, h1, stab_its.grown h2 hg hr⟩
theorem its_open {d : Value} {xs : List It} (h : rIts ok w [d] xs) : ∃ A c, d = .slice A xs.length c ∧ xs.length ≤ c ∧ c ≤ 9223372036854775807 := by
  obtain ⟨A, c, e, h1, h2, _⟩ := h
  exact ⟨A, c, by simpa using e, h1, h2⟩
theorem Nod.open (h : Nod ok w v n) : ∃ A c, v = .agg #[.int .i64 n.1, .slice A n.2.length c] ∧ In64 n.1 ∧ n.2.length ≤ c ∧ c ≤ 9223372036854775807 ∧ rIts ok w [.slice A n.2.length c] n.2 := by
  obtain ⟨d, rfl, h1, h2⟩ := h
  obtain ⟨A, c, rfl, h3, h4⟩ := its_open h2
  exact ⟨A, c, rfl, h1, h3, h4, h2⟩
end
theorem its_nil (ok : Addr → Prop) (w : World) : rIts ok w [.slice none 0 0] [] := ⟨none, 0, rfl, by simp, by omega, fun i x h => by simp at h⟩
def zeroN : Nd := (0, [])
theorem nod_zero (ok : Addr → Prop) (w : World) : Nod ok w (.agg #[.int .i64 0, .slice none 0 0]) zeroN := ⟨_, rfl, ⟨by decide, by decide⟩, its_nil _ _⟩

/-! ### An item of a row -/
theorem add_at5 (ad : Addr) (n j : Nat) : ad.add (n + (j + 1)) = ⟨(ad.add n).block, (ad.add n).off + (j + 1), none⟩ := by
  unfold Addr.add
  rw [if_neg (by omega)]
  by_cases h : n = 0
  · subst h
    simp
  · rw [if_neg h]
    simp [Nat.add_assoc]
/-- Five cells that are an item. -/
structure At5 (w : World) (p : Addr) (s : It) (d : Value) : Prop where
  c0 : w.cell? p = some (.int .u8 (s.1.1.toNat : Int))
  c1 : w.cell? ⟨p.block, p.off + 1, none⟩ = some (.int .u32 s.1.2.1)
  c2 : w.cell? ⟨p.block, p.off + 2, none⟩ = some (.int .u32 s.1.2.2)
  c3 : w.cell? ⟨p.block, p.off + 3, none⟩ = some (.int .i64 s.2.1)
  c4 : w.cell? ⟨p.block, p.off + 4, none⟩ = some d
theorem At5.lt {w : World} {p : Addr} {s : It} {d : Value} (h : At5 w p s d) : p.block < w.heap.size := World.block_lt_of_cell? w p h.c0
theorem At5.below {w w' : World} {p : Addr} {s : It} {d : Value} (h : At5 w p s d) (hb : Below w.heap.size w w') : At5 w' p s d :=
  ⟨(hb.cell h.lt).trans h.c0, (hb.cell (p := ⟨p.block, p.off + 1, none⟩) h.lt).trans h.c1, (hb.cell (p := ⟨p.block, p.off + 2, none⟩) h.lt).trans h.c2, (hb.cell (p := ⟨p.block, p.off + 3, none⟩) h.lt).trans h.c3, (hb.cell (p := ⟨p.block, p.off + 4, none⟩) h.lt).trans h.c4⟩
theorem its_at {ok : Addr → Prop} {w : World} {A : Option Addr} {n c k : Nat} {xs : List It} {s : It} (h : rIts ok w [.slice A n c] xs) (hk : xs[k]? = some s) :
    ∃ ad E ce, A = some ad ∧ (∀ j, j < 5 → ok (ad.add (k * 5 + j))) ∧ At5 w (ad.add (k * 5)) s (.slice E s.2.2.length ce) ∧ Itm ok w (itV s (.slice E s.2.2.length ce)) s ∧ s.2.2.length ≤ ce ∧ ce ≤ 9223372036854775807 ∧ InI s := by
  obtain ⟨_, _, e, _, _, h4⟩ := h
  cases e
  obtain ⟨ad, vs, rfl, e5, q, r⟩ := h4 k s hk
  obtain ⟨d, rfl, hin, hd⟩ := rIt_open r
  obtain ⟨E, ce, rfl, l1, l2, _⟩ := id (rBy_open hd)
  have q0 := q 0 _ rfl
  have t1 := q 1 _ rfl
  have t2 := q 2 _ rfl
  have t3 := q 3 _ rfl
  have t4 := q 4 _ rfl
  refine ⟨ad, E, ce, rfl, fun j hj => ?_, ?_, ⟨_, rfl, hin, hd⟩, l1, l2, hin⟩
  · rcases (by omega : j = 0 ∨ j = 1 ∨ j = 2 ∨ j = 3 ∨ j = 4) with rfl | rfl | rfl | rfl | rfl
    · exact q0.1
    · exact t1.1
    · exact t2.1
    · exact t3.1
    · exact t4.1
  · have u1 := t1.2
    have u2 := t2.2
    have u3 := t3.2
    have u4 := t4.2
    rw [add_at5] at u1 u2 u3 u4
    exact ⟨q0.2, u1, u2, u3, u4⟩
/-- An item of a row that lies there, in every later world. -/
theorem its_old {w : World} {A : Option Addr} {n c k : Nat} {xs : List It} {s : It} (h : rIts (Old w) w [.slice A n c] xs) (hk : xs[k]? = some s) :
    ∃ ad E ce, A = some ad ∧ s.2.2.length ≤ ce ∧ ce ≤ 9223372036854775807 ∧ InI s ∧ ∀ W, Below w.heap.size w W → At5 W (ad.add (k * 5)) s (.slice E s.2.2.length ce) ∧ Itm (Old W) W (itV s (.slice E s.2.2.length ce)) s := by
  obtain ⟨ad, E, ce, rfl, _, h5, hi, l1, l2, hin⟩ := its_at h hk
  exact ⟨ad, E, ce, rfl, l1, l2, hin, fun W hW => ⟨h5.below hW, hi.below hW⟩⟩

/-! ### Arguments -/
set_option maxRecDepth 100000 in
theorem opens_items : Opens Tryz.prog 29 rIts := opens_sl Tryz.underlying29 (by kernel_rfl) opens_item
set_option maxRecDepth 100000 in
theorem opens_node : Opens Tryz.prog 31 (rPair (rK .i64) rIts) := opens_pair Tryz.underlying31 rfl (by kernel_rfl) (by kernel_rfl) (opens_k Tryz.underlying3) opens_items
set_option maxRecDepth 100000 in
/-- A node that came in. -/
theorem open_node {H : Type} {enc : TypeId × Value → H} {w : World} {b0 : Nat} {spare : Nat → Bool} {held : Bool} {r : Reach} {v : Value} {x : DataW H} {ps : List MemPlace} (hval : Value.okWide Tryz.prog w r b0 31 v) (hd : DataW.Trod enc Tryz.prog w 0 spare held 31 v x ps) :
    ∃ s, Nod (Old w) w v s := by
  obtain ⟨cs, rfl, _⟩ := okWide_struct Tryz.underlying31 hval
  obtain ⟨s, c, e, h1, ⟨h2, a1, a2⟩, h3⟩ := open_rel opens_node hd
  obtain ⟨A, cap, e2, _⟩ := id h3
  subst h2 e2
  simp [IntKind.min, IntKind.max, IntKind.signed, IntKind.bits] at a1 a2
  exact ⟨s, _, by obtain ⟨cs⟩ := cs; simp [Value.cells] at h1; rw [h1], ⟨a1, a2⟩, h3⟩

/-! ### Which nodes may be -/
def refersI (s : It) : Bool := decide (s.2.1 ≠ 0) && decide (s.2.2.length = 0)
def okP (l : Int) (x : It) : Bool := mayI x && (decide (l ≤ 0) || refersI x)
def okAt (n : Nd) (i : Nat) : Bool := match n.2[i]? with
  | none => true
  | some x => okP n.1 x && (match i with
    | 0 => true
    | j + 1 => match n.2[j]? with
      | none => true
      | some p => lessK p.1 x.1)
def shapeN (n : Nd) : Bool := (decide (0 ≤ n.1) && decide (n.1 < 6)) && decide (n.2.length ≤ 5) && (decide (n.1 ≤ 0) || decide (0 < n.2.length))
def mayN (n : Nd) : Bool := shapeN n && (List.range n.2.length).all (okAt n)
def chkN (n : Nd) : Int := if mayN n then 0 else 8
theorem shapeN_of {n : Nd} (h : shapeN n = true) : 0 ≤ n.1 ∧ n.1 < 6 ∧ n.2.length ≤ 5 ∧ (0 < n.1 → 0 < n.2.length) := by
  simp only [shapeN, Bool.and_eq_true, Bool.or_eq_true, decide_eq_true_eq] at h
  omega
theorem shapeN_mk {n : Nd} (h : 0 ≤ n.1 ∧ n.1 < 6 ∧ n.2.length ≤ 5 ∧ (0 < n.1 → 0 < n.2.length)) : shapeN n = true := by
  simp only [shapeN, Bool.and_eq_true, Bool.or_eq_true, decide_eq_true_eq]
  omega
theorem mayN_shape {n : Nd} (h : ¬ (0 ≤ n.1 ∧ n.1 < 6 ∧ n.2.length ≤ 5 ∧ (0 < n.1 → 0 < n.2.length))) : mayN n = false := by
  cases e : mayN n with
  | false => rfl
  | true =>
    simp only [mayN, Bool.and_eq_true] at e
    exact absurd (shapeN_of e.1) h
theorem mayN_at {n : Nd} {k : Nat} (hk : k < n.2.length) (h : okAt n k = false) : mayN n = false := by
  cases e : mayN n with
  | false => rfl
  | true =>
    simp only [mayN, Bool.and_eq_true, List.all_eq_true] at e
    have := e.2 k (by simpa using hk)
    rw [h] at this
    cases this
theorem mayN_mk {n : Nd} (h : 0 ≤ n.1 ∧ n.1 < 6 ∧ n.2.length ≤ 5 ∧ (0 < n.1 → 0 < n.2.length)) (h2 : ∀ i, i < n.2.length → okAt n i = true) : mayN n = true := by
  simp only [mayN, Bool.and_eq_true, List.all_eq_true]
  exact ⟨shapeN_mk h, fun x hx => h2 x (by simpa using hx)⟩
theorem mayN_of {n : Nd} (h : mayN n = true) : (0 ≤ n.1 ∧ n.1 < 6 ∧ n.2.length ≤ 5 ∧ (0 < n.1 → 0 < n.2.length)) ∧ ∀ i, i < n.2.length → okAt n i = true := by
  simp only [mayN, Bool.and_eq_true, List.all_eq_true] at h
  exact ⟨shapeN_of h.1, fun i hi => h.2 i (by simpa using hi)⟩
theorem okAt_zero {n : Nd} {x : It} (hx : n.2[0]? = some x) : okAt n 0 = okP n.1 x := by unfold okAt; rw [hx]; simp
theorem okAt_succ {n : Nd} {k : Nat} {x p : It} (hx : n.2[k + 1]? = some x) (hp : n.2[k]? = some p) : okAt n (k + 1) = (okP n.1 x && lessK p.1 x.1) := by
  unfold okAt
  simp only [hx, hp]
theorem okAt_P {n : Nd} {k : Nat} {x : It} (hx : n.2[k]? = some x) (h : okAt n k = true) : okP n.1 x = true := by
  unfold okAt at h
  rw [hx] at h
  simp only [Bool.and_eq_true] at h
  exact h.1
theorem okAt_noP {n : Nd} {k : Nat} {x : It} (hx : n.2[k]? = some x) (h : okP n.1 x = false) : okAt n k = false := by
  unfold okAt
  simp only [hx, h, Bool.false_and]
theorem mayN_item {n : Nd} (h : mayN n = true) {k : Nat} {x : It} (hx : n.2[k]? = some x) : okP n.1 x = true :=
  okAt_P hx ((mayN_of h).2 k (List.getElem?_eq_some_iff.1 hx).1)
theorem okP_may {l : Int} {x : It} (h : okP l x = true) : mayI x = true := by
  simp only [okP, Bool.and_eq_true] at h
  exact h.1
theorem mayN_rise {n : Nd} (h : mayN n = true) {k : Nat} {x y : It} (hx : n.2[k]? = some x) (hy : n.2[k + 1]? = some y) : lessK x.1 y.1 = true := by
  have := (mayN_of h).2 (k + 1) (List.getElem?_eq_some_iff.1 hy).1
  rw [okAt_succ hy hx, Bool.and_eq_true] at this
  exact this.2
theorem mayN_rises {n : Nd} (h : mayN n = true) : ∀ {k j : Nat} {x y : It}, k < j → n.2[k]? = some x → n.2[j]? = some y → lessK x.1 y.1 = true := by
  intro k j x y hkj
  induction j generalizing y with
  | zero => omega
  | succ j ih =>
    intro hx hy
    rcases Nat.lt_or_ge k j with h1 | h1
    · have hjl : j < n.2.length := by have := (List.getElem?_eq_some_iff.1 hy).1; omega
      exact less_trans (ih h1 hx (List.getElem?_eq_getElem hjl)) (mayN_rise h (List.getElem?_eq_getElem hjl) hy)
    · have : k = j := by omega
      subst this
      exact mayN_rise h hx hy
theorem chkN_ok {n : Nd} (h : mayN n = true) : chkN n = 0 := by simp [chkN, h]
theorem chkN_bad {n : Nd} (h : mayN n = false) : chkN n = 8 := by simp [chkN, h]
theorem mayN_zero : mayN zeroN = true := by decide

/-! ### Their bytes -/
def itsB (l : List It) : List UInt8 := (l.map itB).flatten
theorem itsB_nil : itsB [] = [] := rfl
theorem itsB_snoc (l : List It) (x : It) : itsB (l ++ [x]) = itsB l ++ itB x := by simp [itsB]
theorem itsB_take {l : List It} {k : Nat} {x : It} (h : l[k]? = some x) : itsB (l.take (k + 1)) = itsB (l.take k) ++ itB x := by
  rw [List.take_add_one, h]
  exact itsB_snoc _ _
def headN (n : Nd) : List UInt8 := [78, UInt8.ofNat n.1.toNat, UInt8.ofNat n.2.length]
def toldN (n : Nd) : List UInt8 := headN n ++ itsB n.2
def blkN (n : Nd) : List UInt8 := sealN (toldN n)
def wrN (n : Nd) : List UInt8 := if mayN n then blkN n else []
theorem itsB_len : ∀ {l : List It}, (∀ x ∈ l, mayI x = true) → (itsB l).length ≤ 24 * l.length
  | [], _ => by simp [itsB]
  | x :: r, h => by
    have h1 := itsB_len (l := r) (fun y hy => h y (List.mem_cons.2 (Or.inr hy)))
    have h2 := (mayI_of (h x (List.mem_cons.2 (Or.inl rfl)))).2
    have h3 := itB_length x
    have : itsB (x :: r) = itB x ++ itsB r := by simp [itsB]
    rw [this, List.length_append, List.length_cons]
    omega
theorem mayN_all {n : Nd} (h : mayN n = true) : ∀ x ∈ n.2, mayI x = true := fun x hx => by
  obtain ⟨k, hk⟩ := List.mem_iff_getElem?.1 hx
  exact okP_may (mayN_item h hk)
theorem toldN_len {n : Nd} (h : mayN n = true) : (toldN n).length ≤ 124 := by
  have h1 := itsB_len (mayN_all h)
  have h2 := (mayN_of h).1.2.2.1
  have h3 : (toldN n).length = 3 + (itsB n.2).length := by simp [toldN, headN]; omega
  omega
theorem blkN_length {n : Nd} (h : mayN n = true) : (blkN n).length = 128 := sealN_length (toldN_len h)
end Go.Proofs.YtmdlgnlfgfhkmaaGreat

/-
  Package node: noughts, cut. Conditions: those that each lemma states.
-/
namespace Go.Proofs.YtmdlgnlfgfhkmaaGreat
open Go.RowKit

/-! ### noughts -/
theorem nought_any (a : Int) (w : World) : Calls Tryz.prog 107 #[.int .u8 a] w fun e w' => e = .returned (.bool (a != 0)) ∧ w = w' := by
  go_enter Tryz.func107, Tryz.ntmps107
  go_wp2_with fail
  go_ret
  exact ⟨rfl, rfl⟩
def idxN (b : List UInt8) : Int := match b.findIdx? (· ≠ 0) with
  | none => -1
  | some k => k
theorem idxN_at {b : List UInt8} {k : Nat} (hk : k < b.length) (ha : ∀ j, j < k → b[j]?.getD 0 = 0) (h : b[k]?.getD 0 ≠ 0) : idxN b = k := by
  have e : b.findIdx? (· ≠ 0) = some k := by
    rw [List.findIdx?_eq_some_iff_getElem]
    refine ⟨hk, by simpa [List.getElem?_eq_getElem hk] using h, fun j hj => ?_⟩
    have := ha j hj
    simpa [List.getElem?_eq_getElem (show j < b.length by omega)] using this
  unfold idxN
  rw [e]
theorem idxN_none {b : List UInt8} (ha : ∀ j, j < b.length → b[j]?.getD 0 = 0) : idxN b = -1 := by
  have e : b.findIdx? (· ≠ 0) = none := by
    rw [List.findIdx?_eq_none_iff]
    intro x hx
    obtain ⟨j, hj, rfl⟩ := List.mem_iff_getElem.1 hx
    have := ha j hj
    simpa [List.getElem?_eq_getElem hj] using this
  unfold idxN
  rw [e]
def noughtsB (b : List UInt8) : Bool := b.all (· == 0)
theorem noughts_idx (b : List UInt8) : (!decide (0 ≤ idxN b)) = noughtsB b := by
  unfold idxN noughtsB
  cases e : b.findIdx? (· ≠ 0) with
  | none =>
    rw [List.findIdx?_eq_none_iff] at e
    have : (b.all fun x => x == 0) = true := by
      rw [List.all_eq_true]
      intro x hx
      simpa using e x hx
    rw [this]
    simp
  | some k =>
    rw [List.findIdx?_eq_some_iff_getElem] at e
    obtain ⟨hk, h1, _⟩ := e
    have : (b.all fun x => x == 0) = false := by
      rw [List.all_eq_false]
      exact ⟨b[k], List.getElem_mem hk, by simpa using h1⟩
    rw [this]
    simp
set_option maxRecDepth 100000 in
theorem index_any (A : Option Addr) (n c : Nat) (b : List UInt8) (hn : Hid (b.length = n)) (l1 : n ≤ c) (m1 : c ≤ 9223372036854775807) (w : World) (h : Byt w w.heap.size A b) :
    Calls Tryz.prog 114 #[.slice A n c, .func (.func 107) #[] #[]] w fun e w' => e = .returned (.int .i64 (idxN b)) ∧ w = w' := by
  have HY := Lib.hid h
  clear h
  go_enter Tryz.func114, Tryz.ntmps114
  go_wp2_with fail
  go_loop [8] (fun i => ∃ k : Nat, k ≤ n ∧ i = .int .i64 k ∧ ∀ j, j < k → b[j]?.getD 0 = 0) (fun i => n - (intOf i).toNat)
  case atStart => exact ⟨0, by omega, rfl, fun j hj => by omega⟩
  case round =>
    obtain ⟨k, hk, rfl, ha⟩ := hrel
    replace ha := Lib.hid ha
    by_cases hlt : k < n
    · obtain ⟨ad, rfl, _, hc⟩ := HY.out (by rw [hn.out]; omega)
      replace hc := hc k (by rw [hn.out]; exact hlt)
      have hyes := Lib.hid (fun h => idxN_at (b := b) (k := k) (by rw [hn.out]; exact hlt) ha.out h)
      have hno : Hid (b[k]?.getD 0 = 0 → ∀ j, j < k + 1 → b[j]?.getD 0 = 0) := Lib.hid fun h j hj => by
        rcases Nat.lt_or_ge j k with h1 | h1
        · exact ha.out j h1
        · obtain rfl : j = k := by omega
          exact h
      obtain ⟨x, hx⟩ : ∃ x, b[k]?.getD 0 = x := ⟨_, rfl⟩
      rw [hx] at hc hyes hno
      replace hx := Lib.hid hx
      by_cases h0 : (x.toNat : Int) = 0
      · have t0 : ((x.toNat : Int) != 0) = false := by simpa using h0
        have hall := Lib.hid (hno.out (UInt8.toNat.inj (by simpa using h0)))
        replace h0 := Lib.hid h0
        go_wp2_with fail
        with_reducible refine (nought_any _ _).mono ?_
        rintro e3 w3 ⟨rfl, rfl⟩
        rw [t0]
        go_wp2_with fail
        go_round
        case rel => exact ⟨k + 1, by omega, by go_num, hall.out⟩
        case measure => simp [intOf]; omega
      · have t0 : ((x.toNat : Int) != 0) = true := by simpa using h0
        have hr := Lib.hid (hyes.out (fun e => h0 (by rw [e]; rfl)))
        replace h0 := Lib.hid h0
        go_wp2_with fail
        with_reducible refine (nought_any _ _).mono ?_
        rintro e3 w3 ⟨rfl, rfl⟩
        rw [t0]
        go_wp2_with fail
        go_ret
        exact ⟨ret_int hr.out.symm, rfl⟩
    · have hr := Lib.hid (idxN_none (b := b) fun j hj => ha.out j (by have := hn.out; omega))
      go_wp2_with fail
      go_ret
      exact ⟨ret_int hr.out.symm, rfl⟩
set_option maxRecDepth 100000 in
theorem noughts_any (A : Option Addr) (n c : Nat) (b : List UInt8) (hn : Hid (b.length = n)) (l1 : n ≤ c) (m1 : c ≤ 9223372036854775807) (w : World) (h : Byt w w.heap.size A b) :
    Calls Tryz.prog 100 #[.slice A n c] w fun e w' => e = .returned (.bool (noughtsB b)) ∧ w = w' := by
  have HY := Lib.hid h
  have hi := Lib.hid (noughts_idx b)
  have hx : Hid (∀ W, Byt W W.heap.size A b → Calls Tryz.prog 106 #[.slice A n c, .func (.func 107) #[] #[]] W fun e w' => e = .returned (.bool (decide (0 ≤ idxN b))) ∧ W = w') := Lib.hid fun W hW => by
    have HW := Lib.hid hW
    clear hW
    go_enter Tryz.func106, Tryz.ntmps106
    go_wp2_with fail
    with_reducible refine (index_any A n c b hn l1 m1 _ HW.out).mono ?_
    rintro e3 w3 ⟨rfl, rfl⟩
    go_wp2_with fail
    go_ret
    exact ⟨rfl, rfl⟩
  clear h
  go_enter Tryz.func100, Tryz.ntmps100
  go_wp2_with fail
  with_reducible refine (hx.out _ HY.out).mono ?_
  rintro e3 w3 ⟨rfl, rfl⟩
  go_wp2_with fail
  go_ret
  exact ⟨ret_bool hi.out, rfl⟩
end Go.Proofs.YtmdlgnlfgfhkmaaGreat

/-
  Package node: cut. Conditions: those that each lemma states.
-/
namespace Go.Proofs.YtmdlgnlfgfhkmaaGreat
open Go.RowKit

/-! ### Rows of items of the call's own -/
theorem item_info0 : (Tryz.prog.info? 52).map (fun i => (i.zero, i.size, i.bytes)) = some (some (.agg #[.int .u8 0, .int .u32 0, .int .u32 0, .int .i64 0, .slice none 0 0]), 5, 48) := by kernel_rfl
theorem its_push {w : World} {lo : Nat} {A : Option Addr} {c : Nat} {xs : List It} (h : RowOf rIt 5 52 lo w A c xs) (g : Nat) (s : It) (d : Value) (m n : Nat) (hn : xs.length = n) (hg : w.heap[g]? = some (.cells #[.int .u8 (s.1.1.toNat : Int), .int .u32 s.1.2.1, .int .u32 s.1.2.2, .int .i64 s.2.1, d] 52 (0, 0))) (hs : n < 100000) (hbase : lo ≤ w.heap.size) (hin : InI s) (hx : rBy (NewBut lo A w) w [d] s.2.2) :
    ∃ A' c' w', (Builtin.append_ #[29, 29] 29 #[.slice A n c, .slice (some ⟨g, 0, none⟩) 1 m]).run Tryz.prog w = .ok (.slice A' (n + 1) c') w' ∧ RowOf rIt 5 52 lo w' A' c' (xs ++ [s]) ∧ w.grownBy w' (A.map (·.block)) ∧ Below lo w w' := by
  subst hn
  obtain ⟨i0, hi, hz0, hz1, hz2⟩ := info_parts item_info0
  obtain ⟨E, ce, rfl, _⟩ := id (rBy_open hx)
  exact RowOf.push stab_it h 29 29 i0 (.agg #[.int .u8 0, .int .u32 0, .int .u32 0, .int .i64 0, .slice none 0 0]) 48 Tryz.underlying29 hi hz0 hz1 hz2 rfl (by decide) ⟨g, 0, none⟩ m _ s rfl (World.news_of_block (cs := #[.int .u8 (s.1.1.toNat : Int), .int .u32 s.1.2.1, .int .u32 s.1.2.2, .int .i64 s.2.1, .slice E s.2.2.length ce]) hg) (fun u hu => by
    simp at hu
    rcases hu with rfl | rfl | rfl | rfl | rfl <;> rfl) (by unfold maxLen; omega) (by omega) hbase (rIt_mk hin hx)

/-! ### What is cut off -/
def cutTo (b : List UInt8) : Nat → Option (List It × List UInt8)
  | 0 => some ([], b)
  | k + 1 => match cutTo b k with
    | none => none
    | some (l, r) => if okR r then some (l ++ [itR r], r.drop (itN r).toNat) else none
theorem cutTo_zero (b : List UInt8) : cutTo b 0 = some ([], b) := rfl
theorem cutTo_yes {b : List UInt8} {k : Nat} {l : List It} {r : List UInt8} (h : cutTo b k = some (l, r)) (h' : okR r = true) : cutTo b (k + 1) = some (l ++ [itR r], r.drop (itN r).toNat) := by
  simp only [cutTo, h, h', if_true]
theorem cutTo_no {b : List UInt8} {k : Nat} {l : List It} {r : List UInt8} (h : cutTo b k = some (l, r)) (h' : okR r = false) : cutTo b (k + 1) = none := by
  simp only [cutTo, h, h']
  rfl
theorem cutTo_none {b : List UInt8} {k j : Nat} (h : cutTo b k = none) (hj : k ≤ j) : cutTo b j = none := by
  induction j with
  | zero =>
    have : k = 0 := by omega
    rw [this] at h
    exact h
  | succ j ih =>
    rcases Nat.lt_or_ge k (j + 1) with h1 | h1
    · simp only [cutTo, ih (by omega)]
    · have : k = j + 1 := by omega
      rw [this] at h
      exact h
theorem cutTo_bytes {b : List UInt8} : ∀ {k : Nat} {l : List It} {r : List UInt8}, cutTo b k = some (l, r) → b = itsB l ++ r ∧ l.length = k ∧ (∀ x ∈ l, mayI x = true ∧ InI x)
  | 0, l, r, h => by
    simp only [cutTo, Option.some.injEq, Prod.mk.injEq] at h
    obtain ⟨rfl, rfl⟩ := h
    exact ⟨by simp [itsB], rfl, fun x hx => by simp at hx⟩
  | k + 1, l, r, h => by
    cases e : cutTo b k with
    | none => simp [cutTo, e] at h
    | some p =>
      obtain ⟨l', r'⟩ := p
      obtain ⟨h1, h2, h3⟩ := cutTo_bytes e
      rcases bool_ways (okR r') with ho | ho
      · rw [cutTo_no e ho] at h
        cases h
      · rw [cutTo_yes e ho] at h
        simp only [Option.some.injEq, Prod.mk.injEq] at h
        obtain ⟨rfl, rfl⟩ := h
        obtain ⟨n, e1, e2, e3, e4⟩ := read_itB ho
        have hn : (itN r').toNat = n := by rw [e1]; omega
        refine ⟨?_, by simp [h2], fun x hx => ?_⟩
        · rw [itsB_snoc, e4, hn, List.append_assoc, List.take_append_drop]
          exact h1
        · rcases List.mem_append.1 hx with hx | hx
          · exact h3 x hx
          · simp at hx
            subst hx
            exact ⟨e3, by rw [itR, ho, if_pos rfl]; exact inI_fields _⟩
theorem cutTo_len {b : List UInt8} {k : Nat} {l : List It} {r : List UInt8} (h : cutTo b k = some (l, r)) : 12 * k + r.length ≤ b.length := by
  obtain ⟨h1, h2, h3⟩ := cutTo_bytes h
  have h4 : ∀ l : List It, 12 * l.length ≤ (itsB l).length := fun l => by
    induction l with
    | nil => simp
    | cons x q ih =>
      have : itsB (x :: q) = itB x ++ itsB q := by simp [itsB]
      rw [this, List.length_append, itB_length, List.length_cons]
      omega
  have := h4 l
  rw [h1, List.length_append]
  omega
def cutL (b : List UInt8) (k : Nat) : List It := ((cutTo b k).map (·.1)).getD []
def cutR (b : List UInt8) (k : Nat) : List UInt8 := ((cutTo b k).map (·.2)).getD []
def cutF (b : List UInt8) (k : Nat) : Int := if (cutTo b k).isSome then 0 else 8

/-- What is left of bytes. -/
theorem rBy_rest {ok : Addr → Prop} {w : World} {ad : Addr} {n c : Nat} {b : List UInt8} (h : rBy ok w [.slice (some ad) n c] b) (k : Nat) (hk : k ≤ b.length) : rBy ok w [.slice (some (ad.add k)) (n - k) (c - k)] (b.drop k) := by
  obtain ⟨A, c', e, l1, l2, _⟩ := id h
  cases e
  have := rBy_part h k (b.length - k) (c - k) (by omega) (by omega) (by omega)
  rwa [List.take_of_length_le (by simp)] at this

set_option maxRecDepth 100000 in
set_option maxHeartbeats 4000000 in
theorem nodeCut_any (v : Value) (b : List UInt8) (many : Nat) (hm : many < 256) (w : World) (h : rBy (Old w) w [v] b) :
    Calls Tryz.prog 99 #[v, .int .i64 many] w fun e w' => ∃ A c u, e = .returned (.tuple #[.slice A (cutL b many).length c, u, .int .i64 (cutF b many)]) ∧ rIts (New w.heap.size w') w' [.slice A (cutL b many).length c] (cutL b many) ∧ rBy (Old w') w' [u] (cutR b many) ∧ Below w.heap.size w w' := by
  have HV := Lib.hid h
  clear h
  go_enter Tryz.func99, Tryz.ntmps99
  go_wp2_with fail
  go_loopw [0, 7, 12] (fun q it i wr => ∃ (k : Nat) (l : List It) (r : List UInt8) (A : Option Addr) (c : Nat), k ≤ many ∧ i = .int .i64 k ∧ it = .slice A k c ∧ l.length = k ∧ cutTo b k = some (l, r) ∧ rBy (Old w) w [q] r ∧ RowOf rIt 5 52 w.heap.size wr A c l ∧ Below w.heap.size w wr) (fun _ _ i _ => many - (intOf i).toNat)
  case atStart => exact ⟨0, [], b, none, 0, by omega, rfl, rfl, rfl, rfl, HV.out, RowOf.nil _ _ _ _ _, Below.refl _ _⟩
  case round =>
    obtain ⟨k, l, r, A, c, hk, rfl, rfl, hl, hcut, hq, hrow, hb⟩ := hrel
    replace hrow := Lib.hid hrow
    replace hcut := Lib.hid hcut
    replace hl := Lib.hid hl
    replace hb := Lib.hid hb
    obtain ⟨Q, cq, rfl, n1, n2, _⟩ := id (rBy_open hq)
    obtain ⟨nq, hnq⟩ : ∃ n, r.length = n := ⟨_, rfl⟩
    rw [hnq] at n1 hq ⊢
    replace hnq := Lib.hid hnq
    replace hq := Lib.hid hq
    have hqr := Lib.hid (stab_by.old hq.out hb.out)
    by_cases hlt : k < many
    case neg =>
      have hkm : k = many := by omega
      have hL := Lib.hid (show cutL b many = l by rw [← hkm]; simp [cutL, hcut.out])
      have hR := Lib.hid (show cutR b many = r by rw [← hkm]; simp [cutR, hcut.out])
      have hF := Lib.hid (show cutF b many = 0 by rw [← hkm]; simp [cutF, hcut.out])
      have hfin := Lib.hid (hrow.out.rel stab_it)
      rw [hl.out] at hfin
      replace hkm := Lib.hid hkm
      go_wp2_with fail
      exact bodyPost_ret (v := .tuple #[.slice A k c, .slice Q nq cq, .int .i64 0]) (by simp [results, Tryz.results99, go_sem]) rfl ⟨A, c, _, by rw [hL.out, hF.out, hl.out], by rw [hL.out, hl.out]; exact hfin.out, by rw [hR.out]; exact hqr.out, hb.out⟩
    go_wp2_with fail
    with_reducible refine (itRead_any _ r _ hqr.out).mono ?_
    rintro e3 w3 ⟨u3, rfl, hu3, hb3⟩
    obtain ⟨D, dc, rfl, hin, _, _, hby⟩ := id hu3.open
    obtain ⟨w4, hw4, s0, s1, s2, s3, s4, hs4, hb4, b4⟩ := box_five w3 (.int .u8 ((itR r).1.1.toNat : Int)) (.int .u32 (itR r).1.2.1) (.int .u32 (itR r).1.2.2) (.int .i64 (itR r).2.1) (.slice D (itR r).2.2.length dc) 52
    have C4 := Lib.hid (hb3.trans (hb4.mono hb3.size))
    have B4 := Lib.hid (hb.out.trans (C4.out.mono hb.out.size))
    have hI4 := Lib.hid (hu3.new (Nat.le_refl _) hb4)
    obtain ⟨x, hx⟩ : ∃ x, itR r = x := ⟨_, rfl⟩
    rw [hx] at hin s0 s1 s2 s3 s4 b4 hI4 hw4 ⊢
    replace hs4 := Lib.hid hs4
    replace hx := Lib.hid hx
    clear hb3 hb4 hu3 hby
    unfold itV at *
    go_upto_region 5 with fail
    clear hw4
    rcases bool_ways (okR r) with hok | hok
    · have hE := Lib.hid (show itE r = 8 by simp [itE, hok])
      have hno := Lib.hid (cutTo_none (cutTo_no hcut.out hok) (show k + 1 ≤ many by omega))
      have hL := Lib.hid (show cutL b many = [] by simp [cutL, hno.out])
      have hR := Lib.hid (show cutR b many = [] by simp [cutR, hno.out])
      have hF := Lib.hid (show cutF b many = 8 by simp [cutF, hno.out])
      rw [hE.out]
      replace hok := Lib.hid hok
      go_wp2_with fail
      exact bodyPost_ret (v := .tuple #[.slice none 0 0, .slice none 0 0, .int .i64 8]) (by simp [results, Tryz.results99, go_sem]) rfl ⟨none, 0, _, by rw [hL.out, hF.out]; rfl, by rw [hL.out]; exact its_nil _ _, by rw [hR.out]; exact rBy_part0 _ _ none, B4.out⟩
    have hE := Lib.hid (show itE r = 0 by simp [itE, hok])
    obtain ⟨m, hm1, hm2, hm3, hm4⟩ := read_itB hok
    have hyes := cutTo_yes hcut.out hok
    rw [hm1, show ((m : Int)).toNat = m by omega, hx.out] at hyes
    have hrl : 12 ≤ nq := by have := okC_yes (okR_fields hok).1; have := hnq.out; omega
    rw [hnq.out] at hm2
    rw [hE.out, hm1]
    replace hyes := Lib.hid hyes
    replace hok := Lib.hid hok
    clear hm1 hm3 hm4
    obtain ⟨w5, hw5, _, _, _, _, _, hs5, hb5, b5⟩ := box_five w4 (.int .u8 (x.1.1.toNat : Int)) (.int .u32 x.1.2.1) (.int .u32 x.1.2.2) (.int .i64 x.2.1) (.slice D x.2.2.length dc) 52
    have C5 := C4.out.trans (hb5.mono C4.out.size)
    have hI5 := hI4.out.new (Nat.le_refl _) hb5
    have hx5 : rBy (NewBut w.heap.size A w5) w5 [.slice D x.2.2.length dc] x.2.2 := by
      obtain ⟨d, e, _, hd⟩ := hI5
      have ed : d = .slice D x.2.2.length dc := by injection e with e; simpa using e.symm
      subst ed
      exact stab_by _ _ _ _ _ _ (fun p v hp hc => ⟨hrow.out.but (Nat.le_refl _) hb.out.size hp, hc⟩) hd
    have row5 := RowOf.below stab_it hrow.out C5
    have hb5' := hb.out.trans (C5.mono hb.out.size)
    have hk5 : l.length < 100000 := by have := hl.out; omega
    obtain ⟨A6, c6, w6, hr6, row6, _, hb6⟩ := its_push row5 w4.heap.size x _ 1 k hl.out b5 (by omega) hb5'.size hin hx5
    have B6 := Lib.hid (hb5'.trans hb6)
    have H6 := Lib.hid hr6
    replace row6 := Lib.hid row6
    have hll := Lib.hid (show (l ++ [x]).length = k + 1 by simp [hl.out])
    obtain ⟨qa, rfl⟩ : ∃ qa, Q = some qa := by
      obtain ⟨_, _, e, _, _, h4⟩ := rBy_open hq.out
      cases e
      obtain ⟨qa, e, _⟩ := h4 0 (by have := hnq.out; omega)
      exact ⟨qa, e⟩
    have hrest := Lib.hid (rBy_rest hq.out m (by rw [hnq.out]; exact hm2))
    have hnil : Hid (m = nq → ∀ W, rBy (Old W) W [.slice (some qa) 0 0] (r.drop m)) := Lib.hid fun e W => by
      rw [List.drop_of_length_le (by rw [hnq.out]; omega)]
      exact rBy_part0 _ _ _
    replace hs5 := Lib.hid hs5
    replace b5 := Lib.hid b5
    replace hI5 := Lib.hid hI5
    clear hr6 hb6 hx5 row5 C5 hb5 hb5' hin
    by_cases hmc : m = cq
    · have c1 : (0 : Int) ≤ (m : Int) := by omega
      have c2 : (m : Int) ≤ cq := by omega
      have c3 : (m : Int) ≤ nq := by omega
      go_wp2_with (at_builtin; refine wpList_append_run rfl _ _ _ rfl rfl rfl H6.out ?_; clear H6)
      go_roundw
      case rel => exact ⟨k + 1, l ++ [x], r.drop m, A6, c6, by omega, by go_num, rfl, hll.out, hyes.out, hnil.out (by omega) w, row6.out, B6.out⟩
      case measure => simp [intOf]; omega
    · have c1 : (0 : Int) ≤ (m : Int) := by omega
      have c2 : (m : Int) ≤ cq := by omega
      have c3 : (m : Int) ≤ nq := by omega
      go_wp2_with (at_builtin; refine wpList_append_run rfl _ _ _ rfl rfl rfl H6.out ?_; clear H6)
      go_roundw
      case rel => exact ⟨k + 1, l ++ [x], r.drop m, A6, c6, by omega, by go_num, rfl, hll.out, hyes.out, hrest.out, row6.out, B6.out⟩
      case measure => simp [intOf]; omega
end Go.Proofs.YtmdlgnlfgfhkmaaGreat

/-
  Package node: refers, Check. Conditions: those that each lemma states.
-/
namespace Go.Proofs.YtmdlgnlfgfhkmaaGreat
open Go.RowKit

set_option maxRecDepth 100000 in
set_option maxHeartbeats 2000000 in
theorem refers_any (v : Value) (s : It) (w : World) (h : Itm (Old w) w v s) : Calls Tryz.prog 51 #[v] w fun e w' => e = .returned (.bool (refersI s)) ∧ Below w.heap.size w w' := by
  obtain ⟨A, c, rfl, _, l1, m1, _⟩ := h.open
  have hw : refersI s = (decide (s.2.1 ≠ 0) && decide (s.2.2.length = 0)) := rfl
  obtain ⟨n, hn⟩ : ∃ n, s.2.2.length = n := ⟨_, rfl⟩
  unfold itV
  rw [hn] at l1 hw ⊢
  obtain ⟨w0, hw0, f1, f2, f3, f4, f5, hs0, hB0, _⟩ := box_five w (.int .u8 (s.1.1.toNat : Int)) (.int .u32 s.1.2.1) (.int .u32 s.1.2.2) (.int .i64 s.2.1) (.slice A n c) 52
  clear f1 f2 f3 hs0 hn h
  replace hB0 := Lib.hid hB0
  obtain ⟨r, hr⟩ : ∃ r, s.2.1 = r := ⟨_, rfl⟩
  rw [hr] at hw f4 hw0 ⊢
  clear hr
  generalize refersI s = res at hw ⊢
  replace hw := Lib.hid hw
  by_cases h0 : r = 0
  · have t0 : (r != 0) = false := by simpa using h0
    have hr := Lib.hid (show res = false by rw [hw.out]; simp [h0])
    replace h0 := Lib.hid h0
    go_enter Tryz.func51, Tryz.ntmps51
    go_upto_region 1 with fail
    clear hw0
    go_wp2_with fail
    go_ret
    exact ⟨ret_bool hr.out.symm, hB0.out⟩
  · have t0 : (r != 0) = true := by simpa using h0
    by_cases h1 : n = 0
    · have t1 : ((n : Int) == 0) = true := by simp; omega
      have hr := Lib.hid (show res = true by rw [hw.out]; simp [h0, h1])
      replace h0 := Lib.hid h0
      replace h1 := Lib.hid h1
      go_enter Tryz.func51, Tryz.ntmps51
      go_upto_region 1 with fail
      clear hw0
      go_wp2_with fail
      go_ret
      exact ⟨ret_bool hr.out.symm, hB0.out⟩
    · have t1 : ((n : Int) == 0) = false := by simp; omega
      have hr := Lib.hid (show res = false by rw [hw.out]; simp [h1])
      replace h0 := Lib.hid h0
      replace h1 := Lib.hid h1
      go_enter Tryz.func51, Tryz.ntmps51
      go_upto_region 1 with fail
      clear hw0
      go_wp2_with fail
      go_ret
      exact ⟨ret_bool hr.out.symm, hB0.out⟩

theorem bool_two (b : Bool) : b = false ∨ b = true := by cases b <;> simp
set_option maxRecDepth 100000 in
set_option maxHeartbeats 8000000 in
theorem checkN_any (v : Value) (n : Nd) (w : World) (h : Nod (Old w) w v n) : Calls Tryz.prog 32 #[v] w fun e w' => e = .returned (.int .i64 (chkN n)) ∧ Below w.heap.size w w' := by
  obtain ⟨A, c, rfl, hin, l1, m1, hA⟩ := h.open
  have hbad0 := Lib.hid (fun hh => chkN_bad (mayN_shape (n := n) hh))
  have hbad1 : Hid (∀ k, k < n.2.length → okAt n k = false → chkN n = 8) := Lib.hid fun k hk hh => chkN_bad (mayN_at hk hh)
  have hgood := Lib.hid (fun hh h2 => chkN_ok (mayN_mk (n := n) hh h2))
  have HA := Lib.hid hA
  clear h hA
  obtain ⟨m, hm⟩ : ∃ m, n.2.length = m := ⟨_, rfl⟩
  obtain ⟨l, hl⟩ : ∃ l, n.1 = l := ⟨_, rfl⟩
  rw [hm] at l1 hbad0 hbad1 hgood HA ⊢
  rw [hl] at hbad0 hgood hin ⊢
  obtain ⟨i1, i2⟩ := hin
  replace hm := Lib.hid hm
  replace hl := Lib.hid hl
  obtain ⟨w0, hw0, b0, hs0, hB0⟩ := box_pair' w (.int .i64 l) (.slice A m c) 31
  obtain ⟨f1, f2, _, lt0⟩ := two_cells b0
  replace hB0 := Lib.hid hB0
  replace b0 := Lib.hid b0
  replace hs0 := Lib.hid hs0
  by_cases h1 : l < 0
  · have hr := Lib.hid (hbad0.out (by omega))
    rw [hr.out]
    go_enter Tryz.func32, Tryz.ntmps32
    go_upto_region 1 with fail
    clear hw0
    go_wp2_with fail
    go_ret
    exact ⟨rfl, hB0.out⟩
  by_cases h2 : 6 ≤ l
  · have hr := Lib.hid (hbad0.out (by omega))
    rw [hr.out]
    go_enter Tryz.func32, Tryz.ntmps32
    go_upto_region 1 with fail
    clear hw0
    go_wp2_with fail
    go_ret
    exact ⟨rfl, hB0.out⟩
  by_cases h3 : 5 < m
  · have hr := Lib.hid (hbad0.out (by omega))
    have h3' : (5 : Int) < m := by omega
    rw [hr.out]
    go_enter Tryz.func32, Tryz.ntmps32
    go_upto_region 1 with fail
    clear hw0
    go_wp2_with fail
    go_ret
    exact ⟨rfl, hB0.out⟩
  have h3' : ¬ (5 : Int) < m := by omega
  by_cases h4 : 0 < l ∧ m = 0
  · have hr := Lib.hid (hbad0.out (by omega))
    obtain ⟨h4a, h4b⟩ := h4
    have h4c : ((m : Int) == 0) = true := by simp; omega
    replace h4b := Lib.hid h4b
    rw [hr.out]
    go_enter Tryz.func32, Tryz.ntmps32
    go_upto_region 1 with fail
    clear hw0
    go_wp2_with fail
    go_ret
    exact ⟨rfl, hB0.out⟩
  have hgood2 := Lib.hid (hgood.out (by omega))
  have hB := Lib.hid (fun wr (hb : Below w0.heap.size w0 wr) => hB0.out.trans (hb.mono hB0.out.size))
  clear hgood hbad0
  rcases (by omega : l ≤ 0 ∨ (0 < l ∧ m ≠ 0)) with h5 | ⟨h5, h6⟩
  rotate_left
  · have h6' : ((m : Int) == 0) = false := by simp; omega
    replace h6 := Lib.hid h6
    replace h4 := Lib.hid h4
    go_enter Tryz.func32, Tryz.ntmps32
    go_upto_region 1 with fail
    clear hw0
    go_wp2_with fail
    go_loopw [31] (fun i wr => ∃ k : Nat, k ≤ m ∧ i = .int .i64 k ∧ (∀ j, j < k → okAt n j = true) ∧ Below w0.heap.size w0 wr) (fun i _ => m - (intOf i).toNat)
    case atStart => exact ⟨0, by omega, rfl, fun j hj => by omega, Below.refl _ _⟩
    case round =>
      obtain ⟨k, hk, rfl, ha, hb⟩ := hrel
      replace ha := Lib.hid ha
      replace hb := Lib.hid hb
      have p1 := (hb.out.cell (p := ⟨w.heap.size, 0, none⟩) lt0).trans f1
      have p2 := (hb.out.cell (p := ⟨w.heap.size, 1, none⟩) lt0).trans f2
      by_cases hlt : k < m
      case neg =>
        have hfin := Lib.hid (hgood2.out fun i hi => ha.out i (by omega))
        have BF := Lib.hid (hB.out _ hb.out)
        go_wp2_with fail
        go_ret
        exact ⟨ret_int hfin.out.symm, BF.out⟩
      obtain ⟨x, hx⟩ : ∃ x, n.2[k]? = some x := ⟨_, List.getElem?_eq_getElem (by rw [hm.out]; exact hlt)⟩
      obtain ⟨ad, E, ce, rfl, q1, q2, hinx, FX⟩ := its_old HA.out hx
      have FX' := Lib.hid (fun W (hW : Below wr.heap.size wr W) => FX W ((hB.out _ hb.out).trans (hW.mono (hB.out _ hb.out).size)))
      obtain ⟨⟨z0, z1, z2, z3, z4⟩, hIx⟩ := FX'.out wr (Below.refl _ _)
      obtain ⟨w2, hw2, g0, g1, g2, g3, g4, hs2, hB2, _⟩ := box_five wr (.int .u8 (x.1.1.toNat : Int)) (.int .u32 x.1.2.1) (.int .u32 x.1.2.2) (.int .i64 x.2.1) (.slice E x.2.2.length ce) 52
      have HI := Lib.hid (hIx.below hB2)
      have lt2 : wr.heap.size < w2.heap.size := by omega
      have B2 := Lib.hid (hb.out.trans (hB2.mono hb.out.size))
      have C2 := Lib.hid hB2
      replace hx := Lib.hid hx
      replace hs2 := Lib.hid hs2
      have hbk := Lib.hid (hbad1.out k hlt)
      clear FX hIx hB2 hinx
      unfold itV at *
      go_upto_region 8 with fail
      clear hw2
      go_wp2_with fail
      with_reducible refine (checkI_any _ x _ HI.out).mono ?_
      rintro e3 w3 ⟨rfl, hb3⟩
      have B3 := Lib.hid (B2.out.trans (hb3.mono B2.out.size))
      have C3 := Lib.hid (C2.out.trans (hb3.mono C2.out.size))
      have r0 := (hb3.cell (p := ⟨wr.heap.size, 0, none⟩) lt2).trans g0
      have r1 := (hb3.cell (p := ⟨wr.heap.size, 1, none⟩) lt2).trans g1
      have r2 := (hb3.cell (p := ⟨wr.heap.size, 2, none⟩) lt2).trans g2
      have r3 := (hb3.cell (p := ⟨wr.heap.size, 3, none⟩) lt2).trans g3
      have r4 := (hb3.cell (p := ⟨wr.heap.size, 4, none⟩) lt2).trans g4
      have p3 := (hb3.cell (p := ⟨w.heap.size, 0, none⟩) (Nat.lt_of_lt_of_le lt0 B2.out.size)).trans ((C2.out.cell (p := ⟨w.heap.size, 0, none⟩) (Nat.lt_of_lt_of_le lt0 hb.out.size)).trans p1)
      have p4 := (hb3.cell (p := ⟨w.heap.size, 1, none⟩) (Nat.lt_of_lt_of_le lt0 B2.out.size)).trans ((C2.out.cell (p := ⟨w.heap.size, 1, none⟩) (Nat.lt_of_lt_of_le lt0 hb.out.size)).trans p2)
      replace HI := Lib.hid (HI.out.below hb3)
      have lt3 : wr.heap.size < w3.heap.size := Nat.lt_of_lt_of_le lt2 hb3.size
      clear hb3 g0 g1 g2 g3 g4 z0 z1 z2 z3 z4 p1 p2
      rcases bool_two (mayI x) with hmx | hmx
      · have hr := Lib.hid (hbk.out (okAt_noP hx.out (by rw [okP, hmx]; rfl)))
        have hc := Lib.hid (chkI_bad hmx)
        have BF := Lib.hid (hB.out _ B3.out)
        replace hmx := Lib.hid hmx
        rw [hc.out]
        go_wp2_with fail
        go_ret
        exact ⟨ret_int hr.out.symm, BF.out⟩
      have hc := Lib.hid (chkI_ok hmx)
      replace hmx := Lib.hid hmx
      rw [hc.out]
      go_wp2_with fail
      with_reducible refine (refers_any _ x _ HI.out).mono ?_
      rintro e4 w4 ⟨rfl, hb4⟩
      have B4 := Lib.hid (B3.out.trans (hb4.mono B3.out.size))
      have C4 := Lib.hid (C3.out.trans (hb4.mono C3.out.size))
      have t0 := (hb4.cell (p := ⟨wr.heap.size, 0, none⟩) lt3).trans r0
      have t1 := (hb4.cell (p := ⟨wr.heap.size, 1, none⟩) lt3).trans r1
      have t2 := (hb4.cell (p := ⟨wr.heap.size, 2, none⟩) lt3).trans r2
      have p5 := (hb4.cell (p := ⟨w.heap.size, 1, none⟩) (Nat.lt_of_lt_of_le lt0 B3.out.size)).trans p4
      have lt4 : wr.heap.size < w4.heap.size := Nat.lt_of_lt_of_le lt3 hb4.size
      have lt0' : w.heap.size < w4.heap.size := Nat.lt_of_lt_of_le lt0 B4.out.size
      clear hb4 r0 r1 r2 r3 r4 p3 p4
      rcases bool_two (refersI x) with hrx | hrx
      · have hr := Lib.hid (hbk.out (okAt_noP hx.out (by rw [okP, hmx.out, hrx, hl.out]; simp; omega)))
        have BF := Lib.hid (hB.out _ B4.out)
        rw [hrx]
        replace hrx := Lib.hid hrx
        go_wp2_with fail
        go_ret
        exact ⟨ret_int hr.out.symm, BF.out⟩
      have hP := Lib.hid (show okP n.1 x = true by rw [okP, hmx.out, hrx]; simp)
      rw [hrx]
      replace hrx := Lib.hid hrx
      rcases (by rcases k with _ | j; exact Or.inl rfl; exact Or.inr ⟨j, rfl⟩ : k = 0 ∨ ∃ j, k = j + 1) with hk0 | ⟨j, hkj⟩
      · have hall := Lib.hid (show ∀ j, j < k + 1 → okAt n j = true from fun j hj => by
          obtain rfl : j = 0 := by omega
          subst hk0
          rw [okAt_zero hx.out, hP.out])
        subst hk0
        go_wp2_with fail
        go_quiet (fail)
        go_wp2_with fail
        go_roundw
        case rel => exact ⟨0 + 1, by omega, by go_num, hall.out, below_drewN B4.out _⟩
        case measure => simp [intOf]; omega
      · obtain ⟨y, hy⟩ : ∃ y, n.2[j]? = some y := ⟨_, List.getElem?_eq_getElem (by rw [hm.out]; omega)⟩
        obtain ⟨ad', E', ce', e', _, _, _, FY⟩ := its_old HA.out hy
        have e'' := Option.some.inj e'
        subst e''
        clear e'
        have BW4 := Lib.hid (hB.out _ B4.out)
        have FYY := Lib.hid fun W (hW : Below _ _ W) => (FY W (BW4.out.trans (hW.mono BW4.out.size))).1
        have hsucc := Lib.hid (show okAt n k = lessK y.1 x.1 by subst hkj; rw [okAt_succ hx.out hy, hP.out]; simp)
        have hj1 : (k : Int) - 1 = (j : Int) := by omega
        replace hy := Lib.hid hy
        obtain ⟨s, hs⟩ : ∃ s, lessK y.1 x.1 = s := ⟨_, rfl⟩
        rw [hs] at hsucc
        replace hs := Lib.hid hs
        have hwj : IntKind.i64.wrap (j : Int) = (j : Int) := IntWalk.i64_in _ (by omega)
        have hj0 : (0 : Int) ≤ (j : Int) := by omega
        have kpos : (0 : Int) < (k : Int) := by omega
        have hjm : (j : Int) < (m : Int) := by omega
        clear FY
        go_wp2_with fail
        refine wp_region_fx (by kernel_rfl) (fun W => Below _ _ W) (fun _ => none) (fun i => match i with
          | 12 => some (.bool s)
          | _ => none) (by kernel_rfl) (Below.refl _ _).drew (fun w w' h hb => h.trans (hb.mono h.size)) (fun j φ x W W' hp => by cases hp) ?_
        repeat (first
          | (refine wpAs_skip rfl ?_; simp only [Act.put, List.setIfInBounds_toArray, List.set_cons_zero, List.set_cons_succ])
          | (refine wpAs_pure (v := ?_) rfl rfl ?_ ?_; rotate_left; (intro W hC hE; clear hE; (obtain ⟨y0, y1, y2, y3, y4⟩ := FYY.out W hC; have x0 := (hC.cell (p := ⟨wr.heap.size, 0, none⟩) lt4).trans t0; have x1 := (hC.cell (p := ⟨wr.heap.size, 1, none⟩) lt4).trans t1; have x2 := (hC.cell (p := ⟨wr.heap.size, 2, none⟩) lt4).trans t2; have p6 := (hC.cell (p := ⟨w.heap.size, 1, none⟩) lt0').trans p5); clear hC; go_simp; done); simp only [Act.put, List.setIfInBounds_toArray, List.set_cons_zero, List.set_cons_succ])
          | (refine wpAs_pure (v := ?_) rfl rfl ?_ ?_; rotate_left; (intro W hC hE; clear hE; (obtain ⟨y0, y1, y2, y3, y4⟩ := FYY.out W hC; have x0 := (hC.cell (p := ⟨wr.heap.size, 0, none⟩) lt4).trans t0; have x1 := (hC.cell (p := ⟨wr.heap.size, 1, none⟩) lt4).trans t1; have x2 := (hC.cell (p := ⟨wr.heap.size, 2, none⟩) lt4).trans t2; have p6 := (hC.cell (p := ⟨w.heap.size, 1, none⟩) lt0').trans p5); clear hC; go_simp; with_reducible rfl); simp only [Act.put, List.setIfInBounds_toArray, List.set_cons_zero, List.set_cons_succ]))
        refine wpAs_fixed rfl rfl rfl ?_ ?_
        · intro W hC hE
          refine does_enter (f := 52) (args := #[kyV y.1, kyV x.1]) ?_ ?_
          · go_simp
          · refine (less_any y.1 x.1 W).mono ?_
            rintro e W' ⟨rfl, hg⟩
            rw [hs.out]
            exact ⟨_, rfl, rfl, hg⟩
        simp only [Act.put, List.setIfInBounds_toArray, List.set_cons_zero, List.set_cons_succ]
        repeat (first
          | (refine wpAs_skip rfl ?_; simp only [Act.put, List.setIfInBounds_toArray, List.set_cons_zero, List.set_cons_succ])
          | (refine wpAs_pure (v := ?_) rfl rfl ?_ ?_; rotate_left; (intro W hC hE; clear hE; skip; clear hC; go_simp; done); simp only [Act.put, List.setIfInBounds_toArray, List.set_cons_zero, List.set_cons_succ])
          | (refine wpAs_pure (v := ?_) rfl rfl ?_ ?_; rotate_left; (intro W hC hE; clear hE; skip; clear hC; go_simp; with_reducible rfl); simp only [Act.put, List.setIfInBounds_toArray, List.set_cons_zero, List.set_cons_succ]))
        refine wpAs_end fun W hC hE => ?_
        have BW := Lib.hid (B4.out.trans (hC.mono B4.out.size))
        clear hE hC
        cases s with
        | true =>
          have hall := Lib.hid (show ∀ j, j < k + 1 → okAt n j = true from fun j hj => by
            rcases Nat.lt_or_ge j k with h | h
            · exact ha.out j h
            · obtain rfl : j = k := by omega
              exact hsucc.out)
          go_wp2_with fail
          go_roundw
          case rel => exact ⟨k + 1, by omega, by go_num, hall.out, BW.out⟩
          case measure => simp [intOf]; omega
        | false =>
          have hr := Lib.hid (hbk.out hsucc.out)
          have BF := Lib.hid (hB.out _ BW.out)
          go_wp2_with fail
          go_ret
          exact ⟨ret_int hr.out.symm, BF.out⟩
  · replace h4 := Lib.hid h4
    go_enter Tryz.func32, Tryz.ntmps32
    go_upto_region 1 with fail
    clear hw0
    go_wp2_with fail
    go_loopw [31] (fun i wr => ∃ k : Nat, k ≤ m ∧ i = .int .i64 k ∧ (∀ j, j < k → okAt n j = true) ∧ Below w0.heap.size w0 wr) (fun i _ => m - (intOf i).toNat)
    case atStart => exact ⟨0, by omega, rfl, fun j hj => by omega, Below.refl _ _⟩
    case round =>
      obtain ⟨k, hk, rfl, ha, hb⟩ := hrel
      replace ha := Lib.hid ha
      replace hb := Lib.hid hb
      have p1 := (hb.out.cell (p := ⟨w.heap.size, 0, none⟩) lt0).trans f1
      have p2 := (hb.out.cell (p := ⟨w.heap.size, 1, none⟩) lt0).trans f2
      by_cases hlt : k < m
      case neg =>
        have hfin := Lib.hid (hgood2.out fun i hi => ha.out i (by omega))
        have BF := Lib.hid (hB.out _ hb.out)
        go_wp2_with fail
        go_ret
        exact ⟨ret_int hfin.out.symm, BF.out⟩
      obtain ⟨x, hx⟩ : ∃ x, n.2[k]? = some x := ⟨_, List.getElem?_eq_getElem (by rw [hm.out]; exact hlt)⟩
      obtain ⟨ad, E, ce, rfl, q1, q2, hinx, FX⟩ := its_old HA.out hx
      have FX' := Lib.hid (fun W (hW : Below wr.heap.size wr W) => FX W ((hB.out _ hb.out).trans (hW.mono (hB.out _ hb.out).size)))
      obtain ⟨⟨z0, z1, z2, z3, z4⟩, hIx⟩ := FX'.out wr (Below.refl _ _)
      obtain ⟨w2, hw2, g0, g1, g2, g3, g4, hs2, hB2, _⟩ := box_five wr (.int .u8 (x.1.1.toNat : Int)) (.int .u32 x.1.2.1) (.int .u32 x.1.2.2) (.int .i64 x.2.1) (.slice E x.2.2.length ce) 52
      have HI := Lib.hid (hIx.below hB2)
      have lt2 : wr.heap.size < w2.heap.size := by omega
      have B2 := Lib.hid (hb.out.trans (hB2.mono hb.out.size))
      have C2 := Lib.hid hB2
      replace hx := Lib.hid hx
      replace hs2 := Lib.hid hs2
      have hbk := Lib.hid (hbad1.out k hlt)
      clear FX hIx hB2 hinx
      unfold itV at *
      go_upto_region 8 with fail
      clear hw2
      go_wp2_with fail
      with_reducible refine (checkI_any _ x _ HI.out).mono ?_
      rintro e3 w3 ⟨rfl, hb3⟩
      have B3 := Lib.hid (B2.out.trans (hb3.mono B2.out.size))
      have C3 := Lib.hid (C2.out.trans (hb3.mono C2.out.size))
      have r0 := (hb3.cell (p := ⟨wr.heap.size, 0, none⟩) lt2).trans g0
      have r1 := (hb3.cell (p := ⟨wr.heap.size, 1, none⟩) lt2).trans g1
      have r2 := (hb3.cell (p := ⟨wr.heap.size, 2, none⟩) lt2).trans g2
      have r3 := (hb3.cell (p := ⟨wr.heap.size, 3, none⟩) lt2).trans g3
      have r4 := (hb3.cell (p := ⟨wr.heap.size, 4, none⟩) lt2).trans g4
      have p3 := (hb3.cell (p := ⟨w.heap.size, 0, none⟩) (Nat.lt_of_lt_of_le lt0 B2.out.size)).trans ((C2.out.cell (p := ⟨w.heap.size, 0, none⟩) (Nat.lt_of_lt_of_le lt0 hb.out.size)).trans p1)
      have p4 := (hb3.cell (p := ⟨w.heap.size, 1, none⟩) (Nat.lt_of_lt_of_le lt0 B2.out.size)).trans ((C2.out.cell (p := ⟨w.heap.size, 1, none⟩) (Nat.lt_of_lt_of_le lt0 hb.out.size)).trans p2)
      replace HI := Lib.hid (HI.out.below hb3)
      have lt3 : wr.heap.size < w3.heap.size := Nat.lt_of_lt_of_le lt2 hb3.size
      clear hb3 g0 g1 g2 g3 g4 z0 z1 z2 z3 z4 p1 p2
      rcases bool_two (mayI x) with hmx | hmx
      · have hr := Lib.hid (hbk.out (okAt_noP hx.out (by rw [okP, hmx]; rfl)))
        have hc := Lib.hid (chkI_bad hmx)
        have BF := Lib.hid (hB.out _ B3.out)
        replace hmx := Lib.hid hmx
        rw [hc.out]
        go_wp2_with fail
        go_ret
        exact ⟨ret_int hr.out.symm, BF.out⟩
      have hc := Lib.hid (chkI_ok hmx)
      replace hmx := Lib.hid hmx
      rw [hc.out]
      have h5q : ¬ (0 : Int) < l := by omega
      have hP := Lib.hid (show okP n.1 x = true by rw [okP, hmx.out, hl.out]; simp; omega)
      obtain ⟨w4, hw4⟩ : ∃ w4, w3 = w4 := ⟨_, rfl⟩
      subst hw4
      have B4 := B3
      have C4 := C3
      have t0 := r0
      have t1 := r1
      have t2 := r2
      have p5 := p4
      have lt4 := lt3
      have lt0' : w.heap.size < w3.heap.size := Nat.lt_of_lt_of_le lt0 B4.out.size
      clear r0 r1 r2 r3 r4 lt3
      rcases (by rcases k with _ | j; exact Or.inl rfl; exact Or.inr ⟨j, rfl⟩ : k = 0 ∨ ∃ j, k = j + 1) with hk0 | ⟨j, hkj⟩
      · have hall := Lib.hid (show ∀ j, j < k + 1 → okAt n j = true from fun j hj => by
          obtain rfl : j = 0 := by omega
          subst hk0
          rw [okAt_zero hx.out, hP.out])
        subst hk0
        go_wp2_with fail
        go_quiet (fail)
        go_wp2_with fail
        go_roundw
        case rel => exact ⟨0 + 1, by omega, by go_num, hall.out, below_drewN B4.out _⟩
        case measure => simp [intOf]; omega
      · obtain ⟨y, hy⟩ : ∃ y, n.2[j]? = some y := ⟨_, List.getElem?_eq_getElem (by rw [hm.out]; omega)⟩
        obtain ⟨ad', E', ce', e', _, _, _, FY⟩ := its_old HA.out hy
        have e'' := Option.some.inj e'
        subst e''
        clear e'
        have BW4 := Lib.hid (hB.out _ B4.out)
        have FYY := Lib.hid fun W (hW : Below _ _ W) => (FY W (BW4.out.trans (hW.mono BW4.out.size))).1
        have hsucc := Lib.hid (show okAt n k = lessK y.1 x.1 by subst hkj; rw [okAt_succ hx.out hy, hP.out]; simp)
        have hj1 : (k : Int) - 1 = (j : Int) := by omega
        replace hy := Lib.hid hy
        obtain ⟨s, hs⟩ : ∃ s, lessK y.1 x.1 = s := ⟨_, rfl⟩
        rw [hs] at hsucc
        replace hs := Lib.hid hs
        have hwj : IntKind.i64.wrap (j : Int) = (j : Int) := IntWalk.i64_in _ (by omega)
        have hj0 : (0 : Int) ≤ (j : Int) := by omega
        have kpos : (0 : Int) < (k : Int) := by omega
        have hjm : (j : Int) < (m : Int) := by omega
        clear FY
        go_wp2_with fail
        refine wp_region_fx (by kernel_rfl) (fun W => Below _ _ W) (fun _ => none) (fun i => match i with
          | 12 => some (.bool s)
          | _ => none) (by kernel_rfl) (Below.refl _ _).drew (fun w w' h hb => h.trans (hb.mono h.size)) (fun j φ x W W' hp => by cases hp) ?_
        repeat (first
          | (refine wpAs_skip rfl ?_; simp only [Act.put, List.setIfInBounds_toArray, List.set_cons_zero, List.set_cons_succ])
          | (refine wpAs_pure (v := ?_) rfl rfl ?_ ?_; rotate_left; (intro W hC hE; clear hE; (obtain ⟨y0, y1, y2, y3, y4⟩ := FYY.out W hC; have x0 := (hC.cell (p := ⟨wr.heap.size, 0, none⟩) lt4).trans t0; have x1 := (hC.cell (p := ⟨wr.heap.size, 1, none⟩) lt4).trans t1; have x2 := (hC.cell (p := ⟨wr.heap.size, 2, none⟩) lt4).trans t2; have p6 := (hC.cell (p := ⟨w.heap.size, 1, none⟩) lt0').trans p5); clear hC; go_simp; done); simp only [Act.put, List.setIfInBounds_toArray, List.set_cons_zero, List.set_cons_succ])
          | (refine wpAs_pure (v := ?_) rfl rfl ?_ ?_; rotate_left; (intro W hC hE; clear hE; (obtain ⟨y0, y1, y2, y3, y4⟩ := FYY.out W hC; have x0 := (hC.cell (p := ⟨wr.heap.size, 0, none⟩) lt4).trans t0; have x1 := (hC.cell (p := ⟨wr.heap.size, 1, none⟩) lt4).trans t1; have x2 := (hC.cell (p := ⟨wr.heap.size, 2, none⟩) lt4).trans t2; have p6 := (hC.cell (p := ⟨w.heap.size, 1, none⟩) lt0').trans p5); clear hC; go_simp; with_reducible rfl); simp only [Act.put, List.setIfInBounds_toArray, List.set_cons_zero, List.set_cons_succ]))
        refine wpAs_fixed rfl rfl rfl ?_ ?_
        · intro W hC hE
          refine does_enter (f := 52) (args := #[kyV y.1, kyV x.1]) ?_ ?_
          · go_simp
          · refine (less_any y.1 x.1 W).mono ?_
            rintro e W' ⟨rfl, hg⟩
            rw [hs.out]
            exact ⟨_, rfl, rfl, hg⟩
        simp only [Act.put, List.setIfInBounds_toArray, List.set_cons_zero, List.set_cons_succ]
        repeat (first
          | (refine wpAs_skip rfl ?_; simp only [Act.put, List.setIfInBounds_toArray, List.set_cons_zero, List.set_cons_succ])
          | (refine wpAs_pure (v := ?_) rfl rfl ?_ ?_; rotate_left; (intro W hC hE; clear hE; skip; clear hC; go_simp; done); simp only [Act.put, List.setIfInBounds_toArray, List.set_cons_zero, List.set_cons_succ])
          | (refine wpAs_pure (v := ?_) rfl rfl ?_ ?_; rotate_left; (intro W hC hE; clear hE; skip; clear hC; go_simp; with_reducible rfl); simp only [Act.put, List.setIfInBounds_toArray, List.set_cons_zero, List.set_cons_succ]))
        refine wpAs_end fun W hC hE => ?_
        have BW := Lib.hid (B4.out.trans (hC.mono B4.out.size))
        clear hE hC
        cases s with
        | true =>
          have hall := Lib.hid (show ∀ j, j < k + 1 → okAt n j = true from fun j hj => by
            rcases Nat.lt_or_ge j k with h | h
            · exact ha.out j h
            · obtain rfl : j = k := by omega
              exact hsucc.out)
          go_wp2_with fail
          go_roundw
          case rel => exact ⟨k + 1, by omega, by go_num, hall.out, BW.out⟩
          case measure => simp [intOf]; omega
        | false =>
          have hr := Lib.hid (hbk.out hsucc.out)
          have BF := Lib.hid (hB.out _ BW.out)
          go_wp2_with fail
          go_ret
          exact ⟨ret_int hr.out.symm, BF.out⟩
end Go.Proofs.YtmdlgnlfgfhkmaaGreat

/-
  Package node: Write. Conditions: those that each lemma states.
-/
namespace Go.Proofs.YtmdlgnlfgfhkmaaGreat
open Go.RowKit

/-- Three literal bytes, as a row of the call's own. -/
theorem lit_own3 (w : World) (x y z : UInt8) (a b c : Int) (h1 : (x.toNat : Int) = a) (h2 : (y.toNat : Int) = b) (h3 : (z.toNat : Int) = c) : ∃ w1, w.alloc (.cells #[.int .u8 a, .int .u8 b, .int .u8 c] 5) = w1 ∧ w1.ownsRow w.heap.size 5 1 (.slice (some ⟨w.heap.size, 0, none⟩) 3 3) 3 (u8s [x, y, z]) ∧ Below w.heap.size w w1 ∧ w1.heap.size = w.heap.size + 1 := by
  subst h1 h2 h3
  refine ⟨_, rfl, ?_, (Below.refl _ _).alloc (Nat.le_refl _) _, by simp⟩
  have h1 : Row (w.alloc (.cells #[.int .u8 (x.toNat : Int), .int .u8 (y.toNat : Int), .int .u8 (z.toNat : Int)] 5)) w.heap.size [x, y, z] := Row.new w [x, y, z]
  exact h1.own (Nat.le_refl _) (by simp)
theorem u8_small {l : Int} (h0 : 0 ≤ l) (h1 : l < 256) : ((UInt8.ofNat l.toNat).toNat : Int) = l ∧ IntKind.u8.wrap l = l := by
  refine ⟨?_, ?_⟩
  · rw [UInt8.toNat_ofNat']
    omega
  · simp [IntKind.wrap, IntKind.signed, IntKind.bits]
    omega
theorem headN_len (n : Nd) (k : Nat) : (headN n ++ itsB (n.2.take k)).length = 3 + (itsB (n.2.take k)).length := by simp [headN]; omega
theorem itsB_take_len {n : Nd} (h : mayN n = true) (k : Nat) : (itsB (n.2.take k)).length ≤ 120 := by
  have h1 := itsB_len (l := n.2.take k) (fun x hx => mayN_all h x (List.mem_of_mem_take hx))
  have h2 := (mayN_of h).1.2.2.1
  have h3 : (n.2.take k).length ≤ n.2.length := by rw [List.length_take]; omega
  omega

set_option maxRecDepth 100000 in
set_option maxHeartbeats 4000000 in
theorem nodeWrite_any (v : Value) (n : Nd) (w : World) (h : Nod (Old w) w v n) :
    Calls Tryz.prog 18 #[v] w fun e w' => ∃ u, e = .returned (.tuple #[u, .int .i64 (chkN n)]) ∧ rBy (New w.heap.size w') w' [u] (wrN n) ∧ Below w.heap.size w w' := by
  obtain ⟨A, c, rfl, hin, l1, m1, hA⟩ := h.open
  obtain ⟨w0, hw0, b0, hs0, hB0⟩ := box_pair' w (.int .i64 n.1) (.slice A n.2.length c) 31
  obtain ⟨f1, f2, _, lt0⟩ := two_cells b0
  have HN := Lib.hid (h.below hB0)
  have HA := Lib.hid hA
  have HB0 := Lib.hid hB0
  replace hs0 := Lib.hid hs0
  clear h hA hB0 b0 hin
  rcases bool_two (mayN n) with hm | hm
  · have hc := Lib.hid (chkN_bad hm)
    have hw := Lib.hid (show wrN n = [] by simp [wrN, hm])
    rw [hw.out]
    go_enter Tryz.func18, Tryz.ntmps18
    go_upto_region 1 with fail
    clear hw0
    go_wp2_with fail
    with_reducible refine (checkN_any _ n _ HN.out).mono ?_
    rintro e1 w1 ⟨rfl, hb1⟩
    rw [hc.out]
    have BF := Lib.hid (HB0.out.trans (hb1.mono HB0.out.size))
    clear hb1
    go_wp2_with fail
    go_ret2
    exact ⟨_, ret_two hc.out.symm, rBy_nil_new _ _, BF.out⟩
  have hmay := Lib.hid hm
  have hc := Lib.hid (chkN_ok hm)
  have hwr := Lib.hid (show wrN n = blkN n by simp [wrN, hm])
  rw [hwr.out]
  obtain ⟨⟨s1, s2, s3, _⟩, _⟩ := mayN_of hm
  obtain ⟨m, hmm⟩ : ∃ m, n.2.length = m := ⟨_, rfl⟩
  have hu1 := u8_small s1 (by omega)
  have hu2 := u8_small (l := (n.2.length : Int)) (by omega) (by omega)
  have hhead := Lib.hid (show headN n = [78, UInt8.ofNat n.1.toNat, UInt8.ofNat n.2.length] from rfl)
  rw [Int.toNat_natCast] at hu2
  rw [hmm] at l1 f2 hw0 HN HA s3 hu2 hhead ⊢
  obtain ⟨l, hl⟩ : ∃ l, n.1 = l := ⟨_, rfl⟩
  rw [hl] at f1 hw0 HN s1 s2 hu1 hhead ⊢
  replace hl := Lib.hid hl
  replace hmm := Lib.hid hmm
  clear hm
  go_enter Tryz.func18, Tryz.ntmps18
  go_upto_region 1 with fail
  clear hw0
  go_wp2_with fail
  with_reducible refine (checkN_any _ n _ HN.out).mono ?_
  rintro e1 w1 ⟨rfl, hb1⟩
  rw [hc.out]
  have B1 := Lib.hid (HB0.out.trans (hb1.mono HB0.out.size))
  have p1 := (hb1.cell (p := ⟨w.heap.size, 0, none⟩) lt0).trans f1
  have p2 := (hb1.cell (p := ⟨w.heap.size, 1, none⟩) lt0).trans f2
  have lt1 : w.heap.size < w1.heap.size := Nat.lt_of_lt_of_le lt0 hb1.size
  clear hb1 f1 f2
  obtain ⟨w2, hw2, own2, hb2, hs2⟩ := lit_own3 w1 78 (UInt8.ofNat l.toNat) (UInt8.ofNat m) 78 l m rfl hu1.1 hu2.1
  rw [← hhead.out] at own2
  have q1 := hu1.2
  have q2 := hu2.2
  have B2 := Lib.hid (B1.out.trans (hb2.mono B1.out.size))
  have p3 := (hb2.cell (p := ⟨w.heap.size, 1, none⟩) lt1).trans p2
  have lt2 : w.heap.size < w2.heap.size := Nat.lt_of_lt_of_le lt1 hb2.size
  have h12 := Lib.hid hb2.size
  replace own2 := Lib.hid own2
  replace hu1 := Lib.hid hu1
  replace hu2 := Lib.hid hu2
  replace hs2 := Lib.hid hs2
  have hb2' := Lib.hid hb2
  have p2' := Lib.hid p2
  clear hb2
  go_upto_region 5 with fail
  clear hw2 p1 p2
  go_wp2_with fail
  go_loopw [5, 26] (fun b i wr => ∃ k : Nat, k ≤ m ∧ i = .int .i64 k ∧ wr.ownsRow w1.heap.size 5 1 b (3 + (itsB (n.2.take k)).length) (u8s (headN n ++ itsB (n.2.take k))) ∧ Below w1.heap.size w1 wr) (fun _ i _ => m - (intOf i).toNat)
  case atStart => exact ⟨0, by omega, rfl, by simpa [itsB] using own2.out, hb2'.out⟩
  case round =>
    obtain ⟨k, hk, rfl, hown, hb⟩ := hrel
    replace hb := Lib.hid hb
    have h63 := itsB_take_len hmay.out k
    obtain ⟨B, cb, rfl, c1, c2, hby⟩ := own_byt hown
    have BF := Lib.hid (B1.out.trans (hb.out.mono B1.out.size))
    by_cases hlt : k < m
    case neg =>
      have hkm : Hid (n.2.take k = n.2) := Lib.hid (List.take_of_length_le (by rw [hmm.out]; omega))
      rw [hkm.out] at hby c1 h63 ⊢
      obtain ⟨q, hq⟩ : ∃ q, 3 + (itsB n.2).length = q := ⟨_, rfl⟩
      have hlen := Lib.hid (show (toldN n).length = q by rw [← hq]; simp [toldN, headN]; omega)
      have hse := Lib.hid (show se q = 0 from if_pos (by omega))
      have hsb := Lib.hid (show sb (toldN n) = blkN n from if_pos (by rw [hlen.out]; omega))
      have HY : Hid (Byt wr wr.heap.size B (toldN n)) := Lib.hid hby
      rw [hq] at c1 ⊢
      clear hown hq
      go_wp2_with fail
      with_reducible refine (seal_any B q cb (toldN n) hlen c1 c2 _ HY.out).mono ?_
      rintro e9 w9 ⟨u, rfl, ho, hb9⟩
      rw [hse.out]
      rw [hsb.out] at ho
      have hfin := Lib.hid (stab_by.mono (own_by ho) BF.out.size)
      have B9 := Lib.hid (BF.out.trans (hb9.mono BF.out.size))
      clear hb9 ho
      go_wp2_with fail
      go_ret2
      exact ⟨_, ret_two hc.out.symm, hfin.out, B9.out⟩
    have p4 := (hb.out.cell (p := ⟨w.heap.size, 1, none⟩) lt1).trans p2'.out
    obtain ⟨x, hx⟩ : ∃ x, n.2[k]? = some x := ⟨_, List.getElem?_eq_getElem (by rw [hmm.out]; exact hlt)⟩
    obtain ⟨ad, E, ce, rfl, q1, q2, hinx, FX⟩ := its_old HA.out hx
    obtain ⟨⟨z0, z1, z2, z3, z4⟩, hIx⟩ := FX wr BF.out
    obtain ⟨w3, hw3, r0, r1, r2, r3, r4, hs3, hB3, _⟩ := box_five wr (.int .u8 (x.1.1.toNat : Int)) (.int .u32 x.1.2.1) (.int .u32 x.1.2.2) (.int .i64 x.2.1) (.slice E x.2.2.length ce) 52
    have HI := Lib.hid (hIx.below hB3)
    have B3 := Lib.hid (hb.out.trans (hB3.mono hb.out.size))
    have O3 := Lib.hid (own_below hown hB3)
    have hmx := okP_may (mayN_item hmay.out hx)
    have hcx := Lib.hid (chkI_ok hmx)
    have hwx := Lib.hid (show wrI x = itB x by simp [wrI, hmx])
    have htk := Lib.hid (itsB_take hx)
    have hlx := Lib.hid (show (itB x).length ≤ 24 by have := (mayI_of hmx).2; rw [itB_length]; omega)
    replace hx := Lib.hid hx
    replace hs3 := Lib.hid hs3
    clear FX hB3 hinx hIx hown hby hmx
    unfold itV at *
    go_upto_region 8 with fail
    clear hw3 z0 z1 z2 z3 z4
    go_wp2_with fail
    with_reducible refine (itWrite_any _ x _ HI.out).mono ?_
    rintro e4 w4 ⟨u, rfl, hu, hb4⟩
    rw [hcx.out]
    rw [hwx.out] at hu
    obtain ⟨U, cu, rfl, _, _, hyu⟩ := rBy_byt (B := w4.heap.size) (fun p hp => hp.2.1) hu
    have B4 := B3.out.trans (hb4.mono B3.out.size)
    obtain ⟨v5, w5, hr5, o5, ba5⟩ := app_own_byt _ (3 + (itsB (n.2.take k)).length) (itB x).length cu _ (itB x) U w1.heap.size w4 (own_below O3.out hb4) hyu rfl (by have := hlx.out; omega) B4.size
    have B5 := Lib.hid (B4.trans ba5)
    have H5 := Lib.hid hr5
    have o5' := Lib.hid (show w5.ownsRow w1.heap.size 5 1 v5 (3 + (itsB (n.2.take (k + 1))).length) (u8s (headN n ++ itsB (n.2.take (k + 1)))) by
      rw [htk.out, List.length_append, ← List.append_assoc, ← Nat.add_assoc]
      exact o5)
    clear hu hb4 hyu hr5 o5 ba5 B4
    go_wp2_with (at_builtin; refine wpList_append_run rfl _ _ _ rfl rfl rfl H5.out ?_; clear H5)
    go_roundw
    case rel => exact ⟨k + 1, by omega, by go_num, o5'.out, B5.out⟩
    case measure => simp [intOf]; omega
end Go.Proofs.YtmdlgnlfgfhkmaaGreat

/-
  Package node: Read. Conditions: those that each lemma states.
-/
namespace Go.Proofs.YtmdlgnlfgfhkmaaGreat
open Go.RowKit

def lvlN (body : List UInt8) : Int := ((body[1]?.getD 0).toNat : Int)
def manyN (body : List UInt8) : Nat := (body[2]?.getD 0).toNat
theorem manyN_lt (body : List UInt8) : manyN body < 256 := (body[2]?.getD 0).toNat_lt
theorem lvlN_in (body : List UInt8) : In64 (lvlN body) := by
  have := (body[1]?.getD 0).toNat_lt
  unfold lvlN
  exact ⟨by omega, by omega⟩
def ndN (body : List UInt8) : Nd := (lvlN body, cutL (body.drop 3) (manyN body))
def rdN (body : List UInt8) : Bool := decide (body[0]?.getD 0 = 78) && ((cutTo (body.drop 3) (manyN body)).isSome && (mayN (ndN body) && noughtsB (cutR (body.drop 3) (manyN body))))
noncomputable def reN (b : List UInt8) : Int := if oe b = 0 then (if rdN (ob b) then 0 else 8) else oe b
noncomputable def reV (b : List UInt8) : Nd := if oe b = 0 then (if rdN (ob b) then ndN (ob b) else zeroN) else zeroN
theorem oe_zeroN {b : List UInt8} (h : oe b = 0) : b.length = 128 ∧ fits b ∧ ob b = b.drop 4 ∧ (ob b).length = 124 := by
  unfold oe at h
  by_cases h1 : b.length = 128
  · rw [if_pos h1] at h
    by_cases h2 : fits b
    · have : ob b = b.drop 4 := by unfold ob; rw [if_pos ⟨h1, h2⟩]
      exact ⟨h1, h2, this, by rw [this]; simp [h1]⟩
    · rw [if_neg h2] at h; cases h
  · rw [if_neg h1] at h; cases h
theorem reN_open {b : List UInt8} (h : oe b ≠ 0) : reN b = oe b ∧ reV b = zeroN := by
  unfold reN reV
  rw [if_neg h, if_neg h]
  exact ⟨rfl, rfl⟩
theorem reN_bad {b : List UInt8} (h : oe b = 0) (h' : rdN (ob b) = false) : reN b = 8 ∧ reV b = zeroN := by
  unfold reN reV
  rw [if_pos h, if_pos h, h']
  exact ⟨rfl, rfl⟩
theorem reN_good {b : List UInt8} (h : oe b = 0) (h' : rdN (ob b) = true) : reN b = 0 ∧ reV b = ndN (ob b) := by
  unfold reN reV
  rw [if_pos h, if_pos h, h']
  exact ⟨rfl, rfl⟩
theorem mayN_items {n : Nd} (h : mayN n = true) : n.2.length ≤ 5 := (mayN_of h).1.2.2.1

set_option maxRecDepth 100000 in
set_option maxHeartbeats 4000000 in
theorem nodeRead_any (v : Value) (b : List UInt8) (w : World) (h : rBy (Old w) w [v] b) :
    Calls Tryz.prog 91 #[v] w fun e w' => ∃ u, e = .returned (.tuple #[u, .int .i64 (reN b)]) ∧ Nod (New w.heap.size w') w' u (reV b) ∧ Below w.heap.size w w' := by
  obtain ⟨A, c, rfl, l1, m1, hy⟩ := rBy_byt (B := w.heap.size) (fun p hp => hp) h
  obtain ⟨n, hn⟩ : ∃ n, b.length = n := ⟨_, rfl⟩
  rw [hn] at l1 ⊢
  replace hn := Lib.hid hn
  obtain ⟨w0, hw0, b0, hs0, hB0⟩ := box_pair' w (.int .i64 0) (.slice none 0 0) 31
  have lt0 : w.heap.size < w0.heap.size := by omega
  have HB0 := Lib.hid hB0
  have HY := Lib.hid ((hy.below hB0).more hB0.size)
  -- a refusal, from whatever later world
  have hzero : Hid (∀ (er : Int) (W : World), reN b = er ∧ reV b = zeroN → Below w0.heap.size w0 W → ∃ W9, (W.setCell ⟨w.heap.size, 0, none⟩ (.int .i64 0)).setCell ⟨w.heap.size, 1, none⟩ (.slice none 0 0) = W9 ∧ W9.cell? ⟨w.heap.size, 0, none⟩ = some (.int .i64 0) ∧ W9.cell? ⟨w.heap.size, 1, none⟩ = some (.slice none 0 0) ∧ (∀ o, W.frozen? ⟨w.heap.size, o, none⟩ = false) ∧ W.cell? ⟨w.heap.size, 0, none⟩ = some (.int .i64 0) ∧ W.cell? ⟨w.heap.size, 1, none⟩ = some (.slice none 0 0) ∧
      (∃ u, Ending.returned (.tuple #[.agg #[.int .i64 0, .slice none 0 0], .int .i64 er]) = .returned (.tuple #[u, .int .i64 (reN b)]) ∧ Nod (New w.heap.size W9) W9 u (reV b) ∧ Below w.heap.size w W9)) := Lib.hid fun er W hre hW => by
    have bW := (hW.block w.heap.size lt0).trans b0
    obtain ⟨W9, e9, g9, gr9, gs9⟩ := put_two (u := .int .i64 0) (v := .slice none 0 0) bW
    obtain ⟨k0, k1, kf, _⟩ := two_cells g9
    obtain ⟨y0, y1, yf, _⟩ := two_cells bW
    have hBW := HB0.out.trans (hW.mono HB0.out.size)
    exact ⟨W9, e9, k0, k1, yf, y0, y1, _, by rw [hre.1], by rw [hre.2]; exact nod_zero _ _, hBW.grown gr9 hBW.size (fun q e => by cases e; omega)⟩
  replace b0 := Lib.hid b0
  replace hw0 := Lib.hid hw0
  clear hB0 hs0 h hy
  go_enter Tryz.func91, Tryz.ntmps91
  go_upto_region 1 with fail
  rw [hw0.out]
  clear hw0
  go_wp2_with fail
  with_reducible refine (open_any A n c b hn l1 m1 _ HY.out).mono ?_
  rintro e1 w1 ⟨v1, rfl, ho1, hb1⟩
  have B1 := Lib.hid hb1
  have hBW1 := Lib.hid (show w.heap.size ≤ w1.heap.size from Nat.le_trans (Nat.le_of_lt lt0) hb1.size)
  obtain ⟨er, hoe⟩ : ∃ er, oe b = er := ⟨_, rfl⟩
  rw [hoe]
  by_cases h0 : er = 0
  case neg =>
    have t0 : (er != 0) = true := by simpa using h0
    obtain ⟨W9, e9, k0, k1, yf, y0, y1, hfin⟩ := hzero.out er w1 (by rw [← hoe]; exact reN_open (by rw [hoe]; exact h0)) B1.out
    replace hfin := Lib.hid hfin
    replace h0 := Lib.hid h0
    replace hoe := Lib.hid hoe
    clear ho1 hb1
    go_wp2_with fail
    exact bodyPost_ret (v := .tuple #[.agg #[.int .i64 0, .slice none 0 0], .int .i64 er]) (by simp [results, Tryz.results91, go_sem, k0, k1]) rfl hfin.out
  subst h0
  obtain ⟨hlen, hfits, hob, hl124⟩ := oe_zeroN hoe
  have HZ := Lib.hid (fun W h hW => hzero.out 8 W (reN_bad hoe h) hW)
  have HG := Lib.hid (fun h => reN_good hoe h)
  have hr1 := own_by ho1
  obtain ⟨bd, hbd⟩ : ∃ bd, ob b = bd := ⟨_, rfl⟩
  rw [hbd] at hr1 HZ HG hl124
  replace hbd := Lib.hid hbd
  obtain ⟨Q, cq, rfl, n1, n2, hcell⟩ := rBy_open hr1
  rw [hl124] at n1 hcell hr1 ⊢
  obtain ⟨ad, rfl, hn0, hc0⟩ := hcell 0 (by omega)
  obtain ⟨_, e, hn1', hc1⟩ := hcell 1 (by omega)
  cases e
  obtain ⟨_, e, hn2', hc2⟩ := hcell 2 (by omega)
  cases e
  have z0 : w1.cell? ad = some (.int .u8 ((bd[0]?.getD 0).toNat : Int)) := by simpa [Addr.add] using hc0
  have z1 : w1.cell? ⟨ad.block, ad.off + 1, none⟩ = some (.int .u8 ((bd[1]?.getD 0).toNat : Int)) := by simpa [Addr.add] using hc1
  have z2 : w1.cell? ⟨ad.block, ad.off + 2, none⟩ = some (.int .u8 ((bd[2]?.getD 0).toNat : Int)) := by simpa [Addr.add] using hc2
  have ltb : ad.block < w1.heap.size := World.block_lt_of_cell? _ _ z0
  have hrest := Lib.hid (rBy_rest (stab_by.drop hr1) 3 (by omega))
  have hl := Lib.hid hl124
  replace hoe := Lib.hid hoe
  clear hfits hob hlen hc0 hc1 hc2 hn0 hn1' hn2' ho1 hb1 hcell hl124 hzero
  have hrd : Hid (rdN bd = (decide (bd[0]?.getD 0 = 78) && ((cutTo (bd.drop 3) (manyN bd)).isSome && (mayN (ndN bd) && noughtsB (cutR (bd.drop 3) (manyN bd)))))) := Lib.hid rfl
  obtain ⟨x0, hx0⟩ : ∃ x, bd[0]?.getD 0 = x := ⟨_, rfl⟩
  rw [hx0] at z0 hrd
  replace hx0 := Lib.hid hx0
  by_cases h78 : (x0.toNat : Int) = 78
  case neg =>
    have t0 : ((x0.toNat : Int) != 78) = true := by simpa using h78
    obtain ⟨W9, e9, k0, k1, yf, y0, y1, hfin⟩ := HZ.out w1 (by rw [hrd.out]; simp; intro e; exact absurd (by rw [e]; rfl) h78) B1.out
    replace hfin := Lib.hid hfin
    replace h78 := Lib.hid h78
    clear hr1
    go_wp2_with fail
    exact bodyPost_ret (v := .tuple #[.agg #[.int .i64 0, .slice none 0 0], .int .i64 8]) (by simp [results, Tryz.results91, go_sem, k0, k1]) rfl hfin.out
  have t0 : ((x0.toNat : Int) != 78) = false := by simpa using h78
  have h78' := Lib.hid (show x0 = 78 from UInt8.toNat.inj (by show x0.toNat = 78; omega))
  replace h78 := Lib.hid h78
  obtain ⟨mn, hmn⟩ : ∃ m, manyN bd = m := ⟨_, rfl⟩
  have hmlt := manyN_lt bd
  rw [hmn] at hmlt hrd
  have z2' : w1.cell? ⟨ad.block, ad.off + 2, none⟩ = some (.int .u8 (mn : Int)) := by rw [← hmn]; exact z2
  have hmn' := Lib.hid hmn
  clear z2 hr1 hmn
  have had3 : ad.add 3 = ⟨ad.block, ad.off + 3, none⟩ := by simp [Addr.add]
  rw [had3] at hrest
  have hres := Lib.hid (fun W (hW : Below w1.heap.size w1 W) => nodeCut_any _ (bd.drop 3) mn hmlt W (stab_by.old hrest.out hW))
  go_upto_region 6 with fail
  obtain ⟨L, hL⟩ : ∃ L, cutL (bd.drop 3) mn = L := ⟨_, rfl⟩
  obtain ⟨R, hR⟩ : ∃ R, cutR (bd.drop 3) mn = R := ⟨_, rfl⟩
  obtain ⟨F, hF⟩ : ∃ F, cutF (bd.drop 3) mn = F := ⟨_, rfl⟩
  rw [hL, hR, hF] at hres
  have c3 : ¬ cq = 3 := by omega
  have c4 : (3 : Int) ≤ cq := by omega
  have hwm : IntKind.i64.wrap (mn : Int) = (mn : Int) := IntWalk.i64_in _ (by omega)
  refine wp_region_fx (by kernel_rfl) (fun W => Below w1.heap.size w1 W) (fun i => match i with
      | 6 => some (fun v W => ∃ A c u, v = .tuple #[.slice A L.length c, u, .int .i64 F] ∧ rIts (New w1.heap.size W) W [.slice A L.length c] L ∧ rBy (Old W) W [u] R)
      | 7 => some (fun v W => ∃ A c u, v = .tuple #[.slice A L.length c, u, .int .i64 F] ∧ rIts (New w1.heap.size W) W [.slice A L.length c] L ∧ rBy (Old W) W [u] R)
      | 8 => some (fun v W => rIts (New w1.heap.size W) W [v] L)
      | 9 => some (fun v W => rBy (Old W) W [v] R)
      | _ => none) (fun i => match i with
      | 10 => some (.int .i64 F)
      | _ => none) (by kernel_rfl) (Below.refl _ _).drew (fun w w' h hb => h.trans (hb.mono h.size)) ?tst ?_
  case tst =>
    intro j φ x W W' hp hx hb
    match j, hp with
    | 6, hp =>
      cases hp
      obtain ⟨A, c, u, e, h1, h2⟩ := hx
      exact ⟨A, c, u, e, stab_its.new h1 (Nat.le_refl _) hb, stab_by.old h2 hb⟩
    | 7, hp =>
      cases hp
      obtain ⟨A, c, u, e, h1, h2⟩ := hx
      exact ⟨A, c, u, e, stab_its.new h1 (Nat.le_refl _) hb, stab_by.old h2 hb⟩
    | 8, hp => cases hp; exact stab_its.new hx (Nat.le_refl _) hb
    | 9, hp => cases hp; exact stab_by.old hx hb
  repeat (first
    | (refine wpAs_skip rfl ?_; simp only [Act.put, List.setIfInBounds_toArray, List.set_cons_zero, List.set_cons_succ])
    | (refine wpAs_pure (v := ?_) rfl rfl ?_ ?_; rotate_left; (intro W hC hE; clear hE; (have y2 := (hC.cell (p := ⟨ad.block, ad.off + 2, none⟩) ltb).trans z2'); clear hC; go_simp; done); simp only [Act.put, List.setIfInBounds_toArray, List.set_cons_zero, List.set_cons_succ])
    | (refine wpAs_pure (v := ?_) rfl rfl ?_ ?_; rotate_left; (intro W hC hE; clear hE; (have y2 := (hC.cell (p := ⟨ad.block, ad.off + 2, none⟩) ltb).trans z2'); clear hC; go_simp; with_reducible rfl); simp only [Act.put, List.setIfInBounds_toArray, List.set_cons_zero, List.set_cons_succ]))
  refine wpAs_act rfl rfl ?_ ?_
  · intro W hC hE
    refine does_enter (f := 99) (args := #[.slice (some ⟨ad.block, ad.off + 3, none⟩) 121 (cq - 3), .int .i64 mn]) ?_ ?_
    · go_simp
    · refine (hres.out W hC).mono ?_
      rintro e W' ⟨A, c, u, rfl, h1, h2, hw⟩
      exact ⟨_, rfl, ⟨A, c, u, rfl, stab_its.mono h1 hC.size, h2⟩, hw⟩
  simp only [Act.put, List.setIfInBounds_toArray, List.set_cons_zero, List.set_cons_succ, envAdd]
  intro x30
  refine wpAs_act rfl rfl ?_ ?_
  · intro W hC hE
    have hx := hE.1 rfl
    clear hE
    go_simp
    exact ⟨hx, Below.refl _ _⟩
  simp only [Act.put, List.setIfInBounds_toArray, List.set_cons_zero, List.set_cons_succ, envAdd]
  intro x23
  refine wpAs_act rfl rfl ?_ ?_
  · intro W hC hE
    obtain ⟨A, c, u, rfl, h1, h2⟩ := hE.1 rfl
    clear hE
    have H1 := Lib.hid h1
    clear h1 h2
    go_simp
    exact ⟨H1.out, Below.refl _ _⟩
  simp only [Act.put, List.setIfInBounds_toArray, List.set_cons_zero, List.set_cons_succ, envAdd]
  intro x31
  refine wpAs_act rfl rfl ?_ ?_
  · intro W hC hE
    obtain ⟨A, c, u, rfl, h1, h2⟩ := hE.2.1 rfl
    clear hE
    have H2 := Lib.hid h2
    clear h1 h2
    go_simp
    exact ⟨H2.out, Below.refl _ _⟩
  simp only [Act.put, List.setIfInBounds_toArray, List.set_cons_zero, List.set_cons_succ, envAdd]
  intro x32
  refine wpAs_fixed rfl rfl rfl ?_ ?_
  · intro W hC hE
    obtain ⟨A, c, u, rfl, h1, h2⟩ := hE.2.2.1 rfl
    clear hE h1 h2
    go_simp
    exact ⟨rfl, Below.refl _ _⟩
  simp only [Act.put, List.setIfInBounds_toArray, List.set_cons_zero, List.set_cons_succ]
  repeat (first
    | (refine wpAs_skip rfl ?_; simp only [Act.put, List.setIfInBounds_toArray, List.set_cons_zero, List.set_cons_succ])
    | (refine wpAs_pure (v := ?_) rfl rfl ?_ ?_; rotate_left; (intro W hC hE; clear hE; skip; clear hC; go_simp; done); simp only [Act.put, List.setIfInBounds_toArray, List.set_cons_zero, List.set_cons_succ])
    | (refine wpAs_pure (v := ?_) rfl rfl ?_ ?_; rotate_left; (intro W hC hE; clear hE; skip; clear hC; go_simp; with_reducible rfl); simp only [Act.put, List.setIfInBounds_toArray, List.set_cons_zero, List.set_cons_succ]))
  refine wpAs_end fun wc hC hE => ?_
  have H31 := hE.2.1
  have H32 := hE.1
  clear hE
  have BC := Lib.hid (B1.out.trans (hC.mono B1.out.size))
  have y1 := (hC.cell (p := ⟨ad.block, ad.off + 1, none⟩) ltb).trans z1
  clear hC
  obtain ⟨X, cx, rfl, n3, n4⟩ := its_open H31
  obtain ⟨Y, cy, rfl, n5, n6, hy32⟩ := rBy_byt (B := wc.heap.size) (fun p hp => hp) H32
  cases hct : cutTo (bd.drop 3) mn with
  | none =>
    have hF8 : F = 8 := by rw [← hF]; simp [cutF, hct]
    subst hF8
    obtain ⟨W9, e9, k0, k1, yf, u0, u1, hfin⟩ := HZ.out wc (by rw [hrd.out, hct]; simp) BC.out
    replace hfin := Lib.hid hfin
    replace hct := Lib.hid hct
    replace hF := Lib.hid hF
    clear H31 H32 hy32
    go_wp2_with fail
    exact bodyPost_ret (v := .tuple #[.agg #[.int .i64 0, .slice none 0 0], .int .i64 8]) (by simp [results, Tryz.results91, go_sem, k0, k1]) rfl hfin.out
  | some p =>
    obtain ⟨l', r'⟩ := p
    have hF0 : F = 0 := by rw [← hF]; simp [cutF, hct]
    subst hF0
    have hsome := Lib.hid (show (cutTo (bd.drop 3) mn).isSome = true by rw [hct]; rfl)
    replace hct := Lib.hid hct
    replace hF := Lib.hid hF
    replace hL := Lib.hid hL
    replace hR := Lib.hid hR
    obtain ⟨lv, hlv⟩ : ∃ lv, lvlN bd = lv := ⟨_, rfl⟩
    have hlin := Lib.hid (lvlN_in bd)
    have hnd := Lib.hid (show ndN bd = (lv, L) by rw [ndN, hlv, hmn'.out, hL.out])
    rw [hlv] at hlin
    have y1' : wc.cell? ⟨ad.block, ad.off + 1, none⟩ = some (.int .u8 lv) := by rw [← hlv]; exact y1
    have hlw : IntKind.i64.wrap lv = lv := IntWalk.i64_in _ (by have := hlin.out; exact ⟨this.1, this.2⟩)
    replace hlv := Lib.hid hlv
    clear y1
    obtain ⟨w2, hw2, b2, hs2, hB2⟩ := box_pair' wc (.int .i64 lv) (.slice X L.length cx) 31
    obtain ⟨f1, f2, _, lt2⟩ := two_cells b2
    have N2 : Nod (New w1.heap.size w2) w2 (.agg #[.int .i64 lv, .slice X L.length cx]) (lv, L) := ⟨_, rfl, hlin.out, stab_its.new H31 (Nat.le_refl _) hB2⟩
    have HN2 := Lib.hid N2
    have B2 := Lib.hid (BC.out.trans (hB2.mono BC.out.size))
    have HY2 := Lib.hid ((hy32.below hB2).more hB2.size)
    replace hs2 := Lib.hid hs2
    replace b2 := Lib.hid b2
    clear H31 H32 hy32 N2 hB2
    go_upto_region 10 with fail
    clear hw2 y1'
    go_wp2_with fail
    with_reducible refine (checkN_any _ (lv, L) _ HN2.out.drop).mono ?_
    rintro e3 w3 ⟨rfl, hb3⟩
    have B3 := Lib.hid (B2.out.trans (hb3.mono B2.out.size))
    have HN3 := Lib.hid (HN2.out.new (Nat.le_refl _) hb3)
    have g1 := (hb3.cell (p := ⟨wc.heap.size, 0, none⟩) lt2).trans f1
    have g2 := (hb3.cell (p := ⟨wc.heap.size, 1, none⟩) lt2).trans f2
    have HY3 := Lib.hid ((HY2.out.below hb3).more hb3.size)
    have lt3 : wc.heap.size < w3.heap.size := Nat.lt_of_lt_of_le lt2 hb3.size
    clear hb3 f1 f2
    rcases bool_two (mayN (lv, L)) with hm | hm
    · have hc := Lib.hid (chkN_bad hm)
      obtain ⟨W9, e9, k0, k1, yf, u0, u1, hfin⟩ := HZ.out w3 (by rw [hrd.out, hnd.out, hm]; simp) B3.out
      replace hfin := Lib.hid hfin
      replace hm := Lib.hid hm
      rw [hc.out]
      go_wp2_with fail
      exact bodyPost_ret (v := .tuple #[.agg #[.int .i64 0, .slice none 0 0], .int .i64 8]) (by simp [results, Tryz.results91, go_sem, k0, k1]) rfl hfin.out
    have hc := Lib.hid (chkN_ok hm)
    rw [hc.out]
    obtain ⟨rl, hrl⟩ : ∃ n, R.length = n := ⟨_, rfl⟩
    rw [hrl] at n5 ⊢
    replace hrl := Lib.hid hrl
    go_wp2_with fail
    with_reducible refine (noughts_any Y rl cy R hrl n5 n6 _ HY3.out).mono ?_
    rintro e4 w4 ⟨rfl, rfl⟩
    rcases bool_two (noughtsB R) with hz | hz
    · obtain ⟨W9, e9, k0, k1, yf, u0, u1, hfin⟩ := HZ.out w3 (by rw [hrd.out, hnd.out, hR.out, hz]; simp) B3.out
      replace hfin := Lib.hid hfin
      rw [hz]
      replace hz := Lib.hid hz
      replace hm := Lib.hid hm
      go_wp2_with fail
      exact bodyPost_ret (v := .tuple #[.agg #[.int .i64 0, .slice none 0 0], .int .i64 8]) (by simp [results, Tryz.results91, go_sem, k0, k1]) rfl hfin.out
    · have hgood := Lib.hid (HG.out (by rw [hrd.out, hnd.out, hR.out, hz, hm, hsome.out, h78'.out]; rfl))
      have bW := (B3.out.block w.heap.size lt0).trans b0.out
      obtain ⟨W9, e9, g9, gr9, gs9⟩ := put_two (u := .int .i64 lv) (v := .slice X L.length cx) bW
      obtain ⟨k0, k1, kf, _⟩ := two_cells g9
      obtain ⟨u0, u1, yf, _⟩ := two_cells bW
      have hBW := HB0.out.trans (B3.out.mono HB0.out.size)
      have hfin : Hid (Nod (New w.heap.size W9) W9 (.agg #[.int .i64 lv, .slice X L.length cx]) (reV b) ∧ Below w.heap.size w W9) := Lib.hid ⟨by
        rw [hgood.out.2, hnd.out]
        exact (HN3.out.grown gr9 (fun q e => by cases e; exact Nat.lt_of_lt_of_le lt0 B1.out.size)).map fun p v hp hc => ⟨⟨Nat.le_trans hBW1.out hp.1, hp.2⟩, hc⟩, hBW.grown gr9 hBW.size (fun q e => by cases e; omega)⟩
      rw [hz]
      replace hz := Lib.hid hz
      replace hm := Lib.hid hm
      replace bW := Lib.hid bW
      replace g9 := Lib.hid g9
      clear gr9
      go_wp2_with fail
      exact bodyPost_ret (v := .tuple #[.agg #[.int .i64 lv, .slice X L.length cx], .int .i64 0]) (by simp [results, Tryz.results91, go_sem, k0, k1]) rfl ⟨_, by rw [hgood.out.1], hfin.out.1, hfin.out.2⟩
end Go.Proofs.YtmdlgnlfgfhkmaaGreat
