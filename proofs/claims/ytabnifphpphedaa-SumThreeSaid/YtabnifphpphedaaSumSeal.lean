/-
  Package sum: Seal, Open. Conditions: those that each lemma states.
-/
import Derived.Test.YtabnifphpphedaaSumOf
import Derived.Test.YtabnifphpphedaaGet
import Derived.Test.YtabnifphpphedaaClone
namespace Go.Proofs.Ytabnifphpphedaa
open Go.RowKit

/-- Bytes, and noughts behind, 124 in all; these sealed. -/
def padN (xs : List UInt8) : List UInt8 := xs ++ zeros (124 - xs.length)
def sealN (xs : List UInt8) : List UInt8 := le 4 (crc (padN xs) : Nat) ++ padN xs
theorem padN_length {xs : List UInt8} (h : xs.length ≤ 124) : (padN xs).length = 124 := by simp [padN, zeros]; omega
theorem sealN_length {xs : List UInt8} (h : xs.length ≤ 124) : (sealN xs).length = 128 := by simp [sealN, le_length, padN_length h]
theorem splice_pad {xs : List UInt8} (h : xs.length ≤ 124) : splice (zeros 128) 4 xs = zeros 4 ++ padN xs := by
  simp only [splice, zeros, padN, List.take_replicate, List.drop_replicate]
  rw [show min 4 128 = 4 from rfl, show 128 - (4 + xs.length) = 124 - xs.length by omega]
theorem splice_seal (ys zs : List UInt8) (h : ys.length = 4) : splice (zeros 4 ++ zs) 0 ys = ys ++ zs := by
  simp only [splice, List.take_zero, List.nil_append, Nat.zero_add, h]
  rw [List.drop_left' (by simp [zeros])]

theorem seal_no (A : Option Addr) (len cap : Nat) (hl : 124 < len) (w : World) :
    Calls Try.prog 9 #[.slice A len cap] w fun e w' => e = .returned (.tuple #[.slice none 0 0, .int .i64 3]) ∧ w = w' := by
  go_enter Try.func9, Try.ntmps9
  go_wp2
  go_ret2
  exact ⟨rfl, rfl⟩
theorem seal_ok (A : Option Addr) (len cap : Nat) (xs : List UInt8) (hlen : Hid (xs.length = len)) (hl : len ≤ 124) (hlc : len ≤ cap) (hcap : cap ≤ 9223372036854775807) (w : World) (hx : Byt w w.heap.size A xs) :
    Calls Try.prog 9 #[.slice A len cap] w fun e w' => e = .returned (.tuple #[.slice (some ⟨w.heap.size, 0, none⟩) 128 128, .int .i64 0]) ∧ Row w' w.heap.size (sealN xs) ∧ Below w.heap.size w w' := by
  have hmk : (Instr.makeSlice 22 (.int .i64 128) (.int .i64 128)).run Try.prog w = .ok (.slice (some ⟨w.heap.size, 0, none⟩) 128 128) (w.alloc (.cells (rowA (zeros 128)) 5)) := make_bytes 128 (by omega) w
  have hB1 := balloc (Below.refl w.heap.size w) (.cells (rowA (zeros 128)) 5)
  obtain ⟨w2, hc2, hR2, hB2⟩ := copy_byt 3 (off := 4) (dLen := 124) (dCap := 124) (sLen := len) (sCap := cap) (Row.new w (zeros 128)) (hx.below hB1) hlen.out (by simp [zeros]; omega)
  rw [Nat.min_eq_left hl, List.take_of_length_le (by rw [hlen.out]; omega), splice_pad (by rw [hlen.out]; omega)] at hR2
  rw [Nat.min_eq_left hl] at hc2
  have hp := hR2.tail 4 (by simp [zeros])
  rw [List.drop_left' (by simp [zeros])] at hp
  have hB := hB1.trans hB2
  have hpl : Hid ((padN xs).length = 124) := Lib.hid (padN_length (by rw [hlen.out]; omega))
  have HR2 := Lib.hid hR2
  clear hR2 hx hB1 hB2
  go_enter Try.func9, Try.ntmps9
  go_wp2_with fail
  refine (of_any _ _ 124 _ hpl (by omega) (by omega) _ hp).mono ?_
  rintro e w3 ⟨rfl, hb3⟩
  go_wp2_with fail
  refine (four_any _ (by omega) (by have := crc_lt (padN xs); omega) _).mono ?_
  rintro e w4 ⟨F, rfl, hf, hb4⟩
  have hb24 := bstep hb3 hb4
  obtain ⟨w5, hc5, hR5, hB5⟩ := copy_byt 3 (off := 0) (dLen := 128) (dCap := 128) (sLen := 4) (sCap := 4) (HR2.out.after hb24) hf (le_length 4 _) (by simp [zeros])
  rw [show min 4 128 = 4 from rfl] at hc5 hR5
  rw [List.take_of_length_le (by rw [le_length]; omega), splice_seal _ _ (le_length 4 _)] at hR5
  have hBe := (hB.trans (hb24.mono hB.size)).trans hB5
  have HR5 : Hid (Row w5 w.heap.size (sealN xs)) := Lib.hid hR5
  clear hR5 HR2 hp hb3 hb4 hb24 hB hB5 hf hmk hc2
  go_wp2_with fail
  go_ret2
  exact ⟨rfl, HR5.out, hBe⟩

theorem open_no (A : Option Addr) (len cap : Nat) (hl : len ≠ 128) (w : World) :
    Calls Try.prog 10 #[.slice A len cap] w fun e w' => e = .returned (.tuple #[.slice none 0 0, .int .i64 3]) ∧ w = w' := by
  go_enter Try.func10, Try.ntmps10
  go_wp2
  go_ret2
  exact ⟨rfl, rfl⟩
def fits (xs : List UInt8) : Prop := num (xs.take 4) = (crc (xs.drop 4) : Nat)
theorem open_bad (ad : Addr) (cap : Nat) (xs : List UInt8) (hlen : Hid (xs.length = 128)) (hlc : 128 ≤ cap) (hcap : cap ≤ 9223372036854775807) (w : World) (hx : Byt w w.heap.size (some ad) xs) (hn : ¬ fits xs) :
    Calls Try.prog 10 #[.slice (some ad) 128 cap] w fun e w' => e = .returned (.tuple #[.slice none 0 0, .int .i64 8]) ∧ Below w.heap.size w w' := by
  have hp : Byt w w.heap.size (some (ad.add 4)) (xs.drop 4) := by
    obtain ⟨ad', e, hp⟩ := hx.part (k := 4) (n := 124) (by rw [hlen.out]; omega) (by omega)
    cases e
    rwa [List.take_of_length_le (by simp [hlen.out])] at hp
  have hpl : Hid ((xs.drop 4).length = 124) := Lib.hid (by simp [hlen.out])
  have hb := crc_lt (xs.drop 4)
  have hd : ((num (xs.take 4) : Int) == (crc (xs.drop 4) : Nat)) = false := by simpa [fits] using hn
  have hd' : ((num (xs.take 4) : Int) != (crc (xs.drop 4) : Nat)) = true := by simpa [fits] using hn
  have HD := Lib.hid hd
  have HD' := Lib.hid hd'
  clear hn hd hd'
  go_enter Try.func10, Try.ntmps10
  go_wp2_with fail
  refine (getFour_ok _ _ cap 0 xs hlen (by omega) (by omega) (by omega) _ hx).mono ?_
  rintro e w1 ⟨rfl, hb1⟩
  rw [List.drop_zero]
  have hp1 := (hp.below hb1).more hb1.size
  go_wp2_with fail
  refine (of_any _ _ _ _ hpl (by omega) (by omega) _ hp1).mono ?_
  rintro e w2 ⟨rfl, hb2⟩
  generalize num (xs.take 4) = q at *
  generalize crc (xs.drop 4) = r at *
  have hd := HD.out
  have hd' := HD'.out
  go_wp2_with fail
  go_ret2
  exact ⟨rfl, bstep hb1 hb2⟩
theorem own_base {w : World} {B B' : Nat} {e : TypeId} {v : Value} {n : Nat} {xs : List Value} (h : w.ownsRow B e 1 v n xs) (hb : B' ≤ B) : w.ownsRow B' e 1 v n xs := by
  refine ⟨h.1, h.2.imp id ?_⟩
  rintro ⟨g, cap, cur, h1, h2, h3⟩
  exact ⟨g, cap, cur, h1, Nat.le_trans hb h2, h3⟩
theorem open_ok (ad : Addr) (cap : Nat) (xs : List UInt8) (hlen : Hid (xs.length = 128)) (hlc : 128 ≤ cap) (hcap : cap ≤ 9223372036854775807) (w : World) (hx : Byt w w.heap.size (some ad) xs) (hn : fits xs) :
    Calls Try.prog 10 #[.slice (some ad) 128 cap] w fun e w' => ∃ v, e = .returned (.tuple #[v, .int .i64 0]) ∧ w'.ownsRow w.heap.size 5 1 v 124 (u8s (xs.drop 4)) ∧ Below w.heap.size w w' := by
  have hp : Byt w w.heap.size (some (ad.add 4)) (xs.drop 4) := by
    obtain ⟨ad', e, hp⟩ := hx.part (k := 4) (n := 124) (by rw [hlen.out]; omega) (by omega)
    cases e
    rwa [List.take_of_length_le (by simp [hlen.out])] at hp
  have hpl : Hid ((xs.drop 4).length = 124) := Lib.hid (by simp [hlen.out])
  have hb := crc_lt (xs.drop 4)
  have HN : Hid (num (xs.take 4) = (crc (xs.drop 4) : Nat)) := Lib.hid hn
  clear hn
  go_enter Try.func10, Try.ntmps10
  go_wp2_with fail
  refine (getFour_ok _ _ cap 0 xs hlen (by omega) (by omega) (by omega) _ hx).mono ?_
  rintro e w1 ⟨rfl, hb1⟩
  rw [List.drop_zero, HN.out]
  have hp1 := (hp.below hb1).more hb1.size
  go_wp2_with fail
  refine (of_any _ _ _ _ hpl (by omega) (by omega) _ hp1).mono ?_
  rintro e w2 ⟨rfl, hb2⟩
  generalize crc (xs.drop 4) = r at *
  have hp2 := (hp1.below hb2).more hb2.size
  go_wp2_with fail
  refine (clone_some _ _ _ _ hpl (by omega) _ hp2).mono ?_
  rintro e w3 ⟨v, rfl, hown, _, hb3⟩
  have hB := bstep (bstep hb1 hb2) hb3
  have hsz := Nat.le_trans hb1.size hb2.size
  have HO := Lib.hid (own_base hown hsz)
  clear hown hp hp1 hp2 hx hb1 hb2 hb3 hsz
  go_wp2_with fail
  go_ret2
  exact ⟨v, rfl, HO.out, hB⟩
theorem fits_seal (xs : List UInt8) : fits (sealN xs) := by
  unfold fits sealN
  rw [List.take_left' (le_length 4 _), List.drop_left' (le_length 4 _)]
  exact num_le 4 _ (by omega) (by have := crc_lt (padN xs); simp; omega)
theorem seal_drop (xs : List UInt8) : (sealN xs).drop 4 = padN xs := by
  unfold sealN
  rw [List.drop_left' (le_length 4 _)]
theorem padN_full {xs : List UInt8} (h : xs.length = 124) : padN xs = xs := by simp [padN, zeros, h]
theorem seal_back {xs : List UInt8} (h : xs.length = 128) (hf : fits xs) : sealN (xs.drop 4) = xs := by
  unfold fits at hf
  unfold sealN
  have e := le_num (xs.take 4)
  rw [show (xs.take 4).length = 4 by simp [h]] at e
  rw [padN_full (by simp [h]), ← hf, e]
  exact List.take_append_drop 4 xs
end Go.Proofs.Ytabnifphpphedaa
