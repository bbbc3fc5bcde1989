/-
  The document's answers of layer 2: the contracts of package scionryref02. Conditions: those that each lemma states.
-/
import Derived.Test.YtabnifphpphedaaSumSeal
import Derived.Test.YtabnifphpphedaaRef01
namespace Go.Proofs.Ytabnifphpphedaa
open Go.RowKit

set_option maxHeartbeats 800000 in
theorem halved_any (s m : Nat) (h : s < 4294967296) (hm : m ≤ 1000) (w : World) :
    Calls Try.prog 22 #[.int .u32 s, .int .i64 m] w fun e w' => e = .returned (.int .u32 (halvesN m s)) ∧ w = w' := by
  go_enter Try.func22, Try.ntmps22
  go_wp2
  go_loop [0, 5] (fun t i => ∃ k : Nat, k ≤ m ∧ i = .int .i64 k ∧ t = .int .u32 (halvesN k s)) (fun _ i => m - (intOf i).toNat)
  case atStart => exact ⟨0, by omega, rfl, rfl⟩
  case round =>
    obtain ⟨k, hk, rfl, rfl⟩ := hrel
    have hq := halvesN_lt k h
    by_cases hlt : k < m
    · have hh := Lib.hid (halvesN_succ k s)
      generalize halvesN k s = q at *
      rcases (by omega : q % 2 = 1 ∨ q % 2 = 0) with h1 | h1
      · have e : Hid (halfN q = q / 2 ^^^ 3988292384) := Lib.hid (if_pos h1)
        have h1' : (q : Int) % 2 = 1 := by omega
        have hx := bxor (q / 2) 3988292384 ((q : Int) / 2) 3988292384 (by omega) (by omega) (by omega) (by omega)
        clear h1
        go_wp2
        go_round
        case rel => exact ⟨k + 1, by omega, by go_num, by rw [hh.out, e.out]⟩
        case measure => simp [intOf]; omega
      · have e : Hid (halfN q = q / 2) := Lib.hid (if_neg (by omega))
        have h1' : (q : Int) % 2 = 0 := by omega
        clear h1
        go_wp2
        go_round
        case rel => exact ⟨k + 1, by omega, by go_num, by rw [hh.out, e.out]; go_num⟩
        case measure => simp [intOf]; omega
    · obtain rfl : k = m := by omega
      go_wp2
      go_ret
      exact ⟨rfl, rfl⟩

set_option maxRecDepth 100000 in
set_option maxHeartbeats 1600000 in
theorem ofRef_ad (ad : Addr) (len cap : Nat) (xs : List UInt8) (hlen : Hid (xs.length = len)) (hlc : len ≤ cap) (hcap : cap ≤ 9223372036854775807) (w : World) (hbl : ad.block < w.heap.size) (hc : Hid (∀ j, j < len → w.cell? (ad.add j) = some (.int .u8 ((xs[j]?.getD 0).toNat : Int)))) :
    Calls Try.prog 15 #[.slice (some ad) len cap] w fun e w' => e = .returned (.int .u32 (crc xs : Nat)) ∧ Below w.heap.size w w' := by
  have h0 : #[Value.int .u32 0, .int .u32 0, .int .u32 0, .int .u32 0, .int .u32 0, .int .u32 0, .int .u32 0, .int .u32 0, .int .u32 0, .int .u32 0, .int .u32 0, .int .u32 0, .int .u32 0, .int .u32 0, .int .u32 0, .int .u32 0] = tabV 0 := by kernel_rfl
  have H0 := Lib.hid h0
  clear h0
  go_enter Try.func15, Try.ntmps15
  go_wp2
  rw [H0.out]
  go_loopw [4] (fun i wr => ∃ k : Nat, k ≤ 16 ∧ i = .int .i64 k ∧ wr.heap.size = w.heap.size + 1 ∧ wr.heap[w.heap.size]? = some (.cells (tabV k) 40 (0, 0)) ∧ Below w.heap.size w wr)
    (fun i _ => 16 - (intOf i).toNat)
  case atStart => exact ⟨0, by omega, rfl, by simp, heap_alloc_new w _, balloc (Below.refl _ _) _⟩
  case round =>
    obtain ⟨k, hk, rfl, hs, hT, hB⟩ := hrel
    by_cases hlt : k < 16
    · have hc : wr.cell? ⟨w.heap.size, k, none⟩ = some (.int .u32 0) := by rw [cell_of_row _ _ _ _ _ _ hT]; simp [tabV, hlt]
      have hf : wr.frozen? ⟨w.heap.size, k, none⟩ = false := frozen_of_row _ _ _ _ _ hT
      go_wp2_with (go_at_call 22; refine (halved_any k 4 (by omega) (by omega) _).mono ?_; rintro e w' ⟨rfl, rfl⟩)
      exact ⟨⟨k + 1, by omega, by go_num, by simpa using hs, (heap_setCell_same _ _ _ _ _ _ hT).trans (by rw [← tabV_set k hlt]; rfl), hB.setCell (by simp) _⟩, by simp [intOf]; omega⟩
    · obtain rfl : k = 16 := by omega
      have HT := Lib.hid hT
      clear hT hs
      go_wp2
      go_loop [5, 6] (fun s i => ∃ k : Nat, k ≤ len ∧ i = .int .i64 k ∧ s = .int .u32 (foldN 4294967295 (xs.take k) : Nat)) (fun _ i => len - (intOf i).toNat)
      case atStart => exact ⟨0, by omega, rfl, rfl⟩
      case round =>
        obtain ⟨k, hk, rfl, rfl⟩ := hrel
        have hq := foldN_lt (s := 4294967295) (xs.take k) (by omega)
        by_cases hlt : k < len
        · have hs := Lib.hid (take_succ_fold 4294967295 xs k (by rw [hlen.out]; exact hlt))
          have hcx := (hB.cell (p := ad.add k) (by rw [add_block]; exact hbl)).trans (hc.out k hlt)
          have hxb := (xs[k]?.getD 0).toNat_lt
          have hx1 := bxor (foldN 4294967295 (xs.take k)) (xs[k]?.getD 0).toNat _ _ rfl rfl hq (by omega)
          have hr1 := xor_lt32 hq (by omega : (xs[k]?.getD 0).toNat < 4294967296)
          generalize xs[k]?.getD 0 = c at *
          generalize foldN 4294967295 (xs.take k) = q at *
          generalize q ^^^ c.toNat = r1 at *
          have hc1 : wr.cell? ⟨w.heap.size, r1 % 16, none⟩ = some (.int .u32 (fourN (r1 % 16))) := by rw [cell_of_row _ _ _ _ _ _ HT.out]; exact tabV_get 16 _ (by omega) (by omega)
          have hx2 := bxor (r1 / 16) (fourN (r1 % 16)) ((r1 : Int) / 16) (fourN (r1 % 16)) (by omega) rfl (by omega) (fourN_lt (by omega))
          have hr2 := nibN_lt hr1
          have he2 : (r1 / 16) ^^^ fourN (r1 % 16) = nibN r1 := Nat.xor_comm _ _
          rw [he2] at hx2
          clear he2
          generalize nibN r1 = r2 at *
          have hc2 : wr.cell? ⟨w.heap.size, r2 % 16, none⟩ = some (.int .u32 (fourN (r2 % 16))) := by rw [cell_of_row _ _ _ _ _ _ HT.out]; exact tabV_get 16 _ (by omega) (by omega)
          have hx3 := bxor (r2 / 16) (fourN (r2 % 16)) ((r2 : Int) / 16) (fourN (r2 % 16)) (by omega) rfl (by omega) (fourN_lt (by omega))
          have hr3 := nibN_lt hr2
          have he3 : (r2 / 16) ^^^ fourN (r2 % 16) = nibN r2 := Nat.xor_comm _ _
          rw [he3] at hx3
          clear he3
          generalize nibN r2 = r3 at *
          have hf1 : fourN (r1 % 16) < 4294967296 := fourN_lt (by omega)
          have hf2 : fourN (r2 % 16) < 4294967296 := fourN_lt (by omega)
          generalize fourN (r1 % 16) = f1 at *
          generalize fourN (r2 % 16) = f2 at *
          have hm1 : ((r1 : Int) % 16).toNat = r1 % 16 := by omega
          have hm2 : ((r2 : Int) % 16).toNat = r2 % 16 := by omega
          have hm3 : r1 % 16 < 16 := by omega
          have hm4 : r2 % 16 < 16 := by omega
          clear hB
          go_wp2
          go_round
          case rel => exact ⟨k + 1, by omega, by go_num, by rw [hs.out]⟩
          case measure => simp [intOf]; omega
        · obtain rfl : k = len := by omega
          have he := Lib.hid (bxor _ 4294967295 _ 4294967295 rfl rfl hq (by omega))
          have ht := Lib.hid (List.take_of_length_le (l := xs) (Nat.le_of_eq hlen.out))
          go_wp2
          go_ret
          exact ⟨ret_int (he.out.trans (by rw [ht.out]; rfl)), hB⟩
set_option maxHeartbeats 800000 in
theorem ofRef_nil (A : Option Addr) (cap : Nat) (w : World) :
    Calls Try.prog 15 #[.slice A 0 cap] w fun e w' => e = .returned (.int .u32 0) ∧ Below w.heap.size w w' := by
  have h0 : #[Value.int .u32 0, .int .u32 0, .int .u32 0, .int .u32 0, .int .u32 0, .int .u32 0, .int .u32 0, .int .u32 0, .int .u32 0, .int .u32 0, .int .u32 0, .int .u32 0, .int .u32 0, .int .u32 0, .int .u32 0, .int .u32 0] = tabV 0 := by kernel_rfl
  have H0 := Lib.hid h0
  clear h0
  go_enter Try.func15, Try.ntmps15
  go_wp2
  rw [H0.out]
  go_loopw [4] (fun i wr => ∃ k : Nat, k ≤ 16 ∧ i = .int .i64 k ∧ wr.heap.size = w.heap.size + 1 ∧ wr.heap[w.heap.size]? = some (.cells (tabV k) 40 (0, 0)) ∧ Below w.heap.size w wr)
    (fun i _ => 16 - (intOf i).toNat)
  case atStart => exact ⟨0, by omega, rfl, by simp, heap_alloc_new w _, balloc (Below.refl _ _) _⟩
  case round =>
    obtain ⟨k, hk, rfl, hs, hT, hB⟩ := hrel
    by_cases hlt : k < 16
    · have hc : wr.cell? ⟨w.heap.size, k, none⟩ = some (.int .u32 0) := by rw [cell_of_row _ _ _ _ _ _ hT]; simp [tabV, hlt]
      have hf : wr.frozen? ⟨w.heap.size, k, none⟩ = false := frozen_of_row _ _ _ _ _ hT
      go_wp2_with (go_at_call 22; refine (halved_any k 4 (by omega) (by omega) _).mono ?_; rintro e w' ⟨rfl, rfl⟩)
      exact ⟨⟨k + 1, by omega, by go_num, by simpa using hs, (heap_setCell_same _ _ _ _ _ _ hT).trans (by rw [← tabV_set k hlt]; rfl), hB.setCell (by simp) _⟩, by simp [intOf]; omega⟩
    · obtain rfl : k = 16 := by omega
      clear hT hs
      go_wp2
      refine wp_loop_rounds 1 ?_
      rw [rounds_succ]
      go_wp2
      go_ret
      exact ⟨rfl, hB⟩
theorem ofRef_any (A : Option Addr) (len cap : Nat) (xs : List UInt8) (hlen : Hid (xs.length = len)) (hlc : len ≤ cap) (hcap : cap ≤ 9223372036854775807) (w : World) (hx : Byt w w.heap.size A xs) :
    Calls Try.prog 15 #[.slice A len cap] w fun e w' => e = .returned (.int .u32 (crc xs : Nat)) ∧ Below w.heap.size w w' := by
  rcases Nat.eq_zero_or_pos xs.length with h0 | h0
  · have hx0 : xs = [] := List.eq_nil_of_length_eq_zero h0
    subst hx0
    obtain rfl := hlen.out
    exact ofRef_nil A cap w
  · obtain ⟨ad, rfl, hbl, hc⟩ := hx h0
    exact ofRef_ad ad len cap xs hlen hlc hcap w hbl (Lib.hid fun j hj => hc j (by rw [hlen.out]; exact hj))

def lenOfV : Value → Nat
  | .slice _ n _ => n
  | _ => 0
theorem zeros_snoc (k : Nat) : zeros k ++ [0] = zeros (k + 1) := by simp [zeros, List.replicate_succ']
theorem u8s_zero : u8s [0] = [.int .u8 0] := rfl
set_option maxRecDepth 100000 in
set_option maxHeartbeats 1600000 in
theorem sealed_ref (A : Option Addr) (len cap : Nat) (xs : List UInt8) (hlen : Hid (xs.length = len)) (hl : len ≤ 124) (hlc : len ≤ cap) (hcap : cap ≤ 9223372036854775807) (w : World) (hx : Byt w w.heap.size A xs) :
    Calls Try.prog 20 #[.slice A len cap] w fun e w' => ∃ v, e = .returned v ∧ w'.ownsRow w.heap.size 5 1 v 128 (u8s (sealN xs)) ∧ Below w.heap.size w w' := by
  obtain ⟨i0, hi, hz0, hz1, hz2⟩ := info_parts u8_info
  obtain ⟨v1, w1, hrun1, own1, ba1⟩ := app_byt (P := Try.prog) (w := w) w.heap.size 22 22 5 i0 Try.underlying22 hi hz0 hz1 hz2 (.slice none 0 0) 0 [] (World.ownsRow_nil _ _ _ _) w.heap.size A len cap xs hx hlen.out (by omega) (Nat.le_refl _)
  rw [Nat.zero_add, List.nil_append] at own1
  have H1 := Lib.hid hrun1
  clear hrun1
  go_enter Try.func20, Try.ntmps20
  go_wp2_with (at_builtin; refine wpList_append_run rfl _ _ _ rfl rfl rfl H1.out ?_; clear H1)
  go_loopw [3] (fun v wr => ∃ k : Nat, len + k ≤ 124 ∧ wr.ownsRow w.heap.size 5 1 v (len + k) (u8s (xs ++ zeros k)) ∧ Below w.heap.size w wr) (fun v _ => 124 - lenOfV v)
  case atStart => exact ⟨0, by omega, by simpa [zeros] using own1, ba1⟩
  case round =>
    obtain ⟨k, hk, hown, hB⟩ := hrel
    obtain ⟨G, c, rfl, hlc2, hc2, hy⟩ := own_byt hown
    by_cases hlt : len + k < 124
    · go_wp2_with (at_builtin; refine wpList_append_own _ rfl _ _ 22 rfl w.heap.size 5 i0 (.int .u8 0) 1 1 Try.underlying22 hi hz0 hz1 hz2 rfl (by decide) _ _ _ rfl (hown.alloc _) ⟨wr.heap.size, 0, none⟩ 1 1 [.int .u8 0] rfl rfl ?c1 ?c2 ?c3 ?c4 ?c5 ?_)
      case c1 =>
        intro j u hj
        match j, hj with
        | 0, hj => simp at hj; subst hj; simp [Addr.add]
      case c2 => intro u hu; simp at hu; subst hu; rfl
      case c3 => unfold maxLen; omega
      case c4 => omega
      case c5 => have := hB.size; simp; omega
      intro v' w2 hown' hgrow _
      have hB1 : Below w.heap.size w w2 := (balloc hB _).grown hgrow (balloc hB _).size (fun r e => by have := hown.lt r e; omega)
      rw [← u8s_zero, ← u8s_append, List.append_assoc, zeros_snoc] at hown'
      clear hgrow hown hy
      go_wp2
      obtain ⟨G', c', rfl, _, _, _⟩ := own_byt hown'
      go_roundw
      case rel => exact ⟨k + 1, by omega, hown', hB1⟩
      case measure => simp [lenOfV]; omega
    · have e : len + k = 124 := by omega
      have hpad : xs ++ zeros k = padN xs := by
        unfold padN
        rw [hlen.out, show 124 - len = k by omega]
      rw [hpad] at hown hy
      rw [e] at hown hlc2
      have hpl : Hid ((padN xs).length = 124) := Lib.hid (padN_length (by rw [hlen.out]; omega))
      clear hown hpad
      rw [e]
      go_wp2_with fail
      refine (ofRef_any _ _ c _ hpl (by omega) (by omega) _ hy).mono ?_
      rintro e w3 ⟨rfl, hb3⟩
      go_wp2_with fail
      refine (four_own _ (by omega) (by have := crc_lt (padN xs); omega) _).mono ?_
      rintro e w4 ⟨v4, rfl, own4, hb4⟩
      obtain ⟨v5, w5, hrun5, own5, ba5⟩ := app_byt (P := Try.prog) (w := w4) w3.heap.size 22 22 5 i0 Try.underlying22 hi hz0 hz1 hz2 v4 4 _ own4 wr.heap.size G 124 c (padN xs) ((hy.below hb3).below (hb4.mono hb3.size)) hpl.out (by omega) hb4.size
      have hs13 := Nat.le_trans hB.size hb3.size
      have hB5 := hB.trans ((bstep hb3 (hb4.trans ba5)).mono hB.size)
      have HO := Lib.hid (own_base own5 hs13)
      have H5 := Lib.hid hrun5
      clear hrun5 own5 own4 hy hb3 hb4 ba5 hs13 hB
      go_wp2_with (at_builtin; refine wpList_append_run rfl _ _ _ rfl rfl rfl H5.out ?_; clear H5)
      go_ret
      exact ⟨_, rfl, HO.out, hB5⟩

theorem sealRef_no (A : Option Addr) (len cap : Nat) (hl : 124 < len) (w : World) :
    Calls Try.prog 13 #[.slice A len cap] w fun e w' => e = .returned (.tuple #[.slice none 0 0, .int .i64 3]) ∧ w = w' := by
  go_enter Try.func13, Try.ntmps13
  go_wp2
  go_ret2
  exact ⟨rfl, rfl⟩
theorem sealRef_ok (A : Option Addr) (len cap : Nat) (xs : List UInt8) (hlen : Hid (xs.length = len)) (hl : len ≤ 124) (hlc : len ≤ cap) (hcap : cap ≤ 9223372036854775807) (w : World) (hx : Byt w w.heap.size A xs) :
    Calls Try.prog 13 #[.slice A len cap] w fun e w' => ∃ v, e = .returned (.tuple #[v, .int .i64 0]) ∧ w'.ownsRow w.heap.size 5 1 v 128 (u8s (sealN xs)) ∧ Below w.heap.size w w' := by
  go_enter Try.func13, Try.ntmps13
  go_wp2_with fail
  refine (sealed_ref A len cap xs hlen hl hlc hcap _ hx).mono ?_
  rintro e w1 ⟨v, rfl, hown, hb⟩
  go_wp2_with fail
  go_ret2
  exact ⟨v, rfl, hown, hb⟩
theorem openRef_no (A : Option Addr) (len cap : Nat) (hl : len ≠ 128) (w : World) :
    Calls Try.prog 14 #[.slice A len cap] w fun e w' => e = .returned (.tuple #[.slice none 0 0, .int .i64 3]) ∧ w = w' := by
  go_enter Try.func14, Try.ntmps14
  go_wp2
  go_ret2
  exact ⟨rfl, rfl⟩
theorem ge_ok : ge 4 128 0 = 0 := rfl
theorem gv_ok {xs : List UInt8} (h : xs.length = 128) : gv 4 xs 0 = num (xs.take 4) := by
  rw [gv_yes (by omega)]
  rfl
theorem openRef_bad (ad : Addr) (cap : Nat) (xs : List UInt8) (hlen : Hid (xs.length = 128)) (hlc : 128 ≤ cap) (hcap : cap ≤ 9223372036854775807) (w : World) (hx : Byt w w.heap.size (some ad) xs) (hn : ¬ fits xs) :
    Calls Try.prog 14 #[.slice (some ad) 128 cap] w fun e w' => e = .returned (.tuple #[.slice none 0 0, .int .i64 8]) ∧ Below w.heap.size w w' := by
  have hp : Byt w w.heap.size (some (ad.add 4)) (xs.drop 4) := by
    obtain ⟨ad', e, hp⟩ := hx.part (k := 4) (n := 124) (by rw [hlen.out]; omega) (by omega)
    cases e
    rwa [List.take_of_length_le (by simp [hlen.out])] at hp
  have hpl : Hid ((xs.drop 4).length = 124) := Lib.hid (by simp [hlen.out])
  have hb := crc_lt (xs.drop 4)
  have hd' : ((num (xs.take 4) : Int) != (crc (xs.drop 4) : Nat)) = true := by simpa [fits] using hn
  have HD' := Lib.hid hd'
  have hgv := Lib.hid (gv_ok hlen.out)
  clear hn hd'
  go_enter Try.func14, Try.ntmps14
  go_wp2_with fail
  refine (getFour_ref _ _ cap 0 xs hlen (by omega) (by omega) _ hx).mono ?_
  rintro e w1 ⟨rfl, rfl⟩
  rw [hgv.out]
  go_wp2_with fail
  refine (ofRef_any _ _ _ _ hpl (by omega) (by omega) _ hp).mono ?_
  rintro e w2 ⟨rfl, hb2⟩
  generalize num (xs.take 4) = q at *
  generalize crc (xs.drop 4) = r at *
  have hd' := HD'.out
  go_wp2_with fail
  go_ret2
  exact ⟨rfl, hb2⟩
theorem openRef_ok (ad : Addr) (cap : Nat) (xs : List UInt8) (hlen : Hid (xs.length = 128)) (hlc : 128 ≤ cap) (hcap : cap ≤ 9223372036854775807) (w : World) (hx : Byt w w.heap.size (some ad) xs) (hn : fits xs) :
    Calls Try.prog 14 #[.slice (some ad) 128 cap] w fun e w' => ∃ v, e = .returned (.tuple #[v, .int .i64 0]) ∧ w'.ownsRow w.heap.size 5 1 v 124 (u8s (xs.drop 4)) ∧ Below w.heap.size w w' := by
  have hp : Byt w w.heap.size (some (ad.add 4)) (xs.drop 4) := by
    obtain ⟨ad', e, hp⟩ := hx.part (k := 4) (n := 124) (by rw [hlen.out]; omega) (by omega)
    cases e
    rwa [List.take_of_length_le (by simp [hlen.out])] at hp
  have hpl : Hid ((xs.drop 4).length = 124) := Lib.hid (by simp [hlen.out])
  have hb := crc_lt (xs.drop 4)
  have HN : Hid (num (xs.take 4) = (crc (xs.drop 4) : Nat)) := Lib.hid hn
  have hgv := Lib.hid (gv_ok hlen.out)
  obtain ⟨i0, hi, hz0, hz1, hz2⟩ := info_parts u8_info
  clear hn
  go_enter Try.func14, Try.ntmps14
  go_wp2_with fail
  refine (getFour_ref _ _ cap 0 xs hlen (by omega) (by omega) _ hx).mono ?_
  rintro e w1 ⟨rfl, rfl⟩
  rw [hgv.out, HN.out]
  go_wp2_with fail
  refine (ofRef_any _ _ _ _ hpl (by omega) (by omega) _ hp).mono ?_
  rintro e w2 ⟨rfl, hb2⟩
  have hp2 := (hp.below hb2).more hb2.size
  obtain ⟨v3, w3, hrun3, own3, ba3⟩ := app_byt (P := Try.prog) (w := w2) w2.heap.size 22 22 5 i0 Try.underlying22 hi hz0 hz1 hz2 (.slice none 0 0) 0 [] (World.ownsRow_nil _ _ _ _) w2.heap.size _ 124 (cap - 4) _ hp2 hpl.out (by omega) (Nat.le_refl _)
  rw [Nat.zero_add, List.nil_append] at own3
  have HO := Lib.hid (own_base own3 hb2.size)
  have H3 := Lib.hid hrun3
  have hB := bstep hb2 ba3
  clear hrun3 own3 hp2 hp hx hb2 ba3
  generalize crc (xs.drop 4) = r at *
  go_wp2_with (at_builtin; refine wpList_append_run rfl _ _ _ rfl rfl rfl H3.out ?_; clear H3)
  go_ret2
  exact ⟨_, rfl, HO.out, hB⟩
end Go.Proofs.Ytabnifphpphedaa
