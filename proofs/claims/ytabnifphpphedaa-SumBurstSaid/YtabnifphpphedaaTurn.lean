/-
  Sealed blocks of which up to four bytes are turned: plain arithmetic. Conditions: those that each lemma states.
-/
import Derived.Test.YtabnifphpphedaaSumSeal
namespace Go.Proofs.Ytabnifphpphedaa

theorem num_inj {xs ys : List UInt8} (hl : xs.length = ys.length) (h : num xs = num ys) : xs = ys := by
  rw [← le_num xs, h, hl, le_num ys]
/-- The bytes from place at on, turned by ds. -/
def xorAt (ys : List UInt8) (at_ : Nat) (ds : List UInt8) : List UInt8 := ys.take at_ ++ zip2 ((ys.drop at_).take ds.length) ds ++ ys.drop (at_ + ds.length)
theorem split3 (ys : List UInt8) (a m : Nat) : ys.take a ++ (ys.drop a).take m ++ ys.drop (a + m) = ys := by
  rw [List.append_assoc, ← List.drop_drop, List.take_append_drop, List.take_append_drop]
theorem u8_xor_xor (a b : UInt8) : a ^^^ (a ^^^ b) = b := by
  rw [← UInt8.xor_assoc, UInt8.xor_self, UInt8.zero_xor]
theorem zip2_zip2 : ∀ (xs ds : List UInt8), xs.length = ds.length → zip2 xs (zip2 xs ds) = ds
  | [], [], _ => rfl
  | a :: r, b :: q, h => by
    have := zip2_zip2 r q (by simpa using h)
    show (a ^^^ (a ^^^ b)) :: zip2 r (zip2 r q) = b :: q
    rw [this, u8_xor_xor]
theorem zip2_same : ∀ (xs ds : List UInt8), xs.length = ds.length → zip2 xs ds = xs → ds = zeros ds.length
  | [], [], _, _ => rfl
  | a :: r, b :: q, h, e => by
    have e' : (a ^^^ b) :: zip2 r q = a :: r := e
    injection e' with e1 e2
    have h1 := zip2_same r q (by simpa using h) e2
    have h2 : b = 0 := by
      have : a ^^^ (a ^^^ b) = a ^^^ a := by rw [e1]
      rwa [u8_xor_xor, UInt8.xor_self] at this
    rw [h2, h1]
    simp [zeros, List.replicate_succ]
theorem fold_zeros_ne {ds : List UInt8} (h : foldN 0 ds ≠ 0) : ds ≠ zeros ds.length := fun e => h (by rw [e]; exact foldN_nought _)

theorem turn_bad {ys ds : List UInt8} {at_ : Nat} (hl : ys.length = 128) (hf : fits ys) (hd : foldN 0 ds ≠ 0) (hle : at_ + ds.length ≤ 128) (hwhere : 4 ≤ at_ ∨ at_ + ds.length ≤ 4) : ¬ fits (xorAt ys at_ ds) := by
  unfold fits at hf ⊢
  have hml : ((ys.drop at_).take ds.length).length = ds.length := by simp; omega
  have hzl : (zip2 ((ys.drop at_).take ds.length) ds).length = ds.length := by rw [zip2_length _ _ hml, hml]
  rcases hwhere with h4 | h4
  · have ht : (xorAt ys at_ ds).take 4 = ys.take 4 := by
      unfold xorAt
      rw [List.append_assoc, List.take_append_of_le_length (by simp; omega), List.take_take, Nat.min_eq_left h4]
    have hdr : (xorAt ys at_ ds).drop 4 = (ys.drop 4).take (at_ - 4) ++ zip2 ((ys.drop at_).take ds.length) ds ++ ys.drop (at_ + ds.length) := by
      unfold xorAt
      rw [List.append_assoc, List.drop_append_of_le_length (by simp; omega), List.drop_take, List.append_assoc]
    have hys : ys.drop 4 = (ys.drop 4).take (at_ - 4) ++ (ys.drop at_).take ds.length ++ ys.drop (at_ + ds.length) := by
      have := split3 (ys.drop 4) (at_ - 4) ds.length
      rw [List.drop_drop, List.drop_drop, show 4 + (at_ - 4) = at_ by omega, show 4 + (at_ - 4 + ds.length) = at_ + ds.length by omega] at this
      exact this.symm
    rw [ht, hdr, hf, hys]
    intro e
    have e' : crc ((ys.drop 4).take (at_ - 4) ++ (ys.drop at_).take ds.length ++ ys.drop (at_ + ds.length)) = crc ((ys.drop 4).take (at_ - 4) ++ zip2 ((ys.drop at_).take ds.length) ds ++ ys.drop (at_ + ds.length)) := by
      rw [← hys] at e ⊢
      exact Int.ofNat.inj e
    exact crc_turn _ _ _ _ (by rw [hzl, hml]) (by rw [zip2_zip2 _ _ hml]; exact hd) e'
  · have hdr : (xorAt ys at_ ds).drop 4 = ys.drop 4 := by
      unfold xorAt
      rw [List.drop_append, List.drop_eq_nil_of_le (by simp [hzl]; omega), List.nil_append, List.drop_drop]
      congr 1
      simp [hzl]
      omega
    have htk : (xorAt ys at_ ds).take 4 = ys.take at_ ++ zip2 ((ys.drop at_).take ds.length) ds ++ (ys.drop (at_ + ds.length)).take (4 - (at_ + ds.length)) := by
      unfold xorAt
      rw [List.take_append, List.take_of_length_le (by simp [hzl]; omega)]
      congr 2
      simp [hzl]
      omega
    have hys : ys.take 4 = ys.take at_ ++ (ys.drop at_).take ds.length ++ (ys.drop (at_ + ds.length)).take (4 - (at_ + ds.length)) := by
      have := split3 (ys.take 4) at_ ds.length
      rw [List.take_take, Nat.min_eq_left (by omega), List.drop_take, List.take_take, Nat.min_eq_left (by omega), List.drop_take] at this
      exact this.symm
    rw [hdr, ← hf]
    intro e
    have h1 := num_inj (by rw [htk, hys]; simp [hzl, hml]) e
    rw [htk, hys, List.append_assoc, List.append_assoc] at h1
    have h2 := List.append_cancel_left h1
    have h3 := List.append_cancel_right h2
    exact fold_zeros_ne hd (zip2_same _ _ hml h3)
theorem set_xorAt {ys : List UInt8} {k : Nat} (hk : k < ys.length) (x : UInt8) : ys.set k (ys[k]?.getD 0 ^^^ x) = xorAt ys k [x] := by
  unfold xorAt
  rw [List.getElem?_eq_getElem hk]
  have h1 : (ys.drop k).take ([x] : List UInt8).length = [ys[k]] := by
    rw [List.drop_eq_getElem_cons hk]
    rfl
  rw [h1]
  have h2 := List.set_eq_take_append_cons_drop (l := ys) (i := k) (a := ys[k] ^^^ x)
  rw [if_pos hk] at h2
  simpa [zip2] using h2
/-- One byte turned. -/
theorem turn_one {ys : List UInt8} {k : Nat} {x : UInt8} (hl : ys.length = 128) (hf : fits ys) (hk : k < 128) (hx : x ≠ 0) : ¬ fits (ys.set k (ys[k]?.getD 0 ^^^ x)) := by
  rw [set_xorAt (by omega)]
  exact turn_bad hl hf (fun h => hx (one_zero x h)) (by simp; omega) (by simp; omega)
theorem xorAt_nil (ys : List UInt8) (k : Nat) : xorAt ys k [] = ys := by
  unfold xorAt
  simp [zip2]
theorem xorAt_length {ys ds : List UInt8} {k : Nat} (h : k + ds.length ≤ ys.length) : (xorAt ys k ds).length = ys.length := by
  unfold xorAt
  have : (zip2 ((ys.drop k).take ds.length) ds).length = ds.length := by simp [zip2]; omega
  simp [this]
  omega
theorem xorAt_get {ys ds : List UInt8} {k : Nat} (h : k + ds.length < ys.length) : (xorAt ys k ds)[k + ds.length]?.getD 0 = ys[k + ds.length]?.getD 0 := by
  unfold xorAt
  have hz : (zip2 ((ys.drop k).take ds.length) ds).length = ds.length := by simp [zip2]; omega
  rw [List.getElem?_append_right (by simp [hz]; omega)]
  have : k + ds.length - (ys.take k ++ zip2 ((ys.drop k).take ds.length) ds).length = 0 := by simp [hz]; omega
  rw [this, List.getElem?_drop, Nat.add_zero]
theorem xorAt_step {ys ds : List UInt8} {k : Nat} (x : UInt8) (h : k + ds.length < ys.length) : (xorAt ys k ds).set (k + ds.length) (ys[k + ds.length]?.getD 0 ^^^ x) = xorAt ys k (ds ++ [x]) := by
  unfold xorAt
  have hz : (zip2 ((ys.drop k).take ds.length) ds).length = ds.length := by simp [zip2]; omega
  have hp : (ys.take k ++ zip2 ((ys.drop k).take ds.length) ds).length = k + ds.length := by simp [hz]; omega
  rw [List.set_append_right _ _ (by omega), hp, Nat.sub_self, List.drop_eq_getElem_cons h]
  have h1 : (ys.drop k).take (ds ++ [x]).length = (ys.drop k).take ds.length ++ [ys[k + ds.length]] := by
    rw [List.length_append, List.length_singleton, List.take_succ_eq_append_getElem (by simp; omega)]
    simp
  have h2 : zip2 ((ys.drop k).take ds.length ++ [ys[k + ds.length]]) (ds ++ [x]) = zip2 ((ys.drop k).take ds.length) ds ++ [ys[k + ds.length] ^^^ x] := by
    unfold zip2
    rw [List.zipWith_append (by simp; omega)]
    rfl
  rw [h1, h2, List.getElem?_eq_getElem h]
  simp [Nat.add_assoc]
end Go.Proofs.Ytabnifphpphedaa
