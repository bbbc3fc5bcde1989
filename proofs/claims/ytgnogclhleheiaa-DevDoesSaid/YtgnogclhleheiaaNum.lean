/-
  Numbers and their bytes, the lowest first: plain arithmetic, no program. Conditions: those that each lemma states.
-/
import Derived.Test.YtgnogclhleheiaaBase
import Derived.Laws.BitsAllLaws
import Derived.Laws.BitsLemmas
namespace Go.Proofs.Ytgnogclhleheiaa

/-- The first k bytes of n, the lowest first. -/
def le : Nat → Int → List UInt8
  | 0, _ => []
  | k + 1, n => UInt8.ofNat (n % 256).toNat :: le k (n / 256)
/-- The number of some bytes, the lowest first. -/
def num : List UInt8 → Int
  | [] => 0
  | x :: r => (x.toNat : Int) + 256 * num r

theorem le_length (k : Nat) : ∀ n : Int, (le k n).length = k := by
  induction k with
  | zero => intro n; rfl
  | succ k ih => intro n; simp [le, ih]
theorem byte_toNat (n : Int) : ((UInt8.ofNat (n % 256).toNat).toNat : Int) = n % 256 := by
  have h : (n % 256).toNat < 256 := by omega
  rw [UInt8.toNat_ofNat', Nat.mod_eq_of_lt (by simpa using h)]
  omega
theorem num_nonneg : ∀ xs : List UInt8, 0 ≤ num xs
  | [] => by simp [num]
  | x :: r => by have := num_nonneg r; simp only [num]; omega
theorem num_le (k : Nat) : ∀ n : Int, 0 ≤ n → n < (256 : Int) ^ k → num (le k n) = n := by
  induction k with
  | zero => intro n h0 h1; simp at h1; simp [le, num]; omega
  | succ k ih =>
    intro n h0 h1
    have e : (256 : Int) ^ (k + 1) = 256 ^ k * 256 := Int.pow_succ ..
    rw [e] at h1
    simp only [le, num]
    rw [ih (n / 256) (by omega) (by omega), byte_toNat]
    omega
theorem num_lt : ∀ xs : List UInt8, num xs < (256 : Int) ^ xs.length
  | [] => by simp [num]
  | x :: r => by
    have h := num_lt r
    have hx := x.toNat_lt
    have e : (256 : Int) ^ (r.length + 1) = 256 ^ r.length * 256 := Int.pow_succ ..
    simp only [num, List.length_cons, e]
    omega
theorem byte_of (x : UInt8) (m : Int) : UInt8.ofNat (((x.toNat : Int) + 256 * m) % 256).toNat = x := by
  have hx := x.toNat_lt
  have h : (((x.toNat : Int) + 256 * m) % 256).toNat = x.toNat := by omega
  rw [h]
  simp
theorem le_num : ∀ xs : List UInt8, le xs.length (num xs) = xs
  | [] => rfl
  | x :: r => by
    have hx := x.toNat_lt
    simp only [List.length_cons, le, num, byte_of]
    rw [show ((x.toNat : Int) + 256 * num r) / 256 = num r by omega, le_num r]
theorem num_append : ∀ (xs : List UInt8) (x : UInt8), num (xs ++ [x]) = num xs + 256 ^ xs.length * x.toNat
  | [], x => by simp [num]
  | y :: r, x => by
    have e : (256 : Int) ^ (r.length + 1) = 256 ^ r.length * 256 := Int.pow_succ ..
    simp only [List.cons_append, num, num_append r x, List.length_cons, e, Int.mul_add, ← Int.mul_assoc, Int.add_assoc, Int.mul_comm 256 (256 ^ r.length)]
theorem le_get (k : Nat) : ∀ (n : Int) (j : Nat), j < k → (((le k n)[j]?.getD 0).toNat : Int) = n / 256 ^ j % 256 := by
  induction k with
  | zero => intro n j h; omega
  | succ k ih =>
    intro n j h
    cases j with
    | zero => simp only [le]; simpa using byte_toNat n
    | succ j =>
      have e : (256 : Int) ^ (j + 1) = 256 * 256 ^ j := by rw [Int.pow_succ, Int.mul_comm]
      simp only [le, List.getElem?_cons_succ]
      rw [ih (n / 256) j (by omega), e, Int.ediv_ediv_of_nonneg (by omega)]
theorem le_inj (k : Nat) {a b : Int} (ha : 0 ≤ a) (ha' : a < (256 : Int) ^ k) (hb : 0 ≤ b) (hb' : b < (256 : Int) ^ k) (h : le k a = le k b) : a = b := by
  rw [← num_le k a ha ha', ← num_le k b hb hb', h]
/-- The number of pairs that come from behind. -/
def val (pre : List (Nat × UInt8)) : Int := pre.foldl (fun n x => n * 256 + (x.2.toNat : Int)) 0
theorem val_snoc (pre : List (Nat × UInt8)) (x : Nat × UInt8) : val (pre ++ [x]) = val pre * 256 + x.2.toNat := by simp [val]
/-- What has come when k rounds are over, from behind. -/
def back (xs : List UInt8) (k : Nat) : List (Nat × UInt8) := (List.range k).map fun j => (xs.length - 1 - j, xs[xs.length - 1 - j]?.getD 0)
theorem back_succ (xs : List UInt8) (k : Nat) : back xs (k + 1) = back xs k ++ [(xs.length - 1 - k, xs[xs.length - 1 - k]?.getD 0)] := by simp [back, List.range_succ]
theorem back_length (xs : List UInt8) (k : Nat) : (back xs k).length = k := by simp [back]
theorem val_back (xs : List UInt8) : ∀ k, k ≤ xs.length → val (back xs k) = num (xs.drop (xs.length - k)) := by
  intro k
  induction k with
  | zero => intro _; simp [back, val, num]
  | succ k ih =>
    intro h
    have hd : xs.drop (xs.length - (k + 1)) = xs[xs.length - (k + 1)]'(by omega) :: xs.drop (xs.length - (k + 1) + 1) := List.drop_eq_getElem_cons (by omega)
    rw [back_succ, val_snoc, ih (by omega), hd, show xs.length - (k + 1) + 1 = xs.length - k by omega]
    have e : xs[xs.length - 1 - k]?.getD 0 = xs[xs.length - (k + 1)]'(by omega) := by
      have e' : xs.length - 1 - k = xs.length - (k + 1) := by omega
      rw [e', List.getElem?_eq_getElem (by omega)]
      rfl
    simp only [num, e]
    omega
theorem val_all (xs : List UInt8) : val (back xs xs.length) = num xs := by
  have := val_back xs xs.length (Nat.le_refl _)
  simpa using this
theorem val_bounds_from : ∀ (pre : List (Nat × UInt8)) (m : Int) (k : Nat), 0 ≤ m → m < (256 : Int) ^ k → 0 ≤ pre.foldl (fun n x => n * 256 + (x.2.toNat : Int)) m ∧ pre.foldl (fun n x => n * 256 + (x.2.toNat : Int)) m < (256 : Int) ^ (k + pre.length)
  | [], m, k, h0, h1 => ⟨h0, h1⟩
  | x :: r, m, k, h0, h1 => by
    have hx := x.2.toNat_lt
    have e : (256 : Int) ^ (k + 1) = 256 ^ k * 256 := Int.pow_succ ..
    have h := val_bounds_from r (m * 256 + (x.2.toNat : Int)) (k + 1) (by omega) (by omega)
    rw [List.length_cons, show k + (r.length + 1) = k + 1 + r.length by omega]
    exact h
theorem val_bounds (pre : List (Nat × UInt8)) : 0 ≤ val pre ∧ val pre < (256 : Int) ^ pre.length := by
  have := val_bounds_from pre 0 0 (by omega) (by simp)
  rwa [Nat.zero_add] at this
theorem val_small (pre : List (Nat × UInt8)) (h : pre.length < 4) : 0 ≤ val pre ∧ val pre < 16777216 := by
  obtain ⟨h0, h1⟩ := val_bounds pre
  refine ⟨h0, ?_⟩
  match hn : pre.length, h with
  | 0, _ => rw [hn] at h1; simp at h1; omega
  | 1, _ => rw [hn] at h1; simp at h1; omega
  | 2, _ => rw [hn] at h1; simp at h1; omega
  | 3, _ => rw [hn] at h1; simp at h1; omega
theorem or_low (a : Int) (x : UInt8) (h0 : 0 ≤ a) (h1 : a < 16777216) : bits .or .u32 (a * 256) (x.toNat : Int) = a * 256 + x.toNat := by
  have hx := x.toNat_lt
  obtain ⟨n, rfl⟩ := Int.eq_ofNat_of_zero_le h0
  have e : ((n : Int) * 256) = ((n * 256 : Nat) : Int) := by omega
  have hn : n * 256 ||| x.toNat = n * 256 + x.toNat := by
    rw [show n * 256 = 2 ^ 8 * n by omega]
    exact (Nat.two_pow_add_eq_or_of_lt (by omega) n).symm
  rw [e, u32_or_nat _ _ (by omega) (by omega), hn]
  omega
theorem le_snoc (k : Nat) : ∀ n : Int, le (k + 1) n = le k n ++ [UInt8.ofNat (n / 256 ^ k % 256).toNat] := by
  induction k with
  | zero => intro n; simp [le]
  | succ k ih =>
    intro n
    have e : (256 : Int) ^ (k + 1) = 256 * 256 ^ k := by rw [Int.pow_succ, Int.mul_comm]
    rw [le, ih (n / 256), e, ← Int.ediv_ediv_of_nonneg (by omega)]
    rfl
theorem div_pow_succ (n : Int) (k : Nat) : n / 256 ^ k / 256 = n / 256 ^ (k + 1) := by
  rw [Int.ediv_ediv_of_nonneg (Int.pow_nonneg (by omega)), Int.pow_succ]
theorem div_pow_nonneg (n : Int) (k : Nat) (h : 0 ≤ n) : 0 ≤ n / 256 ^ k := Int.ediv_nonneg h (Int.pow_nonneg (by omega))
theorem div_pow_le (n : Int) (k : Nat) (h : 0 ≤ n) : n / 256 ^ k ≤ n := Int.ediv_le_self _ h
end Go.Proofs.Ytgnogclhleheiaa
