/-
  Sums of bytes: plain arithmetic, no program. Conditions: those that each lemma states.
-/
import Derived.Test.YtabnifphpphedaaNum
namespace Go.Proofs.Ytabnifphpphedaa

/-- Half of s, turned if s was odd. -/
def halfN (s : Nat) : Nat := if s % 2 = 1 then s / 2 ^^^ 3988292384 else s / 2
def halvesN : Nat → Nat → Nat
  | 0, s => s
  | k + 1, s => halfN (halvesN k s)
def fourN (s : Nat) : Nat := halvesN 4 s
def nibN (s : Nat) : Nat := fourN (s % 16) ^^^ (s / 16)
def stepN (s : Nat) (c : UInt8) : Nat := nibN (nibN (s ^^^ c.toNat))
def foldN (s : Nat) (xs : List UInt8) : Nat := xs.foldl stepN s
def crc (xs : List UInt8) : Nat := foldN 4294967295 xs ^^^ 4294967295

theorem xor_lt32 {a b : Nat} (ha : a < 4294967296) (hb : b < 4294967296) : a ^^^ b < 4294967296 := Nat.xor_lt_two_pow (n := 32) ha hb
theorem halfN_lt {s : Nat} (h : s < 4294967296) : halfN s < 4294967296 := by
  unfold halfN
  split
  · exact xor_lt32 (by omega) (by omega)
  · omega
theorem halvesN_lt (k : Nat) {s : Nat} (h : s < 4294967296) : halvesN k s < 4294967296 := by
  induction k with
  | zero => exact h
  | succ k ih => exact halfN_lt ih
theorem halvesN_succ (k s : Nat) : halvesN (k + 1) s = halfN (halvesN k s) := rfl
theorem fourN_lt {s : Nat} (h : s < 4294967296) : fourN s < 4294967296 := halvesN_lt 4 h
theorem nibN_lt {s : Nat} (h : s < 4294967296) : nibN s < 4294967296 := xor_lt32 (fourN_lt (by omega)) (by omega)
theorem byte_lt (c : UInt8) : c.toNat < 4294967296 := by have := c.toNat_lt; omega
theorem stepN_lt {s : Nat} (h : s < 4294967296) (c : UInt8) : stepN s c < 4294967296 := nibN_lt (nibN_lt (xor_lt32 h (byte_lt c)))
theorem foldN_lt : ∀ (xs : List UInt8) {s : Nat}, s < 4294967296 → foldN s xs < 4294967296
  | [], _, h => h
  | c :: r, _, h => foldN_lt r (stepN_lt h c)
theorem crc_lt (xs : List UInt8) : crc xs < 4294967296 := xor_lt32 (foldN_lt xs (by omega)) (by omega)
theorem foldN_snoc (s : Nat) (xs : List UInt8) (c : UInt8) : foldN s (xs ++ [c]) = stepN (foldN s xs) c := by simp [foldN]
theorem foldN_append (s : Nat) (xs ys : List UInt8) : foldN s (xs ++ ys) = foldN (foldN s xs) ys := by simp [foldN]

/-! ### Halving is by exclusive or, bit by bit -/
theorem four_xor : ∀ i < 16, ∀ j < 16, fourN (i ^^^ j) = fourN i ^^^ fourN j := by decide +kernel
theorem mod16_xor (a b : Nat) : (a ^^^ b) % 16 = a % 16 ^^^ b % 16 := Nat.xor_mod_two_pow (n := 4)
theorem div16_xor (a b : Nat) : (a ^^^ b) / 16 = a / 16 ^^^ b / 16 := by
  have h := Nat.shiftRight_xor_distrib (a := a) (b := b) (i := 4)
  simpa only [Nat.shiftRight_eq_div_pow] using h
theorem xor4 (a b c d : Nat) : (a ^^^ b) ^^^ (c ^^^ d) = (a ^^^ c) ^^^ (b ^^^ d) := by
  rw [Nat.xor_assoc, Nat.xor_assoc, ← Nat.xor_assoc b c d, Nat.xor_comm b c, Nat.xor_assoc c b d]
theorem nibN_xor (a b : Nat) : nibN (a ^^^ b) = nibN a ^^^ nibN b := by
  unfold nibN
  rw [mod16_xor, div16_xor, four_xor _ (by omega) _ (by omega), xor4]
theorem u8_xor_toNat (c d : UInt8) : (c ^^^ d).toNat = c.toNat ^^^ d.toNat := by simp
theorem stepN_xor (s t : Nat) (c d : UInt8) : stepN s c ^^^ stepN t d = stepN (s ^^^ t) (c ^^^ d) := by
  unfold stepN
  rw [← nibN_xor, ← nibN_xor, u8_xor_toNat, xor4]
/-- Byte by byte by exclusive or. -/
def zip2 (xs ys : List UInt8) : List UInt8 := List.zipWith (· ^^^ ·) xs ys
theorem foldN_zip : ∀ (xs ys : List UInt8) (s t : Nat), xs.length = ys.length → foldN s xs ^^^ foldN t ys = foldN (s ^^^ t) (zip2 xs ys)
  | [], [], _, _, _ => rfl
  | c :: r, d :: q, s, t, h => by
    have := foldN_zip r q (stepN s c) (stepN t d) (by simpa using h)
    show foldN (stepN s c) r ^^^ foldN (stepN t d) q = foldN (stepN (s ^^^ t) (c ^^^ d)) (zip2 r q)
    rw [this, stepN_xor]
theorem zip2_length (xs ys : List UInt8) (h : xs.length = ys.length) : (zip2 xs ys).length = xs.length := by simp [zip2]; omega
theorem crc_three (xs ys zs : List UInt8) (h : xs.length = ys.length) (h2 : xs.length = zs.length) : crc (zip2 (zip2 xs ys) zs) = crc xs ^^^ crc ys ^^^ crc zs := by
  unfold crc
  have e1 : foldN 4294967295 (zip2 (zip2 xs ys) zs) = foldN 4294967295 xs ^^^ foldN 4294967295 ys ^^^ foldN 4294967295 zs := by
    rw [foldN_zip xs ys _ _ h, foldN_zip (zip2 xs ys) zs _ _ (by rw [zip2_length _ _ h, h2])]
    rfl
  rw [e1]
  generalize foldN 4294967295 xs = a
  generalize foldN 4294967295 ys = b
  generalize foldN 4294967295 zs = c
  rw [xor4 a _ b _, Nat.xor_self, Nat.xor_zero, ← Nat.xor_assoc]

/-! ### Nothing else halves to nought -/
theorem four_high : ∀ i < 16, fourN i / 268435456 = 0 → i = 0 := by decide +kernel
theorem div28_xor (a b : Nat) : (a ^^^ b) / 268435456 = a / 268435456 ^^^ b / 268435456 := by
  have h := Nat.shiftRight_xor_distrib (a := a) (b := b) (i := 28)
  simpa only [Nat.shiftRight_eq_div_pow] using h
theorem nibN_zero {a : Nat} (h : a < 4294967296) (hz : nibN a = 0) : a = 0 := by
  unfold nibN at hz
  have h1 : (fourN (a % 16) ^^^ (a / 16)) / 268435456 = 0 := by rw [hz]
  rw [div28_xor, show a / 16 / 268435456 = 0 by omega, Nat.xor_zero] at h1
  have h2 := four_high (a % 16) (by omega) h1
  rw [h2, show fourN 0 = 0 by decide, Nat.zero_xor] at hz
  omega
theorem stepN_zero {s : Nat} (h : s < 4294967296) (c : UInt8) (hz : stepN s c = 0) : s = c.toNat := by
  have h1 := nibN_zero (nibN_lt (xor_lt32 h (byte_lt c))) hz
  have h2 := nibN_zero (xor_lt32 h (byte_lt c)) h1
  have h3 : (s ^^^ c.toNat) ^^^ c.toNat = c.toNat := by rw [h2, Nat.zero_xor]
  rwa [Nat.xor_assoc, Nat.xor_self, Nat.xor_zero] at h3
theorem foldN_zeros : ∀ (k s : Nat), s < 4294967296 → s ≠ 0 → foldN s (List.replicate k 0) ≠ 0
  | 0, _, _, h => h
  | k + 1, s, hs, h => by
    show foldN (stepN s 0) (List.replicate k 0) ≠ 0
    exact foldN_zeros k _ (stepN_lt hs 0) fun e => h (by simpa using stepN_zero hs 0 e)
theorem foldN_nought (k : Nat) : foldN 0 (List.replicate k 0) = 0 := by
  induction k with
  | zero => rfl
  | succ k ih =>
    show foldN (stepN 0 0) (List.replicate k 0) = 0
    rw [show stepN 0 0 = 0 by decide]
    exact ih

/-! ### Up to four bytes side by side -/
theorem nibN_16 {a : Nat} : nibN (a * 16) = a := by
  unfold nibN
  rw [show a * 16 % 16 = 0 by omega, show fourN 0 = 0 by decide, Nat.zero_xor]
  omega
theorem nibN_inj {a b : Nat} (ha : a < 4294967296) (hb : b < 4294967296) (h : nibN a = nibN b) : a = b := by
  have e : nibN (a ^^^ b) = 0 := by rw [nibN_xor, h, Nat.xor_self]
  have e2 := nibN_zero (xor_lt32 ha hb) e
  have e3 : (a ^^^ b) ^^^ b = b := by rw [e2, Nat.zero_xor]
  rwa [Nat.xor_assoc, Nat.xor_self, Nat.xor_zero] at e3
/-- What comes out of a byte's step below 2^24 came of its lowest byte's shifts alone. -/
theorem stepN_low {s z : Nat} (hs : s < 4294967296) (hz : z < 16777216) (c : UInt8) (h : stepN s c = z) : s ^^^ c.toNat = z * 256 := by
  have e : nibN (nibN (z * 256)) = z := by
    rw [show z * 256 = z * 16 * 16 by omega, nibN_16, nibN_16]
  have hl := xor_lt32 hs (byte_lt c)
  exact nibN_inj hl (by omega) (nibN_inj (nibN_lt hl) (nibN_lt (by omega)) (by rw [e]; exact h))
theorem low_xor {s z : Nat} (c : UInt8) (h : s ^^^ c.toNat = z * 256) : s = z * 256 + c.toNat := by
  have e : (s ^^^ c.toNat) ^^^ c.toNat = z * 256 ^^^ c.toNat := by rw [h]
  rw [Nat.xor_assoc, Nat.xor_self, Nat.xor_zero] at e
  have hc := c.toNat_lt
  have h1 : (2 ^ 8 * z) ^^^ c.toNat = 2 ^ 8 * z + c.toNat := by
    have hd : (2 ^ 8 * z) &&& c.toNat = 0 := by
      apply Nat.eq_of_testBit_eq
      intro i
      rw [Nat.testBit_and, Nat.testBit_two_pow_mul, Nat.zero_testBit]
      by_cases hi : 8 ≤ i
      · rw [Nat.testBit_lt_two_pow (x := c.toNat) (Nat.lt_of_lt_of_le hc (Nat.pow_le_pow_right (by omega) hi)), Bool.and_false]
      · simp [hi]
    have ho : (2 ^ 8 * z) ^^^ c.toNat = (2 ^ 8 * z) ||| c.toNat := by
      apply Nat.eq_of_testBit_eq
      intro i
      have := congrArg (fun n => n.testBit i) hd
      simp only [Nat.testBit_and, Nat.zero_testBit] at this
      rw [Nat.testBit_xor, Nat.testBit_or]
      cases h1 : (2 ^ 8 * z).testBit i <;> cases h2 : c.toNat.testBit i <;> simp_all
    rw [ho]
    exact (Nat.two_pow_add_eq_or_of_lt hc z).symm
  rw [e, show z * 256 = 2 ^ 8 * z by omega, h1]
theorem burst4 (a b c d : UInt8) (h : foldN 0 [a, b, c, d] = 0) : a = 0 ∧ b = 0 ∧ c = 0 ∧ d = 0 := by
  have ha := a.toNat_lt
  have hb := b.toNat_lt
  have hc := c.toNat_lt
  have hd := d.toNat_lt
  have l1 := stepN_lt (s := 0) (by omega) a
  have l2 := stepN_lt l1 b
  have l3 := stepN_lt l2 c
  have h3 := stepN_zero l3 d h
  have h2 := low_xor c (stepN_low l2 (by omega) c h3)
  have h1 := low_xor b (stepN_low l1 (by omega) b h2)
  have h0 := low_xor a (stepN_low (s := 0) (by omega) (by omega) a h1)
  have e : ∀ x : UInt8, x.toNat = 0 → x = 0 := fun x hx => UInt8.toNat_inj.1 (by simpa using hx)
  exact ⟨e a (by omega), e b (by omega), e c (by omega), e d (by omega)⟩
theorem one_zero (a : UInt8) (h : foldN 0 [a] = 0) : a = 0 := by
  have h1 := stepN_zero (s := 0) (by omega) a h
  exact UInt8.toNat_inj.1 (by simpa using h1.symm)

/-- Of a text whose middle is turned the sum is another. -/
theorem crc_turn (pre mid mid' post : List UInt8) (hl : mid.length = mid'.length) (hne : foldN 0 (zip2 mid mid') ≠ 0) : crc (pre ++ mid ++ post) ≠ crc (pre ++ mid' ++ post) := by
  intro h
  have h1 : foldN 4294967295 (pre ++ mid ++ post) = foldN 4294967295 (pre ++ mid' ++ post) := by
    unfold crc at h
    have := congrArg (· ^^^ 4294967295) h
    simpa only [Nat.xor_assoc, Nat.xor_self, Nat.xor_zero] using this
  rw [foldN_append, foldN_append, foldN_append, foldN_append] at h1
  generalize foldN 4294967295 pre = p at h1
  have h2 : foldN (foldN p mid) post ^^^ foldN (foldN p mid') post = 0 := by rw [h1, Nat.xor_self]
  rw [foldN_zip _ _ _ _ rfl, foldN_zip _ _ _ _ hl, Nat.xor_self] at h2
  have hz : zip2 post post = List.replicate post.length 0 := by
    apply List.ext_getElem
    · simp [zip2]
    · intro i h1 h2
      simp [zip2]
  rw [hz] at h2
  exact foldN_zeros _ _ (foldN_lt _ (by omega)) hne h2
theorem bxor8 (a b : UInt8) : bits .xor .u8 (a.toNat : Int) (b.toNat : Int) = (((a ^^^ b : UInt8).toNat : Nat) : Int) := by
  rw [u8_xor_nat _ _ a.toNat_lt b.toNat_lt, u8_xor_toNat]
end Go.Proofs.Ytabnifphpphedaa
