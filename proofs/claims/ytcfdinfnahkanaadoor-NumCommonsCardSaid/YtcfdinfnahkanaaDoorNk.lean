/-
  Plain arithmetic under the binary greatest common divisor: trailing zero bits, odd parts, and the step of the loop.
-/
import Derived.Lib.TrailingZeros
namespace Go.Proofs.YtcfdinfnahkanaaDoor.Binary

theorem two_pow_odd (i j a b : Nat) (h : 2 ^ i * (2 * a + 1) = 2 ^ j * (2 * b + 1)) : i = j := by
  have aux : ∀ (i j a b : Nat), i < j → ¬ 2 ^ i * (2 * a + 1) = 2 ^ j * (2 * b + 1) := by
    intro i j a b hlt he
    obtain ⟨d, rfl⟩ : ∃ d, j = i + (d + 1) := ⟨j - i - 1, by omega⟩
    rw [Nat.pow_add, Nat.mul_assoc] at he
    have := Nat.eq_of_mul_eq_mul_left (Nat.pow_pos (by omega)) he
    rw [Nat.pow_succ, Nat.mul_right_comm] at this
    omega
  rcases Nat.lt_trichotomy i j with hlt | he | hlt
  · exact absurd h (aux i j a b hlt)
  · exact he
  · exact absurd h.symm (aux j i b a hlt)

/-- A number from 1 to 2^64 - 1 is its power of two times an odd number. -/
theorem ctz_spec (x : Nat) (h0 : x ≠ 0) (h : x < 18446744073709551616) : Lib.ctz 64 x < 64 ∧ ∃ m, x = 2 ^ Lib.ctz 64 x * (2 * m + 1) := by
  have e : Lib.ctz 64 x = Lib.ctzFrom 64 x := by simp [Lib.ctz, h0]
  rw [e]
  obtain ⟨m, hm, hk⟩ := Lib.ctzFrom_spec 64 x (by omega) h
  exact ⟨hk, m, hm⟩
theorem ctz_of (x k m : Nat) (hx : x < 18446744073709551616) (h : x = 2 ^ k * (2 * m + 1)) : Lib.ctz 64 x = k := by
  have h0 : x ≠ 0 := by
    have := Nat.mul_pos (Nat.pow_pos (n := k) (show 0 < 2 by omega)) (show 0 < 2 * m + 1 by omega)
    omega
  obtain ⟨_, n, hn⟩ := ctz_spec x h0 hx
  exact two_pow_odd _ _ _ _ (hn.symm.trans h)
theorem shift_odd (x k m : Nat) (h : x = 2 ^ k * (2 * m + 1)) : x / 2 ^ k = 2 * m + 1 := by
  rw [h, Nat.mul_div_cancel_left _ (Nat.pow_pos (by omega))]

theorem odd_coprime (x k : Nat) (h : x % 2 = 1) : Nat.Coprime (2 ^ k) x := by
  apply Nat.Coprime.pow_left
  rw [Nat.Coprime, Nat.gcd_rec, h]
  decide
theorem gcd_shift (x k m : Nat) (h : x % 2 = 1) : Nat.gcd x (2 ^ k * m) = Nat.gcd x m :=
  Nat.Coprime.gcd_mul_left_cancel_right m (odd_coprime x k h)

theorem or_mul (k a b : Nat) : (2 ^ k * a) ||| (2 ^ k * b) = 2 ^ k * (a ||| b) := by
  have h := @Nat.shiftLeft_or_distrib k a b
  rw [Nat.shiftLeft_eq, Nat.shiftLeft_eq, Nat.shiftLeft_eq, Nat.mul_comm a, Nat.mul_comm b, Nat.mul_comm (a ||| b)] at h
  exact h.symm

/-- The odd parts and the lower power of two give the greatest common divisor. -/
theorem parts (x y : Nat) (hx0 : x ≠ 0) (hy0 : y ≠ 0) (hx : x < 9223372036854775808) (hy : y < 9223372036854775808) :
    (x ||| y) ≠ 0 ∧ (x ||| y) < 18446744073709551616 ∧ Nat.gcd x y = Nat.gcd (x / 2 ^ Lib.ctz 64 x) y * 2 ^ Lib.ctz 64 (x ||| y) := by
  obtain ⟨hi, m, hm⟩ := ctz_spec x hx0 (by omega)
  obtain ⟨hj, n, hn⟩ := ctz_spec y hy0 (by omega)
  have hor : (x ||| y) < 2 ^ 63 := Nat.or_lt_two_pow (by omega) (by omega)
  have hne : (x ||| y) ≠ 0 := by
    intro h0
    have := (Nat.or_eq_zero_iff.1 h0).1
    exact hx0 this
  refine ⟨hne, by omega, ?_⟩
  rw [shift_odd x _ m hm]
  generalize Lib.ctz 64 x = i at *
  generalize Lib.ctz 64 y = j at *
  have ho : (2 * m + 1) % 2 = 1 := by omega
  have ho2 : (2 * n + 1) % 2 = 1 := by omega
  have e1 : Nat.gcd (2 * m + 1) y = Nat.gcd (2 * m + 1) (2 * n + 1) := by rw [hn, gcd_shift _ _ _ ho]
  rw [e1]
  by_cases hij : i ≤ j
  · obtain ⟨d, rfl⟩ : ∃ d, j = i + d := ⟨j - i, by omega⟩
    have hn' : y = 2 ^ i * (2 ^ d * (2 * n + 1)) := by rw [hn, Nat.pow_add, Nat.mul_assoc]
    have hx' : (x ||| y) = 2 ^ i * ((2 * m + 1) ||| (2 ^ d * (2 * n + 1))) := by rw [hm, hn', or_mul]
    have hodd : ((2 * m + 1) ||| (2 ^ d * (2 * n + 1))) % 2 = 1 := Nat.or_mod_two_eq_one.2 (Or.inl ho)
    have hk : Lib.ctz 64 (x ||| y) = i := ctz_of _ i (((2 * m + 1) ||| (2 ^ d * (2 * n + 1))) / 2) (by omega) (by
      rw [hx']
      congr 1
      omega)
    rw [hk, hm, hn', Nat.gcd_mul_left, gcd_shift _ _ _ ho, Nat.mul_comm]
  · obtain ⟨d, rfl⟩ : ∃ d, i = j + d := ⟨i - j, by omega⟩
    have hm' : x = 2 ^ j * (2 ^ d * (2 * m + 1)) := by rw [hm, Nat.pow_add, Nat.mul_assoc]
    have hx' : (x ||| y) = 2 ^ j * ((2 ^ d * (2 * m + 1)) ||| (2 * n + 1)) := by rw [hn, hm', or_mul]
    have hodd : ((2 ^ d * (2 * m + 1)) ||| (2 * n + 1)) % 2 = 1 := Nat.or_mod_two_eq_one.2 (Or.inr ho2)
    have hk : Lib.ctz 64 (x ||| y) = j := ctz_of _ j (((2 ^ d * (2 * m + 1)) ||| (2 * n + 1)) / 2) (by omega) (by
      rw [hx']
      congr 1
      omega)
    rw [hk, hm', hn, Nat.gcd_mul_left, Nat.gcd_comm, gcd_shift _ _ _ ho2, Nat.gcd_comm, Nat.mul_comm]

/-- One round of the loop: y loses its trailing zeros; then the numbers are equal, or the smaller is taken from the greater. -/
theorem round (x y g : Nat) (hx : x % 2 = 1) (hy0 : y ≠ 0) (hy : y < 18446744073709551616) (hg : Nat.gcd x y = g) :
    (y / 2 ^ Lib.ctz 64 y) % 2 = 1 ∧ y / 2 ^ Lib.ctz 64 y ≤ y ∧ Nat.gcd x (y / 2 ^ Lib.ctz 64 y) = g := by
  obtain ⟨hj, n, hn⟩ := ctz_spec y hy0 hy
  refine ⟨?_, Nat.div_le_self _ _, ?_⟩
  · rw [shift_odd y _ n hn]; omega
  · rw [shift_odd y _ n hn, ← hg]
    conv => rhs; rw [hn]
    rw [gcd_shift _ _ _ hx]

theorem gcd_up (x z g : Nat) (h : x ≤ z) (hg : Nat.gcd x z = g) : Nat.gcd x (z - x) = g := by rw [Nat.gcd_sub_self_right h, hg]
theorem gcd_down (x z g : Nat) (h : z ≤ x) (hg : Nat.gcd x z = g) : Nat.gcd z (x - z) = g := by rw [Nat.gcd_sub_self_right h, Nat.gcd_comm, hg]

end Go.Proofs.YtcfdinfnahkanaaDoor.Binary
