/-
  Plain arithmetic under Div64 of math/bits: one step of the division of a number of two words by a normalised divisor, and how the shifted number's quotient and rest are the number's own.
-/
namespace Go.Proofs.Ytaekofoonekkkaa.Knuth

theorem quot_bounds (U u Y Q : Nat) (hY : 0 < Y) (hQ : Q = (U * 4294967296 + u) / Y) : Q * Y ≤ U * 4294967296 + u ∧ U * 4294967296 + u < Q * Y + Y := by
  subst hQ
  have h := Nat.div_add_mod' (U * 4294967296 + u) Y
  have := Nat.mod_lt (U * 4294967296 + u) hY
  omega

structure Norm (Y y1 y0 U u Q : Nat) : Prop where
  eY : Y = y1 * 4294967296 + y0
  b1 : 2147483648 ≤ y1
  b2 : y1 < 4294967296
  b0 : y0 < 4294967296
  hU : U < Y
  hu : u < 4294967296
  lo : Q * Y ≤ U * 4294967296 + u
  up : U * 4294967296 + u < Q * Y + Y

theorem Norm.mk' (Y U u : Nat) (h1 : 9223372036854775808 ≤ Y) (h2 : Y < 18446744073709551616) (hU : U < Y) (hu : u < 4294967296) :
    Norm Y (Y / 4294967296) (Y % 4294967296) U u ((U * 4294967296 + u) / Y) := by
  obtain ⟨a, b⟩ := quot_bounds U u Y _ (by omega) rfl
  exact ⟨by omega, by omega, by omega, by omega, hU, hu, a, b⟩

theorem mul_split (q Y y1 y0 : Nat) (eY : Y = y1 * 4294967296 + y0) : q * Y = q * y1 * 4294967296 + q * y0 := by
  rw [eY, Nat.mul_add, Nat.mul_assoc]

theorem Norm.init {Y y1 y0 U u Q : Nat} (h : Norm Y y1 y0 U u Q) (q r : Nat) (hq : U / y1 = q) (hr : q * y1 + r = U) (hr1 : r < y1) : Q ≤ q ∧ q ≤ 4294967297 := by
  obtain ⟨eY, b1, b2, b0, hU, hu, lo, up⟩ := h
  constructor
  · apply Nat.le_of_not_lt
    intro hlt
    have h1 : (q + 1) * Y ≤ Q * Y := Nat.mul_le_mul_right _ hlt
    rw [mul_split (q + 1) Y y1 y0 eY, Nat.add_mul, Nat.one_mul] at h1
    omega
  · have : U < 4294967298 * y1 := by omega
    have := (Nat.div_lt_iff_lt_mul (show 0 < y1 by omega)).2 this
    omega

theorem Norm.small {Y y1 y0 U u Q : Nat} (h : Norm Y y1 y0 U u Q) : Q < 4294967296 := by
  obtain ⟨eY, b1, b2, b0, hU, hu, lo, up⟩ := h
  apply Nat.lt_of_not_le
  intro hle
  have h1 : 4294967296 * Y ≤ Q * Y := Nat.mul_le_mul_right _ hle
  omega

theorem Norm.step {Y y1 y0 U u Q : Nat} (h : Norm Y y1 y0 U u Q) (q r : Nat) (hr : q * y1 + r = U) (hc : 4294967296 ≤ q ∨ 4294967296 * r + u < q * y0) : Q < q := by
  have hs := h.small
  obtain ⟨eY, b1, b2, b0, hU, hu, lo, up⟩ := h
  rcases hc with hc | hc
  · omega
  · apply Nat.lt_of_not_le
    intro hle
    have h1 : q * Y ≤ Q * Y := Nat.mul_le_mul_right _ hle
    rw [mul_split q Y y1 y0 eY] at h1
    omega

theorem Norm.stop {Y y1 y0 U u Q : Nat} (h : Norm Y y1 y0 U u Q) (q r : Nat) (hr : q * y1 + r = U) (hQ : Q ≤ q) (hc : q * y0 ≤ 4294967296 * r + u) : q = Q := by
  obtain ⟨eY, b1, b2, b0, hU, hu, lo, up⟩ := h
  apply Nat.le_antisymm _ hQ
  apply Nat.le_of_not_lt
  intro hlt
  have h1 : (Q + 1) * Y ≤ q * Y := Nat.mul_le_mul_right _ hlt
  rw [mul_split q Y y1 y0 eY, Nat.add_mul, Nat.one_mul] at h1
  omega

theorem Norm.stop2 {Y y1 y0 U u Q : Nat} (h : Norm Y y1 y0 U u Q) (q r : Nat) (hr : q * y1 + r = U) (hQ : Q ≤ q) (hq : q ≤ 4294967296) (hc : 4294967296 ≤ r) : q = Q := by
  have hb := h.b0
  have h2 : q * y0 ≤ 4294967296 * 4294967295 := Nat.mul_le_mul hq (by omega)
  exact h.stop q r hr hQ (by omega)

/-- The rest of a step. -/
theorem Norm.rest {Y y1 y0 U u Q : Nat} (h : Norm Y y1 y0 U u Q) : ∃ R, R < Y ∧ Q * Y + R = U * 4294967296 + u := by
  obtain ⟨eY, b1, b2, b0, hU, hu, lo, up⟩ := h
  exact ⟨U * 4294967296 + u - Q * Y, by omega, by omega⟩

/-- The shifted divisor and number. n: the divisor's length in bits; 2^(64 - n) shifts it to the top. -/
theorem shifted (hi lo y n : Nat) (hn1 : 1 ≤ n) (hn : n ≤ 63) (hy : y < 2 ^ n) (hy2 : 2 ^ n ≤ 2 * y) (hh : hi < y) (hlo : lo < 18446744073709551616) :
    9223372036854775808 ≤ y * 2 ^ (64 - n) ∧ y * 2 ^ (64 - n) < 18446744073709551616 ∧ hi * 2 ^ (64 - n) < 18446744073709551616 ∧ lo / 2 ^ n < 2 ^ (64 - n) ∧
    hi * 2 ^ (64 - n) + lo / 2 ^ n < y * 2 ^ (64 - n) ∧
    (hi * 18446744073709551616 + lo) * 2 ^ (64 - n) = (hi * 2 ^ (64 - n) + lo / 2 ^ n) * 18446744073709551616 + lo * 2 ^ (64 - n) % 18446744073709551616 := by
  have hP : 2 ^ n * 2 ^ (64 - n) = 18446744073709551616 := by rw [← Nat.pow_add, show n + (64 - n) = 64 by omega]
  have pP : 0 < 2 ^ (64 - n) := Nat.pow_pos (by omega)
  have pn : 0 < 2 ^ n := Nat.pow_pos (by omega)
  generalize 2 ^ (64 - n) = P at *
  generalize 2 ^ n = M at *
  have h1 : M * P ≤ 2 * y * P := Nat.mul_le_mul_right _ hy2
  rw [Nat.mul_assoc] at h1
  have h2 : (y + 1) * P ≤ M * P := Nat.mul_le_mul_right _ hy
  rw [Nat.add_mul] at h2
  have h3 : (hi + 1) * P ≤ y * P := Nat.mul_le_mul_right _ hh
  rw [Nat.add_mul] at h3
  have h4 : lo / M < P := (Nat.div_lt_iff_lt_mul pn).2 (by rw [Nat.mul_comm]; omega)
  have h5 := Nat.div_add_mod' lo M
  have h6 : lo % M < M := Nat.mod_lt _ pn
  have h7 : (lo % M + 1) * P ≤ M * P := Nat.mul_le_mul_right _ h6
  rw [Nat.add_mul] at h7
  have h8 : lo * P = lo / M * (M * P) + lo % M * P := by
    have : (lo / M * M + lo % M) * P = lo * P := by rw [h5]
    rw [← this, Nat.add_mul, Nat.mul_assoc]
  rw [hP] at h8
  have h9 : (hi * 18446744073709551616 + lo) * P = hi * P * 18446744073709551616 + lo * P := by
    rw [Nat.add_mul, Nat.mul_right_comm]
  refine ⟨by omega, by omega, by omega, h4, by omega, ?_⟩
  rw [h9, Nat.add_mul (hi * P)]
  omega

/-- The end: the shifted quotient is the quotient, the shifted rest the rest. -/
theorem back (N y P U E Q1 R1 Q0 R0 : Nat) (hP : 0 < P) (hy : 0 < y) (e : N * P = U * 18446744073709551616 + E)
    (e1 : Q1 * (y * P) + R1 = U * 4294967296 + E / 4294967296) (e0 : Q0 * (y * P) + R0 = R1 * 4294967296 + E % 4294967296) (h0 : R0 < y * P) :
    Q1 * 4294967296 + Q0 = N / y ∧ R0 / P = N % y := by
  have h1 : N * P = (Q1 * 4294967296 + Q0) * (y * P) + R0 := by
    have hz : ∀ Z : Nat, (Q1 * 4294967296 + Q0) * Z = Q1 * Z * 4294967296 + Q0 * Z := by
      intro Z
      rw [Nat.add_mul, Nat.mul_assoc, Nat.mul_comm 4294967296 Z, ← Nat.mul_assoc]
    rw [hz, e]
    generalize Q1 * (y * P) = a at *
    generalize Q0 * (y * P) = b at *
    omega
  rw [← Nat.mul_assoc] at h1
  have h2 := Nat.div_add_mod' R0 P
  have h3 : R0 % P = 0 := by
    have : (N * P) % P = R0 % P := by rw [h1, Nat.mul_add_mod_self_right]
    rw [Nat.mul_mod_left] at this
    exact this.symm
  have h4 : N = (Q1 * 4294967296 + Q0) * y + R0 / P := by
    apply Nat.eq_of_mul_eq_mul_right hP
    rw [Nat.add_mul]
    omega
  have h5 : R0 / P < y := (Nat.div_lt_iff_lt_mul hP).2 h0
  constructor
  · rw [h4, Nat.add_comm (_ * y), Nat.add_mul_div_right _ _ hy, Nat.div_eq_of_lt h5, Nat.zero_add]
  · rw [h4, Nat.add_comm (_ * y), Nat.add_mul_mod_self_right, Nat.mod_eq_of_lt h5]

end Go.Proofs.Ytaekofoonekkkaa.Knuth
