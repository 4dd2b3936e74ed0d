/-
  CRC-32 as arithmetic: the register after a string is the register before it, exclusive or the string's number, shifted as often as the string has bits; the shift is linear and takes no number below 2^32 but 0 to 0.
-/
import Derived.KernelRfl
namespace Go.Proofs.Ytnapelocjcoofaa.Cr

/-- One shift of the register. -/
def st (c : Nat) : Nat := (c / 2) ^^^ (if c % 2 = 1 then 3988292384 else 0)
def stN : Nat → Nat → Nat
  | 0, c => c
  | n + 1, c => stN n (st c)
theorem stN_add (m n c : Nat) : stN (m + n) c = stN n (stN m c) := by
  induction m generalizing c with
  | zero => rw [Nat.zero_add]; rfl
  | succ m ih => rw [Nat.succ_add]; exact ih (st c)
theorem xor_div2 (a b : Nat) : (a ^^^ b) / 2 = (a / 2) ^^^ (b / 2) := by
  have h := @Nat.shiftRight_xor_distrib 1 a b
  rw [Nat.shiftRight_eq_div_pow, Nat.shiftRight_eq_div_pow, Nat.shiftRight_eq_div_pow] at h
  exact h
theorem st_xor (a b : Nat) : st (a ^^^ b) = st a ^^^ st b := by
  unfold st
  rw [xor_div2]
  have h := @Nat.xor_mod_two_eq_one a b
  have e : ∀ x y z u : Nat, (x ^^^ y) ^^^ (z ^^^ u) = (x ^^^ z) ^^^ (y ^^^ u) := fun x y z u => by rw [Nat.xor_assoc, Nat.xor_assoc, ← Nat.xor_assoc y z u, Nat.xor_comm y z, Nat.xor_assoc z y u]
  by_cases ha : a % 2 = 1
  · by_cases hb : b % 2 = 1
    · rw [if_neg (by rw [h]; simp [ha, hb]), if_pos ha, if_pos hb, e, Nat.xor_self]
    · rw [if_pos (by rw [h]; simp [ha, hb]), if_pos ha, if_neg hb, e, Nat.xor_zero]
  · by_cases hb : b % 2 = 1
    · rw [if_pos (by rw [h]; simp [ha, hb]), if_neg ha, if_pos hb, e, Nat.zero_xor]
    · rw [if_neg (by rw [h]; simp [ha, hb]), if_neg ha, if_neg hb, e, Nat.xor_self]
theorem stN_xor (n a b : Nat) : stN n (a ^^^ b) = stN n a ^^^ stN n b := by
  induction n generalizing a b with
  | zero => rfl
  | succ n ih => show stN n (st (a ^^^ b)) = stN n (st a) ^^^ stN n (st b); rw [st_xor, ih]
theorem stN_zero (n : Nat) : stN n 0 = 0 := by
  induction n with
  | zero => rfl
  | succ n ih => exact ih
theorem st_even (e : Nat) : st (2 * e) = e := by
  unfold st
  rw [if_neg (by omega), Nat.xor_zero]; omega
theorem stN_even (k e : Nat) : stN k (2 ^ k * e) = e := by
  induction k with
  | zero => show 2 ^ 0 * e = e; simp
  | succ k ih =>
    show stN k (st (2 ^ (k + 1) * e)) = e
    rw [Nat.pow_succ, Nat.mul_comm (2 ^ k) 2, Nat.mul_assoc, st_even, ih]
theorem st_lt {c : Nat} (h : c < 4294967296) : st c < 4294967296 := by
  unfold st
  have : ∀ x y : Nat, x < 2 ^ 32 → y < 2 ^ 32 → x ^^^ y < 2 ^ 32 := fun _ _ hx hy => Nat.xor_lt_two_pow hx hy
  exact this _ _ (by omega) (by split <;> decide)
theorem stN_lt {n c : Nat} (h : c < 4294967296) : stN n c < 4294967296 := by
  induction n generalizing c with
  | zero => exact h
  | succ n ih => exact ih (st_lt h)
theorem xor_eq_zero {a b : Nat} (h : a ^^^ b = 0) : a = b := by
  have : (a ^^^ b) ^^^ b = 0 ^^^ b := by rw [h]
  rw [Nat.xor_assoc, Nat.xor_self, Nat.xor_zero, Nat.zero_xor] at this
  exact this
theorem st_zero {c : Nat} (h : c < 4294967296) (h0 : st c = 0) : c = 0 := by
  unfold st at h0
  have e := xor_eq_zero h0
  by_cases hc : c % 2 = 1
  · rw [if_pos hc] at e; omega
  · rw [if_neg hc] at e; omega
theorem stN_nonzero {n c : Nat} (h : c < 4294967296) (h0 : stN n c = 0) : c = 0 := by
  induction n generalizing c with
  | zero => exact h0
  | succ n ih => exact st_zero h (ih (st_lt h) h0)
theorem stN_inj {n a b : Nat} (ha : a < 4294967296) (hb : b < 4294967296) (h : stN n a = stN n b) : a = b := by
  have : stN n (a ^^^ b) = 0 := by rw [stN_xor, h, Nat.xor_self]
  exact xor_eq_zero (stN_nonzero (show a ^^^ b < 2 ^ 32 from Nat.xor_lt_two_pow ha hb) this)

theorem add_xor {i a b : Nat} (h : b < 2 ^ i) : b + 2 ^ i * a = b ^^^ (2 ^ i * a) := by
  apply Nat.eq_of_testBit_eq
  intro j
  rw [Nat.testBit_xor, Nat.add_comm, Nat.testBit_two_pow_mul_add _ h, Nat.testBit_two_pow_mul]
  by_cases hj : j < i
  · rw [if_pos hj]; simp [show ¬ j ≥ i by omega]
  · rw [if_neg hj, Nat.testBit_lt_two_pow (Nat.lt_of_lt_of_le h (Nat.pow_le_pow_right (by decide) (by omega)))]
    simp [show j ≥ i by omega]

/-- A string as a number, its first octet the least. -/
def vn : List UInt8 → Nat
  | [] => 0
  | b :: r => b.toNat + 256 * vn r
/-- The register after a string. -/
def cr (c : Nat) : List UInt8 → Nat
  | [] => c
  | b :: r => cr (stN 8 (c ^^^ b.toNat)) r
theorem cr_eq (c : Nat) (l : List UInt8) : cr c l = stN (8 * l.length) (c ^^^ vn l) := by
  induction l generalizing c with
  | nil => show c = c ^^^ 0; rw [Nat.xor_zero]
  | cons b r ih =>
    show cr (stN 8 (c ^^^ b.toNat)) r = stN (8 * (r.length + 1)) (c ^^^ (b.toNat + 256 * vn r))
    rw [ih, show 8 * (r.length + 1) = 8 + 8 * r.length by omega, stN_add]
    congr 1
    have hb : b.toNat < 2 ^ 8 := b.toNat_lt
    rw [show 256 * vn r = 2 ^ 8 * vn r from rfl, add_xor hb, ← Nat.xor_assoc, stN_xor 8 (c ^^^ b.toNat), stN_even]
theorem cr_append (c : Nat) (xs ys : List UInt8) : cr c (xs ++ ys) = cr (cr c xs) ys := by
  induction xs generalizing c with
  | nil => rfl
  | cons b r ih => exact ih _
theorem cr_lt {c : Nat} (h : c < 4294967296) (l : List UInt8) : cr c l < 4294967296 := by
  induction l generalizing c with
  | nil => exact h
  | cons b r ih =>
    refine ih (stN_lt (show c ^^^ b.toNat < 2 ^ 32 from Nat.xor_lt_two_pow h ?_))
    have := b.toNat_lt
    omega
theorem vn_lt (l : List UInt8) : vn l < 2 ^ (8 * l.length) := by
  induction l with
  | nil => decide
  | cons b r ih =>
    have hb := b.toNat_lt
    show b.toNat + 256 * vn r < 2 ^ (8 * (r.length + 1))
    rw [show 8 * (r.length + 1) = 8 * r.length + 8 by omega, Nat.pow_add]
    omega
theorem vn_inj {xs ys : List UInt8} (hl : xs.length = ys.length) (h : vn xs = vn ys) : xs = ys := by
  induction xs generalizing ys with
  | nil => cases ys with
    | nil => rfl
    | cons _ _ => simp at hl
  | cons a r ih => cases ys with
    | nil => simp at hl
    | cons b s =>
      have ha := a.toNat_lt
      have hb := b.toNat_lt
      have h' : a.toNat + 256 * vn r = b.toNat + 256 * vn s := h
      have e1 : a.toNat = b.toNat := by omega
      have e2 : vn r = vn s := by omega
      rw [UInt8.toNat_inj.1 e1, ih (by simpa using hl) e2]

/-- The four octets of a number, the least first. -/
def le4 (c : Nat) : List UInt8 := [UInt8.ofNat c, UInt8.ofNat (c / 256), UInt8.ofNat (c / 65536), UInt8.ofNat (c / 16777216)]
theorem vn_le4 {c : Nat} (h : c < 4294967296) : vn (le4 c) = c := by
  unfold le4 vn vn vn vn vn
  simp only [UInt8.toNat_ofNat']
  omega
theorem cr_le4 (c : Nat) {d : Nat} (hd : d < 4294967296) : cr c (le4 d) = stN 32 (c ^^^ d) := by rw [cr_eq, vn_le4 hd]; rfl

/-- The CRC of a string. -/
def ofN (l : List UInt8) : Nat := cr 4294967295 l ^^^ 4294967295
theorem ofN_lt (l : List UInt8) : ofN l < 4294967296 := show _ < 2 ^ 32 from Nat.xor_lt_two_pow (cr_lt (by decide) l) (by decide)
/-- What stands in the register behind a sealed string; a marked one. -/
def kS : Nat := stN 32 4294967295
def kM : Nat := stN 32 (4294967295 ^^^ 4294901760)
theorem seal_iff (p : List UInt8) {d : Nat} (hd : d < 4294967296) : cr 4294967295 (p ++ le4 d) = kS ↔ d = ofN p := by
  rw [cr_append, cr_le4 _ hd]
  have hc := cr_lt (c := 4294967295) (by decide) p
  have hx : cr 4294967295 p ^^^ d < 2 ^ 32 := Nat.xor_lt_two_pow hc hd
  unfold kS ofN
  constructor
  · intro h
    have e := stN_inj hx (by decide) h
    have e2 : cr 4294967295 p ^^^ (cr 4294967295 p ^^^ d) = cr 4294967295 p ^^^ 4294967295 := by rw [e]
    rw [← Nat.xor_assoc, Nat.xor_self, Nat.zero_xor] at e2
    exact e2
  · intro h
    rw [h, ← Nat.xor_assoc, Nat.xor_self, Nat.zero_xor]
theorem mark_iff (p : List UInt8) {d : Nat} (hd : d < 4294967296) : cr 4294967295 (p ++ le4 d) = kM ↔ d = ofN p ^^^ 4294901760 := by
  rw [cr_append, cr_le4 _ hd]
  have hc := cr_lt (c := 4294967295) (by decide) p
  have hx : cr 4294967295 p ^^^ d < 2 ^ 32 := Nat.xor_lt_two_pow hc hd
  unfold kM ofN
  constructor
  · intro h
    have e := stN_inj hx (by decide) h
    have e2 : cr 4294967295 p ^^^ (cr 4294967295 p ^^^ d) = cr 4294967295 p ^^^ (4294967295 ^^^ 4294901760) := by rw [e]
    rw [← Nat.xor_assoc, Nat.xor_self, Nat.zero_xor, ← Nat.xor_assoc] at e2
    exact e2
  · intro h
    rw [h, Nat.xor_assoc, ← Nat.xor_assoc (cr _ p), Nat.xor_self, Nat.zero_xor]
theorem kS_ne_kM : kS ≠ kM := by decide +kernel

/-- A string with some of its bits changed. -/
theorem cr_flip {t u : List UInt8} {F : Nat} (hl : u.length = t.length) (h : vn u = vn t ^^^ F) (c : Nat) : cr c u = cr c t ^^^ stN (8 * t.length) F := by
  rw [cr_eq, cr_eq, hl, h, ← Nat.xor_assoc, stN_xor]
/-- Of 32 consecutive bits, some: what is behind the end is nothing. -/
theorem burst {n k p : Nat} (hk : k ≤ n) (hp : p < 4294967296) (h : stN n (2 ^ k * p % 2 ^ n) = 0) : 2 ^ k * p % 2 ^ n = 0 := by
  have e : 2 ^ k * p % 2 ^ n = 2 ^ k * (p % 2 ^ (n - k)) := by
    rw [show 2 ^ n = 2 ^ k * 2 ^ (n - k) by rw [← Nat.pow_add]; congr 1; omega, Nat.mul_mod_mul_left]
  rw [e] at h ⊢
  rw [show n = k + (n - k) by omega, stN_add, stN_even, show k + (n - k) - k = n - k by omega] at h
  have hp2 : p % 2 ^ (n - k) < 4294967296 := Nat.lt_of_le_of_lt (Nat.mod_le _ _) hp
  rw [stN_nonzero hp2 h, Nat.mul_zero]
/-- 1 does not come back in 1632 shifts. -/
def noBack : Nat → Nat → Bool
  | 0, _ => true
  | n + 1, c => st c != 1 && noBack n (st c)
theorem noBack_spec : ∀ (n c j : Nat), noBack n c = true → 1 ≤ j → j ≤ n → stN j c ≠ 1
  | 0, _, _, _, h1, h2 => by omega
  | n + 1, c, j, h, h1, h2 => by
    simp only [noBack, Bool.and_eq_true, bne_iff_ne, ne_eq] at h
    obtain ⟨j, rfl⟩ : ∃ i, j = i + 1 := ⟨j - 1, by omega⟩
    rcases Nat.eq_zero_or_pos j with rfl | hj
    · exact h.1
    · exact noBack_spec n (st c) j h.2 hj (by omega)
theorem no_back : noBack 1632 1 = true := by decide +kernel
theorem pair {n a b : Nat} (hab : a < b) (hb : b < n) (hn : n ≤ 1632) : stN n (2 ^ a ^^^ 2 ^ b) ≠ 0 := by
  intro h
  have e : 2 ^ a ^^^ 2 ^ b = 2 ^ a * (1 ^^^ 2 ^ (b - a)) := by
    rw [show 2 ^ b = 2 ^ a * 2 ^ (b - a) by rw [← Nat.pow_add]; congr 1; omega]
    apply Nat.eq_of_testBit_eq
    intro j
    rw [Nat.testBit_xor, Nat.testBit_two_pow_mul, Nat.testBit_two_pow_mul, Nat.testBit_xor]
    have : (2 ^ a).testBit j = (decide (j ≥ a) && Nat.testBit 1 (j - a)) := by
      conv => lhs; rw [← Nat.mul_one (2 ^ a)]
      exact Nat.testBit_two_pow_mul ..
    rw [this]
    cases decide (j ≥ a) <;> simp
  rw [e, show n = a + ((b - a) + (n - b)) by omega, stN_add, stN_even, stN_add, stN_xor] at h
  have e2 : stN (b - a) (2 ^ (b - a)) = 1 := by have := stN_even (b - a) 1; rw [Nat.mul_one] at this; exact this
  rw [e2] at h
  have hx : stN (b - a) 1 ^^^ 1 < 2 ^ 32 := Nat.xor_lt_two_pow (stN_lt (by decide)) (by decide)
  exact noBack_spec 1632 1 (b - a) no_back (by omega) (by omega) (xor_eq_zero (stN_nonzero hx h))

end Go.Proofs.Ytnapelocjcoofaa.Cr
