/-
  CRC-32 as arithmetic, continued: the table's step, strings that are the exclusive or of others, strings with bits changed.
-/
import Derived.Test.YtnapelocjcoofaaKa
namespace Go.Proofs.Ytnapelocjcoofaa.Cr

/-- An octet at a time: by a table of the 256 values of 'stN 8'. -/
theorem oct_table (x : Nat) : stN 8 x = stN 8 (x % 256) ^^^ (x / 256) := by
  have h : x = x % 256 ^^^ 2 ^ 8 * (x / 256) := by
    rw [← add_xor (show x % 256 < 2 ^ 8 by omega)]; omega
  conv => lhs; rw [h]
  rw [stN_xor, stN_even]
theorem oct_step (c : Nat) {b : Nat} (hb : b < 256) : stN 8 (c ^^^ b) = stN 8 ((c ^^^ b) % 256) ^^^ (c / 256) := by
  have e : (c ^^^ b) / 256 = c / 256 := by
    have h := @Nat.shiftRight_xor_distrib 8 c b
    rw [Nat.shiftRight_eq_div_pow, Nat.shiftRight_eq_div_pow, Nat.shiftRight_eq_div_pow] at h
    rw [show (256 : Nat) = 2 ^ 8 from rfl, h, Nat.div_eq_of_lt (show b < 2 ^ 8 from hb), Nat.xor_zero]
  rw [oct_table, e]

theorem mul_xor (i x y : Nat) : 2 ^ i * (x ^^^ y) = 2 ^ i * x ^^^ 2 ^ i * y := by
  apply Nat.eq_of_testBit_eq
  intro j
  rw [Nat.testBit_xor, Nat.testBit_two_pow_mul, Nat.testBit_two_pow_mul, Nat.testBit_two_pow_mul, Nat.testBit_xor]
  cases decide (j ≥ i) <;> simp
theorem xor4 (x y z u : Nat) : (x ^^^ y) ^^^ (z ^^^ u) = (x ^^^ z) ^^^ (y ^^^ u) := by
  rw [Nat.xor_assoc, Nat.xor_assoc, ← Nat.xor_assoc y z u, Nat.xor_comm y z, Nat.xor_assoc z y u]
theorem vn_cons (b : UInt8) (r : List UInt8) : vn (b :: r) = b.toNat ^^^ 2 ^ 8 * vn r := add_xor (i := 8) (by have := b.toNat_lt; omega)
/-- The exclusive or of two strings of the same length. -/
theorem vn_xor {xs ys : List UInt8} (h : xs.length = ys.length) : vn (List.zipWith (· ^^^ ·) xs ys) = vn xs ^^^ vn ys := by
  induction xs generalizing ys with
  | nil => cases ys with
    | nil => rfl
    | cons _ _ => simp at h
  | cons a r ih => cases ys with
    | nil => simp at h
    | cons b s =>
      rw [List.zipWith_cons_cons, vn_cons, vn_cons, vn_cons, ih (by simpa using h), UInt8.toNat_xor, mul_xor]
      exact xor4 ..
/-- The CRC of the exclusive or of three strings of the same length. -/
theorem of_xor3 {a b c : List UInt8} (h1 : a.length = b.length) (h2 : b.length = c.length) :
    ofN (List.zipWith (· ^^^ ·) (List.zipWith (· ^^^ ·) a b) c) = ofN a ^^^ ofN b ^^^ ofN c := by
  have l1 : (List.zipWith (· ^^^ ·) a b).length = a.length := by rw [List.length_zipWith]; omega
  have l2 : (List.zipWith (· ^^^ ·) (List.zipWith (· ^^^ ·) a b) c).length = a.length := by rw [List.length_zipWith, l1]; omega
  unfold ofN
  rw [cr_eq, cr_eq, cr_eq, cr_eq, l2, ← h1, show c.length = a.length by omega, vn_xor (by rw [l1]; omega), vn_xor h1]
  simp only [stN_xor]
  generalize stN (8 * a.length) 4294967295 = o
  generalize stN (8 * a.length) (vn a) = x
  generalize stN (8 * a.length) (vn b) = y
  generalize stN (8 * a.length) (vn c) = z
  have e : ∀ o x y z k : Nat, (o ^^^ (x ^^^ y ^^^ z)) ^^^ k = ((o ^^^ x) ^^^ k) ^^^ ((o ^^^ y) ^^^ k) ^^^ ((o ^^^ z) ^^^ k) := by
    intro o x y z k
    apply Nat.eq_of_testBit_eq
    intro j
    simp only [Nat.testBit_xor]
    cases o.testBit j <;> cases x.testBit j <;> cases y.testBit j <;> cases z.testBit j <;> cases k.testBit j <;> rfl
  exact e ..

/-- One bit changed. -/
def fl1 (l : List UInt8) (j : Nat) : List UInt8 := l.modify (j / 8) (fun b => b ^^^ UInt8.ofNat (2 ^ (j % 8)))
theorem fl1_length (l : List UInt8) (j : Nat) : (fl1 l j).length = l.length := by unfold fl1; simp
theorem vn_fl1 {l : List UInt8} {j : Nat} (h : j < 8 * l.length) : vn (fl1 l j) = vn l ^^^ 2 ^ j := by
  induction l generalizing j with
  | nil => simp at h
  | cons b r ih =>
    by_cases h8 : j < 8
    · unfold fl1
      rw [show j / 8 = 0 by omega, show j % 8 = j by omega]
      show vn ((b ^^^ UInt8.ofNat (2 ^ j)) :: r) = _
      have hp : 2 ^ j < 256 := Nat.pow_lt_pow_right (by decide) (show j < 8 from h8)
      rw [vn_cons, vn_cons, UInt8.toNat_xor, UInt8.toNat_ofNat', Nat.mod_eq_of_lt (show 2 ^ j < 2 ^ 8 from hp)]
      rw [Nat.xor_assoc, Nat.xor_comm (2 ^ j), ← Nat.xor_assoc]
    · obtain ⟨i, rfl⟩ : ∃ i, j = i + 8 := ⟨j - 8, by omega⟩
      have hi : i < 8 * r.length := by have : (b :: r).length = r.length + 1 := rfl; omega
      have e : fl1 (b :: r) (i + 8) = b :: fl1 r i := by
        unfold fl1
        rw [show (i + 8) / 8 = i / 8 + 1 by omega, show (i + 8) % 8 = i % 8 by omega, List.modify_succ_cons]
      rw [e, vn_cons, vn_cons, ih hi, mul_xor, show 2 ^ (i + 8) = 2 ^ 8 * 2 ^ i by rw [Nat.pow_add, Nat.mul_comm], Nat.xor_assoc]

/-- Of 32 bits from k on, those of the pattern p that lie in the string. -/
def fl (n k p : Nat) : Nat → Nat
  | 0 => 0
  | i + 1 => fl n k p i ^^^ (if p / 2 ^ i % 2 = 1 ∧ k + i < n then 2 ^ (k + i) else 0)
theorem fl_eq (n k p : Nat) : ∀ i, fl n k p i = 2 ^ k * (p % 2 ^ i) % 2 ^ n
  | 0 => by simp [fl, Nat.mod_one]
  | i + 1 => by
    rw [fl, fl_eq n k p i]
    have e : p % 2 ^ (i + 1) = p % 2 ^ i + 2 ^ i * (p / 2 ^ i % 2) := by
      rw [Nat.pow_succ, Nat.mod_mul]
    by_cases hb : p / 2 ^ i % 2 = 1
    · rw [hb, Nat.mul_one] at e
      rw [e, Nat.mul_add, ← Nat.pow_add]
      have hm : p % 2 ^ i < 2 ^ i := Nat.mod_lt _ (Nat.two_pow_pos i)
      have hx : 2 ^ k * (p % 2 ^ i) < 2 ^ (k + i) := by rw [Nat.pow_add]; exact Nat.mul_lt_mul_of_pos_left hm (Nat.two_pow_pos k)
      clear e hm
      generalize 2 ^ k * (p % 2 ^ i) = X at *
      by_cases hn : k + i < n
      · rw [if_pos ⟨hb, hn⟩]
        have h1 : 2 ^ (k + i) < 2 ^ n := Nat.pow_lt_pow_right (by decide) hn
        have h2 : 2 ^ (k + i + 1) ≤ 2 ^ n := Nat.pow_le_pow_right (by decide) (by omega)
        rw [Nat.pow_succ] at h2
        rw [Nat.mod_eq_of_lt (show X < 2 ^ n by omega), Nat.mod_eq_of_lt (show X + 2 ^ (k + i) < 2 ^ n by omega)]
        have h3 := add_xor (a := 1) hx
        rw [Nat.mul_one] at h3
        exact h3.symm
      · rw [if_neg (fun h => hn h.2), Nat.xor_zero, show 2 ^ (k + i) = 2 ^ n * 2 ^ (k + i - n) by rw [← Nat.pow_add]; congr 1; omega, Nat.add_mul_mod_self_left]
    · have hb0 : p / 2 ^ i % 2 = 0 := by omega
      rw [hb0, Nat.mul_zero, Nat.add_zero] at e
      rw [if_neg (fun h => hb h.1), Nat.xor_zero, e, Nat.add_zero]
/-- A string with some of 32 bits changed. -/
def flip (l : List UInt8) (k p : Nat) : Nat → List UInt8
  | 0 => l
  | i + 1 => if p / 2 ^ i % 2 = 1 ∧ k + i < 8 * l.length then fl1 (flip l k p i) (k + i) else flip l k p i
theorem flip_length (l : List UInt8) (k p : Nat) : ∀ i, (flip l k p i).length = l.length
  | 0 => rfl
  | i + 1 => by
    rw [flip]
    split
    · rw [fl1_length, flip_length l k p i]
    · exact flip_length l k p i
theorem vn_flip (l : List UInt8) (k p : Nat) : ∀ i, vn (flip l k p i) = vn l ^^^ fl (8 * l.length) k p i
  | 0 => by show vn l = vn l ^^^ 0; rw [Nat.xor_zero]
  | i + 1 => by
    rw [flip, fl]
    by_cases h : p / 2 ^ i % 2 = 1 ∧ k + i < 8 * l.length
    · rw [if_pos h, if_pos h, vn_fl1 (by rw [flip_length]; exact h.2), vn_flip l k p i, Nat.xor_assoc]
    · rw [if_neg h, if_neg h, vn_flip l k p i, Nat.xor_zero]
/-- A string of which some of 32 consecutive bits are changed leaves another register. -/
theorem cr_flip_ne {l : List UInt8} {k p c : Nat} (hk : k ≤ 8 * l.length) (hp : p < 4294967296) (h : cr c (flip l k p 32) = cr c l) : flip l k p 32 = l := by
  have e := cr_flip (flip_length l k p 32) (vn_flip l k p 32) c
  rw [h, fl_eq, Nat.mod_eq_of_lt (show p < 2 ^ 32 from hp)] at e
  have e0 : stN (8 * l.length) (2 ^ k * p % 2 ^ (8 * l.length)) = 0 := by
    have : cr c l ^^^ (cr c l ^^^ stN (8 * l.length) (2 ^ k * p % 2 ^ (8 * l.length))) = cr c l ^^^ cr c l := by rw [← e]
    rw [← Nat.xor_assoc, Nat.xor_self, Nat.zero_xor] at this
    exact this
  refine vn_inj (flip_length l k p 32) ?_
  rw [vn_flip, fl_eq, Nat.mod_eq_of_lt (show p < 2 ^ 32 from hp), burst hk hp e0, Nat.xor_zero]

theorem le4_vn {q : List UInt8} (h : q.length = 4) : le4 (vn q) = q := by
  have hv := vn_lt q
  rw [h] at hv
  exact vn_inj (by rw [h]; rfl) (vn_le4 hv)
/-- What Good asks. -/
theorem good_iff {s : List UInt8} (h : 4 ≤ s.length) : s.take (s.length - 4) ++ le4 (ofN (s.take (s.length - 4))) = s ↔ cr 4294967295 s = kS := by
  obtain ⟨p, q, hq, rfl⟩ : ∃ p q, q.length = 4 ∧ s = p ++ q := ⟨s.take (s.length - 4), s.drop (s.length - 4), by rw [List.length_drop]; omega, (List.take_append_drop _ _).symm⟩
  have e : (p ++ q).take ((p ++ q).length - 4) = p := by rw [List.length_append, hq, show p.length + 4 - 4 = p.length by omega, List.take_left]
  have hv := vn_lt q
  rw [hq] at hv
  have hs := seal_iff p (d := vn q) hv
  rw [le4_vn hq] at hs
  rw [e, hs]
  constructor
  · intro h
    have h' := List.append_cancel_left h
    have := congrArg vn h'
    rw [vn_le4 (ofN_lt p)] at this
    exact this.symm
  · intro h; rw [← h, le4_vn hq]
/-- What Marked asks. -/
theorem marked_iff {s : List UInt8} (h : 4 ≤ s.length) : s.take (s.length - 4) ++ le4 (ofN (s.take (s.length - 4)) ^^^ 4294901760) = s ↔ cr 4294967295 s = kM := by
  obtain ⟨p, q, hq, rfl⟩ : ∃ p q, q.length = 4 ∧ s = p ++ q := ⟨s.take (s.length - 4), s.drop (s.length - 4), by rw [List.length_drop]; omega, (List.take_append_drop _ _).symm⟩
  have e : (p ++ q).take ((p ++ q).length - 4) = p := by rw [List.length_append, hq, show p.length + 4 - 4 = p.length by omega, List.take_left]
  have hv := vn_lt q
  rw [hq] at hv
  have hs := mark_iff p (d := vn q) hv
  rw [le4_vn hq] at hs
  rw [e, hs]
  have hx : ofN p ^^^ 4294901760 < 4294967296 := show _ < 2 ^ 32 from Nat.xor_lt_two_pow (ofN_lt p) (by decide)
  constructor
  · intro h
    have h' := List.append_cancel_left h
    have := congrArg vn h'
    rw [vn_le4 hx] at this
    exact this.symm
  · intro h; rw [← h, le4_vn hq]
/-- Two bits changed, or one. -/
theorem cr_pair_ne {l : List UInt8} {a b c : Nat} (hab : a ≠ b) (ha : a < 8 * l.length) (hb : b < 8 * l.length) (hn : 8 * l.length ≤ 1632) : cr c (fl1 (fl1 l a) b) ≠ cr c l := by
  intro h
  have e := cr_flip (t := l) (u := fl1 (fl1 l a) b) (F := 2 ^ a ^^^ 2 ^ b) (by rw [fl1_length, fl1_length]) (by rw [vn_fl1 (by rw [fl1_length]; exact hb), vn_fl1 ha, Nat.xor_assoc]) c
  rw [h] at e
  have e0 : stN (8 * l.length) (2 ^ a ^^^ 2 ^ b) = 0 := by
    have : cr c l ^^^ (cr c l ^^^ stN (8 * l.length) (2 ^ a ^^^ 2 ^ b)) = cr c l ^^^ cr c l := by rw [← e]
    rw [← Nat.xor_assoc, Nat.xor_self, Nat.zero_xor] at this
    exact this
  rcases Nat.lt_or_gt_of_ne hab with h1 | h1
  · exact pair h1 hb hn e0
  · rw [Nat.xor_comm] at e0
    exact pair h1 ha hn e0
theorem cr_one_ne {l : List UInt8} {a c : Nat} (ha : a < 8 * l.length) : cr c (fl1 l a) ≠ cr c l := by
  intro h
  have e := cr_flip (t := l) (u := fl1 l a) (F := 2 ^ a) (fl1_length l a) (vn_fl1 ha) c
  rw [h] at e
  have e0 : stN (8 * l.length) (2 ^ a) = 0 := by
    have : cr c l ^^^ (cr c l ^^^ stN (8 * l.length) (2 ^ a)) = cr c l ^^^ cr c l := by rw [← e]
    rw [← Nat.xor_assoc, Nat.xor_self, Nat.zero_xor] at this
    exact this
  have e1 := stN_even a 1
  rw [Nat.mul_one] at e1
  rw [show 8 * l.length = a + (8 * l.length - a) by omega, stN_add, e1] at e0
  exact absurd (stN_nonzero (by decide) e0) (by decide)

end Go.Proofs.Ytnapelocjcoofaa.Cr
