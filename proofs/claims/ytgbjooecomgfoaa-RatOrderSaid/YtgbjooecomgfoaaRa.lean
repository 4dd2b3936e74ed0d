/-
  Plain arithmetic of bounded fractions: what Make, Add, Sub, Mul, Div give, in terms of the rational numbers of Lean's own library.
-/
import Derived.KernelRfl
namespace Go.Proofs.Ytgbjooecomgfoaa.Fr

/-- The numerator and the denominator are at most 2^30. -/
def lim (q : Rat) : Prop := q.num.natAbs ≤ 1073741824 ∧ q.den ≤ 1073741824
instance (q : Rat) : Decidable (lim q) := by unfold lim; infer_instance
/-- A valid fraction. -/
def right (n d : Int) : Prop := 1 ≤ d ∧ d ≤ 1073741824 ∧ -1073741824 ≤ n ∧ n ≤ 1073741824 ∧ Nat.gcd n.natAbs d.natAbs = 1
instance (n d : Int) : Decidable (right n d) := by unfold right; infer_instance

/-- A rational number as a result: numerator, denominator, error. -/
def putV (q : Rat) : Int × Int × Int := if lim q then (q.num, (q.den : Int), 0) else (0, 0, 6)
/-- What Make gives. -/
def mkV (n d : Int) : Int × Int × Int :=
  if d = 0 then (0, 0, 2) else if 4611686018427387904 < n ∨ n < -4611686018427387904 ∨ 4611686018427387904 < d ∨ d < -4611686018427387904 then (0, 0, 6) else putV (Rat.divInt n d)

theorem mkV_in {n d : Int} (h0 : d ≠ 0) (h1 : n ≤ 4611686018427387904) (h2 : -4611686018427387904 ≤ n) (h3 : d ≤ 4611686018427387904) (h4 : -4611686018427387904 ≤ d) : mkV n d = putV (Rat.divInt n d) := by
  unfold mkV
  rw [if_neg h0, if_neg (by omega)]

theorem divInt_pos_num {n : Int} {d : Nat} (hd : 0 < d) : (Rat.divInt n d).num = n / ((Nat.gcd n.natAbs d : Nat) : Int) := by
  rw [Rat.divInt_ofNat, Rat.num_mkRat, if_neg (by omega), Nat.gcd_comm]
theorem divInt_pos_den {n : Int} {d : Nat} (hd : 0 < d) : (Rat.divInt n d).den = d / Nat.gcd n.natAbs d := by
  rw [Rat.divInt_ofNat, Rat.den_mkRat, if_neg (by omega), Nat.gcd_comm]

/-- A valid fraction is a rational number. -/
theorem rat_of {n d : Int} (h : right n d) : ∃ q : Rat, q.num = n ∧ (q.den : Int) = d ∧ lim q := by
  obtain ⟨h1, h2, h3, h4, h5⟩ := h
  have e : ((d.toNat : Nat) : Int) = d := by omega
  refine ⟨⟨n, d.toNat, by omega, ?_⟩, rfl, e, ?_, ?_⟩
  · rw [Nat.Coprime, show d.toNat = d.natAbs by omega]; exact h5
  · show n.natAbs ≤ _; omega
  · show d.toNat ≤ _; omega
theorem right_of {q : Rat} (h : lim q) : right q.num (q.den : Int) := by
  have := q.den_pos
  have r := q.reduced
  obtain ⟨h1, h2⟩ := h
  exact ⟨by omega, by omega, by omega, by omega, by simpa [Nat.Coprime] using r⟩
theorem right_iff (q : Rat) : right q.num (q.den : Int) ↔ lim q := ⟨fun h => by obtain ⟨h1, h2, h3, h4, _⟩ := h; exact ⟨by omega, by omega⟩, right_of⟩

theorem natAbs_mul_le (a b : Int) (A B : Nat) (ha : a.natAbs ≤ A) (hb : b.natAbs ≤ B) : (a * b).natAbs ≤ A * B := by
  rw [Int.natAbs_mul]; exact Nat.mul_le_mul ha hb

theorem mkV_add (a b : Rat) (ha : lim a) (hb : lim b) : mkV (a.num * b.den + b.num * a.den) (a.den * b.den) = putV (a + b) := by
  have h1 := natAbs_mul_le a.num b.den _ _ ha.1 (show (b.den : Int).natAbs ≤ 1073741824 by have := hb.2; omega)
  have h2 := natAbs_mul_le b.num a.den _ _ hb.1 (show (a.den : Int).natAbs ≤ 1073741824 by have := ha.2; omega)
  have h3 := natAbs_mul_le a.den b.den _ _ (show (a.den : Int).natAbs ≤ 1073741824 by have := ha.2; omega) (show (b.den : Int).natAbs ≤ 1073741824 by have := hb.2; omega)
  have pa := a.den_pos
  have pb := b.den_pos
  have hp : 0 < (a.den : Int) * b.den := Int.mul_pos (by omega) (by omega)
  rw [mkV_in (by omega) (by omega) (by omega) (by omega) (by omega), Rat.add_def', ← Rat.divInt_ofNat, Int.natCast_mul]
theorem mkV_sub (a b : Rat) (ha : lim a) (hb : lim b) : mkV (a.num * b.den - b.num * a.den) (a.den * b.den) = putV (a - b) := by
  have h1 := natAbs_mul_le a.num b.den _ _ ha.1 (show (b.den : Int).natAbs ≤ 1073741824 by have := hb.2; omega)
  have h2 := natAbs_mul_le b.num a.den _ _ hb.1 (show (a.den : Int).natAbs ≤ 1073741824 by have := ha.2; omega)
  have h3 := natAbs_mul_le a.den b.den _ _ (show (a.den : Int).natAbs ≤ 1073741824 by have := ha.2; omega) (show (b.den : Int).natAbs ≤ 1073741824 by have := hb.2; omega)
  have pa := a.den_pos
  have pb := b.den_pos
  have hp : 0 < (a.den : Int) * b.den := Int.mul_pos (by omega) (by omega)
  rw [mkV_in (by omega) (by omega) (by omega) (by omega) (by omega), Rat.sub_def', ← Rat.divInt_ofNat, Int.natCast_mul]
theorem mkV_mul (a b : Rat) (ha : lim a) (hb : lim b) : mkV (a.num * b.num) (a.den * b.den) = putV (a * b) := by
  have h1 := natAbs_mul_le a.num b.num _ _ ha.1 hb.1
  have h3 := natAbs_mul_le a.den b.den _ _ (show (a.den : Int).natAbs ≤ 1073741824 by have := ha.2; omega) (show (b.den : Int).natAbs ≤ 1073741824 by have := hb.2; omega)
  have pa := a.den_pos
  have pb := b.den_pos
  have hp : 0 < (a.den : Int) * b.den := Int.mul_pos (by omega) (by omega)
  rw [mkV_in (by omega) (by omega) (by omega) (by omega) (by omega), Rat.mul_def', ← Rat.divInt_ofNat, Int.natCast_mul]
theorem mkV_div (a b : Rat) (ha : lim a) (hb : lim b) (h0 : b.num ≠ 0) : mkV (a.num * b.den) (a.den * b.num) = putV (a / b) := by
  have h1 := natAbs_mul_le a.num b.den _ _ ha.1 (show (b.den : Int).natAbs ≤ 1073741824 by have := hb.2; omega)
  have h3 := natAbs_mul_le a.den b.num _ _ (show (a.den : Int).natAbs ≤ 1073741824 by have := ha.2; omega) hb.1
  have pa := a.den_pos
  have hp : (a.den : Int) * b.num ≠ 0 := by simp [h0]; omega
  have e : a / b = Rat.divInt (a.num * b.den) (a.den * b.num) := by
    rw [Rat.div_def, Rat.inv_def, ← Rat.divInt_mul_divInt, Rat.num_divInt_den]
  rw [mkV_in hp (by omega) (by omega) (by omega) (by omega), e]
theorem mkV_div0 (a b : Rat) (h0 : b.num = 0) : mkV (a.num * b.den) (a.den * b.num) = (0, 0, 2) := by
  unfold mkV; rw [if_pos (by simp [h0])]

/-- A number whose parts are small has a fraction. -/
theorem num_le (n : Int) (d : Nat) (hd : 0 < d) : (Rat.divInt n d).num.natAbs ≤ n.natAbs ∧ (Rat.divInt n d).den ≤ d := by
  rw [divInt_pos_num hd, divInt_pos_den hd]
  refine ⟨?_, Nat.div_le_self _ _⟩
  rw [Int.natAbs_ediv_of_dvd (by rw [Int.ofNat_dvd_left]; exact Nat.gcd_dvd_left _ _)]
  simp only [Int.natAbs_natCast]
  exact Nat.div_le_self _ _
theorem lim_of (n : Int) (d : Nat) (hd : 0 < d) (h1 : n.natAbs ≤ 1073741824) (h2 : d ≤ 1073741824) : lim (Rat.divInt n d) := by
  have := num_le n d hd
  exact ⟨by omega, by omega⟩

/-- Bounds of the parts of a number. -/
def bnd (q : Rat) (A B : Nat) : Prop := q.num.natAbs ≤ A ∧ q.den ≤ B
theorem bnd_lim {q : Rat} {A B : Nat} (h : bnd q A B) (hA : A ≤ 1073741824) (hB : B ≤ 1073741824) : lim q := ⟨Nat.le_trans h.1 hA, Nat.le_trans h.2 hB⟩
theorem bnd_add {a b : Rat} {A B C D : Nat} (ha : bnd a A B) (hb : bnd b C D) : bnd (a + b) (A * D + C * B) (B * D) := by
  rw [Rat.add_def', ← Rat.divInt_ofNat]
  have h := num_le (a.num * b.den + b.num * a.den) (a.den * b.den) (Nat.mul_pos a.den_pos b.den_pos)
  have h1 := natAbs_mul_le a.num b.den _ _ ha.1 (show (b.den : Int).natAbs ≤ D by have := hb.2; omega)
  have h2 := natAbs_mul_le b.num a.den _ _ hb.1 (show (a.den : Int).natAbs ≤ B by have := ha.2; omega)
  exact ⟨by omega, Nat.le_trans h.2 (Nat.mul_le_mul ha.2 hb.2)⟩
theorem bnd_sub {a b : Rat} {A B C D : Nat} (ha : bnd a A B) (hb : bnd b C D) : bnd (a - b) (A * D + C * B) (B * D) := by
  rw [Rat.sub_def', ← Rat.divInt_ofNat]
  have h := num_le (a.num * b.den - b.num * a.den) (a.den * b.den) (Nat.mul_pos a.den_pos b.den_pos)
  have h1 := natAbs_mul_le a.num b.den _ _ ha.1 (show (b.den : Int).natAbs ≤ D by have := hb.2; omega)
  have h2 := natAbs_mul_le b.num a.den _ _ hb.1 (show (a.den : Int).natAbs ≤ B by have := ha.2; omega)
  exact ⟨by omega, Nat.le_trans h.2 (Nat.mul_le_mul ha.2 hb.2)⟩
theorem bnd_mul {a b : Rat} {A B C D : Nat} (ha : bnd a A B) (hb : bnd b C D) : bnd (a * b) (A * C) (B * D) := by
  rw [Rat.mul_def', ← Rat.divInt_ofNat]
  have h := num_le (a.num * b.num) (a.den * b.den) (Nat.mul_pos a.den_pos b.den_pos)
  have h1 := natAbs_mul_le a.num b.num _ _ ha.1 hb.1
  exact ⟨by omega, Nat.le_trans h.2 (Nat.mul_le_mul ha.2 hb.2)⟩
theorem putV_lim {q : Rat} (h : lim q) : putV q = (q.num, (q.den : Int), 0) := if_pos h
theorem rat_ext {a b : Rat} (h1 : a.num = b.num) (h2 : (a.den : Int) = (b.den : Int)) : a = b := Rat.ext h1 (by omega)

/-- Cross products compare. -/
theorem cross_lt (a b : Rat) : a.num * b.den - b.num * a.den < 0 ↔ a < b := by rw [Rat.lt_iff]; omega
theorem cross_gt (a b : Rat) : 0 < a.num * b.den - b.num * a.den ↔ b < a := by rw [Rat.lt_iff]; omega
theorem cross_eq (a b : Rat) : a.num * b.den - b.num * a.den = 0 ↔ a = b := by rw [Rat.eq_iff_mul_eq_mul]; omega
/-- The sign of the difference. -/
theorem sub_num_neg (a b : Rat) : (a - b).num < 0 ↔ a < b := by
  have h := Rat.num_nonneg (q := a - b)
  have h2 := Rat.le_iff_sub_nonneg b a
  rw [← Rat.not_le, h2, ← h]; omega
theorem sub_num_pos (a b : Rat) : 0 < (a - b).num ↔ b < a := by
  have e : (a - b).num = -(b - a).num := by rw [← Rat.neg_sub b a, Rat.neg_num]
  have := sub_num_neg b a
  rw [e, ← this]; omega

/-- The parts of a number, as a program finds them: both divided by their greatest common divisor (d > 0). -/
theorem parts_pos (n : Int) (d g : Nat) (hd : 0 < d) (hg : Nat.gcd n.natAbs d = g) : n.tdiv g = (Rat.divInt n d).num ∧ (d : Int).tdiv g = ((Rat.divInt n d).den : Int) ∧ 0 < g ∧ g ≤ d := by
  have g0 : 0 < g := by rw [← hg]; exact Nat.gcd_pos_of_pos_right _ hd
  have gd : g ≤ d := by rw [← hg]; exact Nat.gcd_le_right _ hd
  have gn : (g : Int) ∣ n := by rw [Int.ofNat_dvd_left, ← hg]; exact Nat.gcd_dvd_left _ _
  rw [divInt_pos_num hd, divInt_pos_den hd, hg]
  refine ⟨Int.tdiv_eq_ediv_of_dvd gn, ?_, g0, gd⟩
  rw [Int.tdiv_eq_ediv_of_nonneg (by omega)]
  exact (Int.natCast_ediv d g).symm
theorem divInt_neg (n d : Int) : Rat.divInt (-n) (-d) = Rat.divInt n d := Rat.neg_divInt_neg n d
theorem mkV_neg (n d : Int) : mkV (-n) (-d) = mkV n d := by
  unfold mkV
  rw [divInt_neg]
  by_cases h : d = 0
  · rw [if_pos h, if_pos (by omega)]
  · rw [if_neg h, if_neg (by omega)]
    by_cases k : 4611686018427387904 < n ∨ n < -4611686018427387904 ∨ 4611686018427387904 < d ∨ d < -4611686018427387904
    · rw [if_pos k, if_pos (by omega)]
    · rw [if_neg k, if_neg (by omega)]
theorem mkV_self (q : Rat) (h : lim q) : mkV q.num (q.den : Int) = (q.num, (q.den : Int), 0) := by
  have := q.den_pos
  obtain ⟨h1, h2⟩ := h
  rw [mkV_in (by omega) (by omega) (by omega) (by omega) (by omega), Rat.num_divInt_den, putV_lim ⟨h1, h2⟩]
/-- A factor of both parts changes nothing. -/
theorem mkV_scale (n d f : Int) (hd : d ≠ 0) (hf : f ≠ 0) (h1 : n * f ≤ 4611686018427387904) (h2 : -4611686018427387904 ≤ n * f) (h3 : d * f ≤ 4611686018427387904) (h4 : -4611686018427387904 ≤ d * f)
    (k1 : n ≤ 4611686018427387904) (k2 : -4611686018427387904 ≤ n) (k3 : d ≤ 4611686018427387904) (k4 : -4611686018427387904 ≤ d) : mkV (n * f) (d * f) = mkV n d := by
  rw [mkV_in (by simp [hd, hf]) h1 h2 h3 h4, mkV_in hd k1 k2 k3 k4, Rat.divInt_mul_right hf]
/-- What Make gives of small parts equals their quotient. -/
theorem mkV_cross (n : Int) (d : Nat) (hd : 0 < d) : (Rat.divInt n d).num * d = n * (Rat.divInt n d).den := by
  have h := (Rat.divInt_eq_divInt_iff (n₁ := (Rat.divInt n d).num) (d₁ := ((Rat.divInt n d).den : Int)) (n₂ := n) (d₂ := (d : Int)) (by have := (Rat.divInt n d).den_pos; omega) (by omega)).1 (Rat.num_divInt_den _)
  exact h
theorem mk_small (n : Int) (d : Nat) (hd : 0 < d) (h1 : n.natAbs ≤ 1073741824) (h2 : d ≤ 1073741824) : mkV n d = ((Rat.divInt n d).num, ((Rat.divInt n d).den : Int), 0) := by
  rw [mkV_in (by omega) (by omega) (by omega) (by omega) (by omega), putV_lim (lim_of n d hd h1 h2)]
theorem bnd_small (n : Int) (d : Nat) (hd : 0 < d) (A B : Nat) (h1 : n.natAbs ≤ A) (h2 : d ≤ B) : bnd (Rat.divInt n d) A B := by
  have := num_le n d hd
  exact ⟨by omega, by omega⟩
/-- The field laws in the shape in which results are compared. -/
theorem back_sub (a b : Rat) : a + b - b = a := Rat.add_sub_cancel
theorem back_div (a b : Rat) (h : b.num ≠ 0) : a * b / b = a := Rat.mul_div_cancel (fun e => h (by rw [e]; rfl))
/-- Rounding down and up. -/
theorem floor_facts (n d : Int) (hd : 0 < d) : (n / d) * d ≤ n ∧ n < (n / d + 1) * d := by
  have h1 := Int.ediv_mul_le n (show d ≠ 0 by omega)
  have h2 := Int.lt_ediv_add_one_mul_self n hd
  exact ⟨h1, h2⟩

/-- What Cmp gives. -/
def cmpV (a b : Rat) : Int := if a < b then -1 else if b < a then 1 else 0
theorem cmpV_lt {a b : Rat} (h : a < b) : cmpV a b = -1 := if_pos h
theorem cmpV_gt {a b : Rat} (h : b < a) : cmpV a b = 1 := by
  unfold cmpV; rw [if_neg (fun k => Rat.not_le.2 h (Rat.le_of_lt k)), if_pos h]
theorem cmpV_self (a : Rat) : cmpV a a = 0 := by unfold cmpV; rw [if_neg Rat.lt_irrefl, if_neg Rat.lt_irrefl]
theorem tri (a b : Rat) : a < b ∨ a = b ∨ b < a := by
  rcases Rat.le_total (a := a) (b := b) with h | h
  · rcases Rat.le_iff_lt_or_eq.1 h with k | k
    · exact Or.inl k
    · exact Or.inr (Or.inl k)
  · rcases Rat.le_iff_lt_or_eq.1 h with k | k
    · exact Or.inr (Or.inr k)
    · exact Or.inr (Or.inl k.symm)
theorem cmpV_swap (a b : Rat) : cmpV b a = - cmpV a b := by
  rcases tri a b with h | rfl | h
  · rw [cmpV_lt h, cmpV_gt h]; rfl
  · rw [cmpV_self]; rfl
  · rw [cmpV_lt h, cmpV_gt h]
theorem cmpV_zero (a b : Rat) : cmpV a b = 0 ↔ a = b := by
  rcases tri a b with h | rfl | h
  · rw [cmpV_lt h]; exact ⟨fun e => absurd e (by decide), fun e => absurd h (e ▸ Rat.lt_irrefl)⟩
  · simp [cmpV_self]
  · rw [cmpV_gt h]; exact ⟨fun e => absurd e (by decide), fun e => absurd h (e ▸ Rat.lt_irrefl)⟩
theorem cmpV_neg_iff (a b : Rat) : cmpV a b < 0 ↔ a < b := by
  rcases tri a b with h | rfl | h
  · rw [cmpV_lt h]; exact ⟨fun _ => h, fun _ => by omega⟩
  · rw [cmpV_self]; exact ⟨fun e => by omega, fun e => absurd e Rat.lt_irrefl⟩
  · rw [cmpV_gt h]; exact ⟨fun e => by omega, fun e => absurd (Rat.le_of_lt e) (Rat.not_le.2 h)⟩
theorem cmpV_pos_iff (a b : Rat) : 0 < cmpV a b ↔ b < a := by
  have h := cmpV_neg_iff b a
  rw [cmpV_swap a b] at h
  rw [← h]; omega
theorem cmpV_le_iff (a b : Rat) : cmpV a b ≤ 0 ↔ a ≤ b := by
  rw [← Rat.not_lt, ← cmpV_pos_iff]; omega
theorem cmpV_trans (a b c : Rat) (h : cmpV a b ≤ 0) (k : cmpV b c ≤ 0) : cmpV a c ≤ 0 :=
  (cmpV_le_iff a c).2 (Rat.le_trans ((cmpV_le_iff a b).1 h) ((cmpV_le_iff b c).1 k))
/-- What Ceil gives. -/
def ceilV (q : Rat) : Int := if q.num / (q.den : Int) * q.den < q.num then q.num / (q.den : Int) + 1 else q.num / (q.den : Int)
theorem whole_iff (q : Rat) : q.num / (q.den : Int) * q.den = q.num ↔ q.den = 1 := by
  constructor
  · intro h
    have hd : (q.den : Int) ∣ q.num := ⟨q.num / (q.den : Int), by rw [Int.mul_comm]; exact h.symm⟩
    have hn : q.den ∣ q.num.natAbs := Int.ofNat_dvd_left.1 hd
    have r := q.reduced
    have g : Nat.gcd q.num.natAbs q.den = q.den := Nat.gcd_eq_right hn
    rw [Nat.Coprime, g] at r
    exact r
  · intro h
    rw [h]; simp
theorem ceil_facts (q : Rat) : q.num ≤ ceilV q * q.den ∧ ceilV q - q.num / (q.den : Int) ≤ 1 ∧ (ceilV q = q.num / (q.den : Int) ↔ q.den = 1) := by
  have hd : 0 < (q.den : Int) := by have := q.den_pos; omega
  obtain ⟨h1, h2⟩ := floor_facts q.num q.den hd
  have h3 := whole_iff q
  unfold ceilV
  by_cases h : q.num / (q.den : Int) * q.den < q.num
  · rw [if_pos h]
    exact ⟨by omega, by omega, ⟨fun e => by omega, fun e => by have := h3.2 e; omega⟩⟩
  · rw [if_neg h]
    exact ⟨by omega, by omega, ⟨fun _ => h3.1 (by omega), fun _ => rfl⟩⟩

end Go.Proofs.Ytgbjooecomgfoaa.Fr
