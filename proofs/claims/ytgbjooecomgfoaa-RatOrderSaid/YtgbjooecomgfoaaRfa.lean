/-
  Plain facts of RatField and RatOrder: small fractions as rational numbers, what the operations give of them.
-/
import Derived.Test.YtgbjooecomgfoaaRr
namespace Go.Proofs.Ytgbjooecomgfoaa
open Fr

theorem both_rat (p q : Rat) (hp : lim p) (hq : lim q) : bothV p.num p.den q.num q.den = 0 := bothV_yes (right_of hp) (right_of hq)
theorem addR (p q : Rat) (hp : lim p) (hq : lim q) (h : lim (p + q)) : opV p.num p.den q.num q.den (p.num * q.den + q.num * p.den) (p.den * q.den) = ((p + q).num, ((p + q).den : Int), 0) := by
  rw [opV_yes (both_rat p q hp hq), mkV_add p q hp hq, putV_lim h]
theorem subR (p q : Rat) (hp : lim p) (hq : lim q) (h : lim (p - q)) : opV p.num p.den q.num q.den (p.num * q.den - q.num * p.den) (p.den * q.den) = ((p - q).num, ((p - q).den : Int), 0) := by
  rw [opV_yes (both_rat p q hp hq), mkV_sub p q hp hq, putV_lim h]
theorem mulR (p q : Rat) (hp : lim p) (hq : lim q) (h : lim (p * q)) : opV p.num p.den q.num q.den (p.num * q.num) (p.den * q.den) = ((p * q).num, ((p * q).den : Int), 0) := by
  rw [opV_yes (both_rat p q hp hq), mkV_mul p q hp hq, putV_lim h]
theorem divR (p q : Rat) (hp : lim p) (hq : lim q) (h0 : q.num ≠ 0) (h : lim (p / q)) : opV p.num p.den q.num q.den (p.num * q.den) (p.den * q.num) = ((p / q).num, ((p / q).den : Int), 0) := by
  rw [opV_yes (both_rat p q hp hq), mkV_div p q hp hq h0, putV_lim h]
theorem divR0 (p q : Rat) (hp : lim p) (hq : lim q) (h0 : q.num = 0) : opV p.num p.den q.num q.den (p.num * q.den) (p.den * q.num) = (0, 0, 2) := by
  rw [opV_yes (both_rat p q hp hq), mkV_div0 p q h0]
theorem cmpI_rat (p q : Rat) : cmpI p.num p.den q.num q.den = cmpV p q := by
  unfold cmpI cmpV
  simp only [Rat.lt_iff]
theorem cmpR_rat (p q : Rat) (hp : lim p) (hq : lim q) : cmpR p.num p.den q.num q.den = (cmpV p q, 0) := by
  rw [cmpR_yes (both_rat p q hp hq), cmpI_rat]
/-- What small gives. -/
theorem small_rat (n d : Int) (n1 : -128 ≤ n) (n2 : n ≤ 127) : ∃ q : Rat, mkV n (1 + d % 30) = (q.num, (q.den : Int), 0) ∧ bnd q 128 30 := by
  have e : (((1 + d % 30).toNat : Nat) : Int) = 1 + d % 30 := by omega
  have h := mk_small n (1 + d % 30).toNat (by omega) (by omega) (by omega)
  have b := bnd_small n (1 + d % 30).toNat (by omega) 128 30 (by omega) (by omega)
  rw [e] at h b
  exact ⟨_, h, b⟩

/-- All that RatField computes. -/
theorem field_facts (a b c : Rat) (ha : bnd a 128 30) (hb : bnd b 128 30) (hc : bnd c 128 30) :
    lim a ∧ lim b ∧ lim c ∧ lim (a + b) ∧ lim (a + b + c) ∧ lim (b + c) ∧ lim (a * b) ∧ lim (a * b * c) ∧ lim (b * c) ∧ lim ((a + b) * c) ∧ lim (a * c) := by
  have l : ∀ {q : Rat} {A B : Nat}, bnd q A B → A ≤ 1073741824 → B ≤ 1073741824 → lim q := fun h h1 h2 => bnd_lim h h1 h2
  have hab := bnd_add ha hb
  have hbc := bnd_add hb hc
  have hmab := bnd_mul ha hb
  have hmbc := bnd_mul hb hc
  refine ⟨l ha (by decide) (by decide), l hb (by decide) (by decide), l hc (by decide) (by decide), l hab (by decide) (by decide), l (bnd_add hab hc) (by decide) (by decide), l hbc (by decide) (by decide),
    l hmab (by decide) (by decide), l (bnd_mul hmab hc) (by decide) (by decide), l hmbc (by decide) (by decide), l (bnd_mul hab hc) (by decide) (by decide), l (bnd_mul ha hc) (by decide) (by decide)⟩

end Go.Proofs.Ytgbjooecomgfoaa
