/-
  What between, isTime and Check of package clock and Right of its reference return; the local time as a formula, and from when on it is at least a given time.
-/
import Derived.Test.YtaekofoonekkkaaMe
import Derived.Test.YtaekofoonekkkaaTk
namespace Go.Proofs.Ytaekofoonekkkaa
open Go.RowKit

/-- A valid clock, and what Check gives. -/
def ckB (o p : Int) : Bool := btB (-1099511627776) o 1099511627776 && btB (-200000) p 200000
theorem ckB_iff {o p : Int} : ckB o p = true ↔ (-1099511627776 ≤ o ∧ o ≤ 1099511627776) ∧ (-200000 ≤ p ∧ p ≤ 200000) := by unfold ckB; rw [Bool.and_eq_true, btB_iff, btB_iff]
theorem ckB_not {o p : Int} : ckB o p = false ↔ ¬ ((-1099511627776 ≤ o ∧ o ≤ 1099511627776) ∧ (-200000 ≤ p ∧ p ≤ 200000)) := by rw [← ckB_iff]; cases ckB o p <;> simp
def ckE (o p : Int) : Int := if ckB o p then 0 else 190
theorem ckE_t {o p : Int} (h : ckB o p = true) : ckE o p = 0 := by unfold ckE; rw [if_pos h]
theorem ckE_f {o p : Int} (h : ckB o p = false) : ckE o p = 190 := by unfold ckE; rw [if_neg (by simp [h])]
/-- A time. -/
def tmB (t : Int) : Bool := btB 0 t 1099511627776
theorem tmB_iff {t : Int} : tmB t = true ↔ 0 ≤ t ∧ t ≤ 1099511627776 := btB_iff
theorem tmB_not {t : Int} : tmB t = false ↔ ¬ (0 ≤ t ∧ t ≤ 1099511627776) := btB_not

/-- The local time. -/
def atV (o p t : Int) : Int := t + o + t * p / 1000000000
theorem mul_in {p t : Int} (hp : -200000 ≤ p ∧ p ≤ 200000) (ht : 0 ≤ t ∧ t ≤ 1099511627776) : -(t * 200000) ≤ t * p ∧ t * p ≤ t * 200000 := by
  have h1 := Int.mul_le_mul_of_nonneg_left hp.2 ht.1
  have h2 := Int.mul_le_mul_of_nonneg_left hp.1 ht.1
  have h3 : t * -200000 = -(t * 200000) := by omega
  omega
theorem mul_bd {p t : Int} (hp : -200000 ≤ p ∧ p ≤ 200000) (ht : 0 ≤ t ∧ t ≤ 1099511627776) : -219902325555200000 ≤ t * p ∧ t * p ≤ 219902325555200000 := by
  have := mul_in hp ht
  omega
theorem dr_bd {p t : Int} (hp : -200000 ≤ p ∧ p ≤ 200000) (ht : 0 ≤ t ∧ t ≤ 1099511627776) : -219902326 ≤ t * p / 1000000000 ∧ t * p / 1000000000 ≤ 219902325 := by
  have := mul_bd hp ht
  omega
theorem atV_bd {o p t : Int} (hc : ckB o p = true) (ht : tmB t = true) : -1099731530102 ≤ atV o p t ∧ atV o p t ≤ 2199243157877 := by
  obtain ⟨ho, hp⟩ := ckB_iff.1 hc
  have := dr_bd hp (tmB_iff.1 ht)
  have := tmB_iff.1 ht
  unfold atV
  omega
/-- From when on the local time is at least l. -/
def cel (o p l : Int) : Int := -((o - l) * 1000000000 / (1000000000 + p))
theorem cel_iff {o p l t : Int} (hp : -200000 ≤ p) : cel o p l ≤ t ↔ l ≤ atV o p t := by
  unfold cel atV
  have h1 : (-t) ≤ (o - l) * 1000000000 / (1000000000 + p) ↔ (-t) * (1000000000 + p) ≤ (o - l) * 1000000000 := Int.le_ediv_iff_mul_le (by omega)
  have e : (-t) * (1000000000 + p) = -(t * 1000000000) - t * p := by rw [Int.mul_add, Int.neg_mul, Int.neg_mul]; omega
  rw [e] at h1
  generalize t * p = m at *
  generalize (o - l) * 1000000000 / (1000000000 + p) = q at *
  constructor
  · intro h
    have := h1.1 (by omega)
    omega
  · intro h
    have := h1.2 (by omega)
    omega
theorem atV_mono {o p s t : Int} (hp : -200000 ≤ p) (h : s ≤ t) : atV o p s ≤ atV o p t := by
  have h1 := (cel_iff (o := o) (l := atV o p s) (t := s) hp).2 (Int.le_refl _)
  exact (cel_iff hp).1 (by omega)
/-- The least time from 0 on at which the local time is at least l. -/
def fst (o p l : Int) : Int := max 0 (cel o p l)
/-- What True gives. -/
def trV (o p l : Int) : Int := if fst o p l ≤ 1099511627776 then fst o p l else 0
def trE (o p l : Int) : Int := if fst o p l ≤ 1099511627776 then 0 else 4

set_option maxHeartbeats 400000 in
theorem cbetween_any (a x b : Int) (w : World) :
    Calls Try.prog 28 #[.int .i64 a, .int .i64 x, .int .i64 b] w fun e w' => e = .returned (.bool (btB a x b)) ∧ w = w' := by
  by_cases h1 : a ≤ x
  · by_cases h2 : x ≤ b
    · go_enter Try.func28, Try.ntmps28
      go_wp2
      go_ret
      exact ⟨ret_bool (btB_t ⟨h1, h2⟩).symm, rfl⟩
    · go_enter Try.func28, Try.ntmps28
      go_wp2
      go_ret
      exact ⟨ret_bool (btB_f (by omega)).symm, rfl⟩
  · go_enter Try.func28, Try.ntmps28
    go_wp2
    go_ret
    exact ⟨ret_bool (btB_f (by omega)).symm, rfl⟩
theorem cbetween_v {a x b : Int} {c : Bool} (h : btB a x b = c) (w : World) :
    Calls Try.prog 28 #[.int .i64 a, .int .i64 x, .int .i64 b] w fun e w' => e = .returned (.bool c) ∧ w = w' := by
  have := cbetween_any a x b w; rw [h] at this; exact this
theorem isTime_any (t : Int) (w : World) :
    Calls Try.prog 25 #[.int .i64 t] w fun e w' => e = .returned (.bool (tmB t)) ∧ w = w' := by
  have K := Lib.hid (fun w => cbetween_any 0 t 1099511627776 w)
  go_enter Try.func25, Try.ntmps25
  go_wp2_with fail
  refine (K.out _).mono ?_; rintro e w1 ⟨rfl, rfl⟩
  go_wp2_with fail
  go_ret
  exact ⟨rfl, rfl⟩
theorem isTime_v {t : Int} {c : Bool} (h : tmB t = c) (w : World) :
    Calls Try.prog 25 #[.int .i64 t] w fun e w' => e = .returned (.bool c) ∧ w = w' := by
  have := isTime_any t w; rw [h] at this; exact this

set_option maxHeartbeats 400000 in
theorem ccheck_any (o p : Int) (w : World) :
    Calls Try.prog 15 #[.agg #[.int .i64 o, .int .i64 p]] w fun e w' => e = .returned (.int .i64 (ckE o p)) ∧ Bl w w' := by
  rcases bcase (btB (-1099511627776) o 1099511627776) with h1 | h1
  · rcases bcase (btB (-200000) p 200000) with h2 | h2
    · have e := ckE_t (o := o) (p := p) (by unfold ckB; rw [h1, h2]; rfl)
      have K1 := Lib.hid (fun w => cbetween_v h1 w)
      have K2 := Lib.hid (fun w => cbetween_v h2 w)
      have E := Lib.hid e
      clear h1 h2 e
      go_enter Try.func15, Try.ntmps15
      go_wp2_with fail
      refine (K1.out _).mono ?_; rintro e w1 ⟨rfl, rfl⟩
      go_wp2_with fail
      refine (K2.out _).mono ?_; rintro e w1 ⟨rfl, rfl⟩
      go_wp2_with fail
      go_ret
      exact ⟨ret_int E.out.symm, (Bl.refl _).alloc _⟩
    · have e := ckE_f (o := o) (p := p) (by unfold ckB; rw [h1, h2]; rfl)
      have K1 := Lib.hid (fun w => cbetween_v h1 w)
      have K2 := Lib.hid (fun w => cbetween_v h2 w)
      have E := Lib.hid e
      clear h1 h2 e
      go_enter Try.func15, Try.ntmps15
      go_wp2_with fail
      refine (K1.out _).mono ?_; rintro e w1 ⟨rfl, rfl⟩
      go_wp2_with fail
      refine (K2.out _).mono ?_; rintro e w1 ⟨rfl, rfl⟩
      go_wp2_with fail
      go_ret
      exact ⟨ret_int E.out.symm, (Bl.refl _).alloc _⟩
  · have e := ckE_f (o := o) (p := p) (by unfold ckB; rw [h1]; rfl)
    have K1 := Lib.hid (fun w => cbetween_v h1 w)
    have E := Lib.hid e
    clear h1 e
    go_enter Try.func15, Try.ntmps15
    go_wp2_with fail
    refine (K1.out _).mono ?_; rintro e w1 ⟨rfl, rfl⟩
    go_wp2_with fail
    go_ret
    exact ⟨ret_int E.out.symm, (Bl.refl _).alloc _⟩
theorem ccheck_v {o p v : Int} (h : ckE o p = v) (w : World) :
    Calls Try.prog 15 #[.agg #[.int .i64 o, .int .i64 p]] w fun e w' => e = .returned (.int .i64 v) ∧ Bl w w' := by
  have := ccheck_any o p w; rw [h] at this; exact this

set_option maxHeartbeats 400000 in
theorem cright_any (o p : Int) (w : World) :
    Calls Try.prog 14 #[.agg #[.int .i64 o, .int .i64 p]] w fun e w' => e = .returned (.bool (ckB o p)) ∧ Bl w w' := by
  by_cases h1 : -1099511627776 ≤ o
  · by_cases h2 : o ≤ 1099511627776
    · by_cases h3 : -200000 ≤ p
      · by_cases h4 : p ≤ 200000
        · go_enter Try.func14, Try.ntmps14
          go_wp2
          go_ret
          exact ⟨ret_bool (ckB_iff.2 (by omega)).symm, (Bl.refl _).alloc _⟩
        · go_enter Try.func14, Try.ntmps14
          go_wp2
          go_ret
          exact ⟨ret_bool (ckB_not.2 (by omega)).symm, (Bl.refl _).alloc _⟩
      · go_enter Try.func14, Try.ntmps14
        go_wp2
        go_ret
        exact ⟨ret_bool (ckB_not.2 (by omega)).symm, (Bl.refl _).alloc _⟩
    · go_enter Try.func14, Try.ntmps14
      go_wp2
      go_ret
      exact ⟨ret_bool (ckB_not.2 (by omega)).symm, (Bl.refl _).alloc _⟩
  · go_enter Try.func14, Try.ntmps14
    go_wp2
    go_ret
    exact ⟨ret_bool (ckB_not.2 (by omega)).symm, (Bl.refl _).alloc _⟩
theorem cright_v {o p : Int} {v : Bool} (h : ckB o p = v) (w : World) :
    Calls Try.prog 14 #[.agg #[.int .i64 o, .int .i64 p]] w fun e w' => e = .returned (.bool v) ∧ Bl w w' := by
  have := cright_any o p w; rw [h] at this; exact this

end Go.Proofs.Ytaekofoonekkkaa
