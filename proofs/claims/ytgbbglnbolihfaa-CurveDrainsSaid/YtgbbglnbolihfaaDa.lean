/-
  The latest departures, as the chapter has them: the greatest, over all frames that came before. In plain numbers.
-/
import Derived.Test.YtgbbglnbolihfaaCza
namespace Go.Proofs.Ytgbbglnbolihfaa
open Go.RowKit

/-- The sum of the last m sizes up to j. -/
def szr (xs : List (Int × Int)) (j : Nat) : Nat → Int
  | 0 => 0
  | m + 1 => szr xs j m + sn xs (j - m)
/-- The greatest over the last m frames up to j. -/
def rmx (xs : List (Int × Int)) (r l : Int) (j : Nat) : Nat → Int
  | 0 => 0
  | m + 1 => max (rmx xs r l j m) (fs xs (j - m) + l + cl (szr xs j (m + 1) * 1048576) r)
theorem sumF_front (g : Nat → Int) (i m : Nat) : Bk.sumF g i (m + 1) = g i + Bk.sumF g (i + 1) m := by
  induction m with
  | zero => rfl
  | succ m ih =>
    show Bk.sumF g i (m + 1) + g (i + (m + 1) + 1) = g i + (Bk.sumF g (i + 1) m + g (i + 1 + m + 1))
    rw [ih, show i + (m + 1) + 1 = i + 1 + m + 1 by omega]
    omega
theorem szr_sum (xs : List (Int × Int)) (j m : Nat) (h : m ≤ j) : szr xs j (m + 1) = Bk.sumF (sn xs) (j - m) m := by
  induction m with
  | zero => show 0 + sn xs (j - 0) = sn xs (j - 0); omega
  | succ m ih =>
    show szr xs j (m + 1) + sn xs (j - (m + 1)) = _
    rw [ih (by omega), sumF_front, show j - (m + 1) + 1 = j - m by omega]
    omega
theorem szr_bd {xs : List (Int × Int)} {j m : Nat} (h : ∀ k, k < j + 1 → okAt xs k) (hm : m ≤ j + 1) : 0 ≤ szr xs j m ∧ szr xs j m ≤ (m : Int) * 1048576 := by
  induction m with
  | zero => exact ⟨Int.le_refl _, by simp [szr]⟩
  | succ m ih =>
    have h1 := ih (by omega)
    have h2 := h (j - m) (by omega)
    unfold okAt at h2
    show 0 ≤ szr xs j m + sn xs (j - m) ∧ szr xs j m + sn xs (j - m) ≤ _
    omega
theorem bz_max {xs : List (Int × Int)} {r : Int} (hr : 1 ≤ r) (j : Nat) (h : ∀ k, k < j + 1 → okAt xs k) (i m : Nat) (him : i + m = j) :
    fs xs i * r + Bk.sumF (sn xs) i m * 1048576 ≤ (bz xs r (j + 1)).1 * r + (bz xs r (j + 1)).2 * 1048576 := by
  have ble : ∀ s o t : Int, bnd s o r ≤ t ↔ s * r + o * 1048576 ≤ t * r := fun s o t => by
    unfold bnd
    have := @cl_le (o * 1048576) r (t - s) (by omega)
    rw [Int.sub_mul] at this
    omega
  induction j generalizing i m with
  | zero =>
    obtain rfl : i = 0 := by omega
    obtain rfl : m = 0 := by omega
    have h0 := h 0 (by omega)
    unfold okAt at h0
    have hp : prev xs 0 = 0 := rfl
    have e : bnd 0 0 r = 0 := by unfold bnd; rw [cl_zero hr]; rfl
    show _ ≤ thS 0 0 r (fs xs 0) * r + thO 0 0 r (fs xs 0) (sn xs 0) * 1048576
    unfold thS thO
    rw [e, if_pos (by omega), if_pos (by omega), Int.zero_add]
    exact Int.le_refl _
  | succ j ih =>
    have hih := fun i m e => ih (fun k hk => h k (by omega)) i m e
    show _ ≤ thS (bz xs r (j + 1)).1 (bz xs r (j + 1)).2 r (fs xs (j + 1)) * r + thO (bz xs r (j + 1)).1 (bz xs r (j + 1)).2 r (fs xs (j + 1)) (sn xs (j + 1)) * 1048576
    generalize (bz xs r (j + 1)).1 = s at *
    generalize (bz xs r (j + 1)).2 = o at *
    unfold thS thO
    have hb := ble s o (fs xs (j + 1))
    cases m with
    | zero =>
      obtain rfl : i = j + 1 := by omega
      have e : Bk.sumF (sn xs) (j + 1) 0 = sn xs (j + 1) := rfl
      rw [e]
      by_cases hc : bnd s o r ≤ fs xs (j + 1)
      · rw [if_pos hc, if_pos hc, Int.zero_add]; exact Int.le_refl _
      · rw [if_neg hc, if_neg hc, Int.add_mul]
        have : ¬ s * r + o * 1048576 ≤ fs xs (j + 1) * r := fun hh => hc (hb.2 hh)
        omega
    | succ m =>
      have h1 := hih i m (by omega)
      have e : Bk.sumF (sn xs) i (m + 1) = Bk.sumF (sn xs) i m + sn xs (i + m + 1) := rfl
      have e2 : i + m + 1 = j + 1 := by omega
      rw [e, e2, Int.add_mul]
      by_cases hc : bnd s o r ≤ fs xs (j + 1)
      · rw [if_pos hc, if_pos hc, Int.zero_add]
        have := hb.1 hc
        omega
      · rw [if_neg hc, if_neg hc, Int.add_mul]
        omega
theorem bnd_le_of {s o a b r : Int} (hr : 1 ≤ r) (h : a * r + b * 1048576 ≤ s * r + o * 1048576) : a + cl (b * 1048576) r ≤ bnd s o r := by
  unfold bnd
  have h1 := cl_add_mul (n := b * 1048576) (x := a) (show 0 < r by omega)
  have h2 := cl_add_mul (n := o * 1048576) (x := s) (show 0 < r by omega)
  have h3 := cl_mono (n := b * 1048576 + a * r) (m := o * 1048576 + s * r) (show 0 < r by omega) (by omega)
  omega
theorem rmx_le {xs : List (Int × Int)} {r l : Int} (hr : 1 ≤ r) (hl : 0 ≤ l) (j : Nat) (h : ∀ k, k < j + 1 → okAt xs k) (m : Nat) (hm : m ≤ j + 1) : rmx xs r l j m ≤ dep xs r l j := by
  induction m with
  | zero =>
    have hb := bz_bd (xs := xs) (r := r) (k := j + 1) h
    have := cl_nonneg (n := (bz xs r (j + 1)).2 * 1048576) (show 0 < r by omega) (by omega)
    show 0 ≤ (bz xs r (j + 1)).1 + cl ((bz xs r (j + 1)).2 * 1048576) r + l
    omega
  | succ m ih =>
    have h1 := ih (by omega)
    have h2 := bnd_le_of (s := (bz xs r (j + 1)).1) (o := (bz xs r (j + 1)).2) hr (bz_max hr j h (j - m) m (by omega))
    rw [← szr_sum xs j m (by omega)] at h2
    show max (rmx xs r l j m) (fs xs (j - m) + l + cl (szr xs j (m + 1) * 1048576) r) ≤ dep xs r l j
    unfold dep at h1 ⊢
    omega
theorem rmx_get {xs : List (Int × Int)} {r l : Int} (j m M : Nat) (h : m < M) : fs xs (j - m) + l + cl (szr xs j (m + 1) * 1048576) r ≤ rmx xs r l j M := by
  induction M with
  | zero => omega
  | succ M ih =>
    show _ ≤ max (rmx xs r l j M) _
    rcases Nat.lt_or_ge m M with h' | h'
    · have := ih h'; omega
    · obtain rfl : m = M := by omega
      omega
theorem rmx_dep {xs : List (Int × Int)} {r l : Int} (hr : 1 ≤ r) (hl : 0 ≤ l) (j : Nat) (h : ∀ k, k < j + 1 → okAt xs k) : rmx xs r l j (j + 1) = dep xs r l j := by
  have h1 := rmx_le (l := l) hr hl j h (j + 1) (Nat.le_refl _)
  obtain ⟨i, m, him, hb⟩ := bz_busy hr j h
  have h2 := rmx_get (xs := xs) (r := r) (l := l) j m (j + 1) (by omega)
  rw [szr_sum xs j m (by omega), show j - m = i by omega] at h2
  have h3 : dep xs r l j = fs xs i + cl (Bk.sumF (sn xs) i m * 1048576) r + l := by unfold dep bnd; rw [hb]
  omega

end Go.Proofs.Ytgbbglnbolihfaa
