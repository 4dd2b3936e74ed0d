/-
  Latest departures in plain numbers: the busy time begins at an arrival; the clearing time bounds what a conforming trace asks for; departures do not fall.
-/
import Derived.Test.YtgbbglnbolihfaaCj
import Derived.Test.YtgbbglnbolihfaaCg
import Derived.Test.YtgbbglnbolihfaaBv
namespace Go.Proofs.Ytgbbglnbolihfaa
open Go.RowKit

theorem cl_zero {r : Int} (hr : 1 ≤ r) : cl (0 * 1048576) r = 0 := by
  have h1 := (cl_le (n := 0 * 1048576) (x := 0) (show 0 < r by omega)).2 (by omega)
  have h2 := cl_nonneg (n := 0 * 1048576) (show 0 < r by omega) (by omega)
  omega
/-- A busy time begins at an arrival. -/
theorem bz_busy {xs : List (Int × Int)} {r : Int} (hr : 1 ≤ r) (j : Nat) (h : ∀ k, k < j + 1 → okAt xs k) : ∃ i m, i + m = j ∧ bz xs r (j + 1) = (fs xs i, Bk.sumF (sn xs) i m) := by
  induction j with
  | zero =>
    have h0 := h 0 (by omega)
    unfold okAt at h0
    have e : bnd 0 0 r = 0 := by unfold bnd; rw [cl_zero hr]; rfl
    have hp : prev xs 0 = 0 := rfl
    refine ⟨0, 0, rfl, ?_⟩
    show (thS 0 0 r (fs xs 0), thO 0 0 r (fs xs 0) (sn xs 0)) = _
    unfold thS thO
    rw [e, if_pos (by omega), if_pos (by omega), Int.zero_add]; rfl
  | succ j ih =>
    obtain ⟨i, m, him, hb⟩ := ih (fun k hk => h k (by omega))
    show ∃ i m, i + m = j + 1 ∧ (thS (bz xs r (j + 1)).1 (bz xs r (j + 1)).2 r (fs xs (j + 1)), thO (bz xs r (j + 1)).1 (bz xs r (j + 1)).2 r (fs xs (j + 1)) (sn xs (j + 1))) = _
    rw [hb]
    unfold thS thO
    by_cases hc : bnd (fs xs i) (Bk.sumF (sn xs) i m) r ≤ fs xs (j + 1)
    · refine ⟨j + 1, 0, rfl, ?_⟩
      rw [if_pos hc, if_pos hc, Int.zero_add]; rfl
    · refine ⟨i, m + 1, by omega, ?_⟩
      rw [if_neg hc, if_neg hc]
      have e : i + m + 1 = j + 1 := by omega
      show _ = (fs xs i, Bk.sumF (sn xs) i m + sn xs (i + m + 1))
      rw [e]
theorem dep_mono {xs : List (Int × Int)} {r l : Int} (hr : 1 ≤ r) (j : Nat) (h : ∀ k, k < j + 2 → okAt xs k) : dep xs r l j ≤ dep xs r l (j + 1) := by
  unfold dep
  have hb := (bz_bd (xs := xs) (r := r) (k := j + 1) (fun k hk => h k (by omega))).2.1
  have ho := h (j + 1) (by omega)
  unfold okAt at ho
  show bnd (bz xs r (j + 1)).1 (bz xs r (j + 1)).2 r + l ≤ bnd (thS (bz xs r (j + 1)).1 (bz xs r (j + 1)).2 r (fs xs (j + 1))) (thO (bz xs r (j + 1)).1 (bz xs r (j + 1)).2 r (fs xs (j + 1)) (sn xs (j + 1))) r + l
  unfold thS thO
  generalize (bz xs r (j + 1)).1 = s at *
  generalize (bz xs r (j + 1)).2 = o at *
  by_cases hc : bnd s o r ≤ fs xs (j + 1)
  · rw [if_pos hc, if_pos hc]
    have hq := cl_nonneg (n := (0 + sn xs (j + 1)) * 1048576) (show 0 < r by omega) (by omega)
    have e : bnd (fs xs (j + 1)) (0 + sn xs (j + 1)) r = fs xs (j + 1) + cl ((0 + sn xs (j + 1)) * 1048576) r := rfl
    rw [e]; omega
  · rw [if_neg hc, if_neg hc]
    unfold bnd
    have := cl_mono (n := o * 1048576) (m := (o + sn xs (j + 1)) * 1048576) (show 0 < r by omega) (by omega)
    omega

/-- What is asked for within t by a flow that keeps all its buckets is sent within t and the clearing time. -/
theorem clear_math {xs : List (Int × Int)} {r X t : Int} (hr : 1 ≤ r ∧ r ≤ 2097152) (hx : bksB xs = true) (ht : 0 ≤ t) (h : ∀ k, k < xs.length → X ≤ fs xs k * 1048576 + sn xs k * t) (hX : cl X r ≤ 9000000000000000000) : cl X r ≤ t + clr xs r := by
  have hb := fun k hk => bkB_iff.1 (bksB_iff.1 hx k hk)
  have key : cl X r - t ≤ clr xs r := by
    refine (le_mn_iff (by omega)).2 (fun y hy => ?_)
    have goal : X ≤ (y + t) * r → cl X r - t ≤ y := fun hh => by
      have := (cl_le (show 0 < r by omega)).2 hh; omega
    obtain ⟨k, hk, hs, rfl | ⟨j, hj, ⟨hc1, hc2⟩, rfl⟩⟩ := mem_dis_iff.1 hy
    · refine goal ?_
      have h1 := h k hk
      have h2 := cl_ge (n := fs xs k * 1048576) (show 0 < r by omega)
      have h3 : sn xs k * t ≤ r * t := Int.mul_le_mul_of_nonneg_right hs ht
      rw [Int.add_mul, Int.mul_comm t r]
      omega
    · refine goal ?_
      have hbk := hb k hk
      have hbj := hb j hj
      have hA := h j hj
      have hB := h k hk
      unfold cr
      obtain ⟨d, hd⟩ : ∃ d, sn xs j - sn xs k = d := ⟨_, rfl⟩
      rw [hd]
      have hd1 : 1 ≤ d := by omega
      have hrd : 0 < r * d := Int.mul_pos (by omega) (by omega)
      have hN := cl_ge (n := ((sn xs j - r) * fs xs k + (r - sn xs k) * fs xs j) * 1048576) hrd
      obtain ⟨y, hy0⟩ : ∃ y, cl (((sn xs j - r) * fs xs k + (r - sn xs k) * fs xs j) * 1048576) (r * d) = y := ⟨_, rfl⟩
      rw [hy0] at hN ⊢
      obtain ⟨al, hal⟩ : ∃ al, r - sn xs k = al := ⟨_, rfl⟩
      obtain ⟨be, hbe⟩ : ∃ be, sn xs j - r = be := ⟨_, rfl⟩
      rw [hal, hbe] at hN
      have h1 := Int.mul_le_mul_of_nonneg_left hA (show 0 ≤ al by omega)
      have h2 := Int.mul_le_mul_of_nonneg_left hB (show 0 ≤ be by omega)
      have e1 : al * X + be * X = X * d := by rw [← Int.add_mul, Int.mul_comm]; congr 1; omega
      have e2 : al * (fs xs j * 1048576 + sn xs j * t) + be * (fs xs k * 1048576 + sn xs k * t) = (be * fs xs k + al * fs xs j) * 1048576 + (al * sn xs j + be * sn xs k) * t := by
        simp only [Int.mul_add, Int.add_mul, Int.mul_assoc]; omega
      have e3 : al * sn xs j + be * sn xs k = r * d := by
        rw [← hal, ← hbe, ← hd]
        simp only [Int.sub_mul, Int.mul_sub]
        rw [Int.mul_comm (sn xs j) (sn xs k)]
        omega
      rw [e3] at e2
      have e4 : (y + t) * r * d = y * (r * d) + r * d * t := by
        rw [Int.add_mul, Int.add_mul, Int.mul_assoc, Int.mul_assoc, Int.mul_comm t (r * d)]
      have h5 : X * d ≤ (y + t) * r * d := by omega
      exact Int.le_of_mul_le_mul_right h5 (by omega)
  omega

/-- The latest departures of a trace that keeps all buckets of a flow. -/
theorem holds_math {xs ys : List (Int × Int)} {r l : Int} (hr : 1 ≤ r ∧ r ≤ 2097152) (hx : bksB xs = true) (hy : ∀ k, k < ys.length → okAt ys k) (hl : ys.length ≤ 200) (hf : ∀ k, k < xs.length → fitB ys (fs xs k) (sn xs k) = true) (j : Nat) (hj : j < ys.length) :
    dep ys r l j ≤ fs ys j + (l + clr xs r) := by
  obtain ⟨i, m, him, hb⟩ := bz_busy (xs := ys) hr.1 j (fun k hk => hy k (by omega))
  have hbd := bz_bd (xs := ys) (r := r) (k := j + 1) (fun k hk => hy k (by omega))
  unfold dep
  rw [hb] at hbd ⊢
  have hm : fs ys i ≤ fs ys j := by have := fs_mono hy i m (by omega); rw [him] at this; exact this
  have hX : cl (Bk.sumF (sn ys) i m * 1048576) r ≤ 9000000000000000000 := Int.le_trans (cl_self_le (by omega) (by have := hbd.2.1; simp at this; omega)) (by have := hbd.2.2; simp at this; omega)
  have key := clear_math (t := fs ys j - fs ys i) (X := Bk.sumF (sn ys) i m * 1048576) hr hx (by omega) (fun k hk => by
    have h1 := fi_neg.1 (of_decide_eq_true (hf k hk)) i m (by omega)
    unfold inI Bk.exc at h1
    rw [him] at h1
    omega) hX
  show fs ys i + cl (Bk.sumF (sn ys) i m * 1048576) r + l ≤ _
  omega

end Go.Proofs.Ytgbbglnbolihfaa
