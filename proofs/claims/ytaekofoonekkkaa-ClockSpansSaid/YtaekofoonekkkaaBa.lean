/-
  Plain arithmetic of token buckets (stage 3): the greatest demand of the intervals that end at an arrival, by a recursion, and the token level.
-/
import Derived.KernelRfl
namespace Go.Proofs.Ytaekofoonekkkaa.Bk

section
variable (tm sz : Nat → Int) (R U : Int)

/-- The sum of the sizes from i to i + n. -/
def sumF (i : Nat) : Nat → Int
  | 0 => sz i
  | n + 1 => sumF i n + sz (i + n + 1)
/-- What the interval from i to i + n asks for beyond its rate. -/
def exc (i n : Nat) : Int := sumF sz i n * U - R * (tm (i + n) - tm i)
/-- The greatest demand of the intervals that end at k. -/
def dem : Nat → Int
  | 0 => sz 0 * U
  | k + 1 => max (dem k - R * (tm (k + 1) - tm k)) 0 + sz (k + 1) * U

theorem exc_zero (i : Nat) : exc tm sz R U i 0 = sz i * U := by
  unfold exc sumF
  rw [Nat.add_zero, Int.sub_self, Int.mul_zero, Int.sub_zero]
theorem exc_succ (i n : Nat) : exc tm sz R U i (n + 1) = exc tm sz R U i n - R * (tm (i + n + 1) - tm (i + n)) + sz (i + n + 1) * U := by
  unfold exc
  rw [show sumF sz i (n + 1) = sumF sz i n + sz (i + n + 1) from rfl, Int.add_mul, ← Nat.add_assoc]
  have e : R * (tm (i + n + 1) - tm i) = R * (tm (i + n) - tm i) + R * (tm (i + n + 1) - tm (i + n)) := by rw [← Int.mul_add]; congr 1; omega
  rw [e]; omega
/-- The recursion gives the greatest of all intervals that end at k. -/
theorem dem_le (k : Nat) : ∀ M : Int, dem tm sz R U k ≤ M ↔ ∀ i n, i + n = k → exc tm sz R U i n ≤ M := by
  induction k with
  | zero =>
    intro M
    constructor
    · intro h i n hi
      obtain rfl : i = 0 := by omega
      obtain rfl : n = 0 := by omega
      rw [exc_zero]; exact h
    · intro h
      have := h 0 0 rfl
      rw [exc_zero] at this; exact this
  | succ k ih =>
    intro M
    have h1 := ih (M - sz (k + 1) * U + R * (tm (k + 1) - tm k))
    constructor
    · intro h i n hi
      have h' : max (dem tm sz R U k - R * (tm (k + 1) - tm k)) 0 + sz (k + 1) * U ≤ M := h
      match n, hi with
      | 0, hi =>
        obtain rfl : i = k + 1 := by omega
        rw [exc_zero]; omega
      | n + 1, hi =>
        have h2 := (h1.1 (by omega)) i n (by omega)
        rw [exc_succ, show i + n = k by omega]
        omega
    · intro h
      show max (dem tm sz R U k - R * (tm (k + 1) - tm k)) 0 + sz (k + 1) * U ≤ M
      have h2 := h (k + 1) 0 (by omega)
      rw [exc_zero] at h2
      have h3 := h1.2 (fun i n hi => by
        have := h i (n + 1) (by omega)
        rw [exc_succ, show i + n = k by omega] at this
        omega)
      omega
/-- The token level behind arrival k, as the chapter computes it (full at the first arrival). -/
def lev (F : Int) : Nat → Int
  | 0 => F - sz 0 * U
  | k + 1 => min F (lev F k + R * (tm (k + 1) - tm k)) - sz (k + 1) * U
theorem lev_dem (F : Int) (k : Nat) : lev tm sz R U F k = F - dem tm sz R U k := by
  induction k with
  | zero => rfl
  | succ k ih =>
    show min F (lev tm sz R U F k + R * (tm (k + 1) - tm k)) - sz (k + 1) * U = F - (max (dem tm sz R U k - R * (tm (k + 1) - tm k)) 0 + sz (k + 1) * U)
    rw [ih]; omega
/-- The first k arrivals conform: no interval among them asks for more than F. -/
def confTo (F : Int) (k : Nat) : Prop := ∀ i n, i + n < k → exc tm sz R U i n ≤ F
theorem confTo_dem (F : Int) (k : Nat) : confTo tm sz R U F k ↔ ∀ j, j < k → dem tm sz R U j ≤ F := by
  constructor
  · intro h j hj
    exact (dem_le tm sz R U j F).2 (fun i n hi => h i n (by omega))
  · intro h i n hi
    exact (dem_le tm sz R U (i + n) F).1 (h _ hi) i n rfl
theorem confTo_lev (F : Int) (k : Nat) : confTo tm sz R U F k ↔ ∀ j, j < k → 0 ≤ lev tm sz R U F j := by
  rw [confTo_dem]
  exact ⟨fun h j hj => by have := h j hj; rw [lev_dem]; omega, fun h j hj => by have := h j hj; rw [lev_dem] at this; omega⟩
theorem confTo_mono {F : Int} {k m : Nat} (h : confTo tm sz R U F k) (hm : m ≤ k) : confTo tm sz R U F m := fun i n hi => h i n (by omega)
end

/-- The burst that an interval needs: its octets less what its time gains, rounded down. -/
theorem need_iff (s B x U : Int) (hU : 0 < U) : (s - B) * U ≤ x ↔ s - x / U ≤ B := by
  rw [← Int.le_ediv_iff_mul_le hU]; omega
/-- A greater rate needs no greater burst. -/
theorem need_mono (s x y U : Int) (hU : 0 < U) (h : x ≤ y) : s - y / U ≤ s - x / U := by
  have := Int.ediv_le_ediv hU h
  omega
/-- In the chapter's form: an interval of s octets and g ticks against Burst B and Rate R. -/
theorem fits_iff (s B R g U : Int) : (s - B) * U ≤ R * g ↔ s * U - R * g ≤ B * U := by
  rw [Int.sub_mul]; omega

end Go.Proofs.Ytaekofoonekkkaa.Bk
