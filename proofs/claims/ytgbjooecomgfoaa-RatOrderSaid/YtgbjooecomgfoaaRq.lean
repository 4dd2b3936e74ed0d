/-
  Contracts with their results under names; pairs of cells that are kept through calls.
-/
import Derived.Test.YtgbjooecomgfoaaRp
namespace Go.Proofs.Ytgbjooecomgfoaa
open Go.RowKit

/-- Blocks of two integers, as they lie in memory. -/
def Cs : List (Nat × Int × Int) → World → Prop
  | [], _ => True
  | (b, x, y) :: l, w => (b < w.heap.size ∧ w.cell? ⟨b, 0, none⟩ = some (.int .i64 x) ∧ w.cell? ⟨b, 1, none⟩ = some (.int .i64 y)) ∧ Cs l w
theorem Cs.go {l : List (Nat × Int × Int)} {w w' : World} (h : Cs l w) (g : Grown w w') : Cs l w' := by
  induction l with
  | nil => trivial
  | cons x l ih =>
    obtain ⟨b, x, y⟩ := x
    obtain ⟨⟨h1, h2, h3⟩, h4⟩ := h
    exact ⟨⟨Nat.lt_of_lt_of_le h1 g.2.2, (grown_cell g (p := ⟨b, 0, none⟩) h1).trans h2, (grown_cell g (p := ⟨b, 1, none⟩) h1).trans h3⟩, ih h4⟩
theorem Cs.new {l : List (Nat × Int × Int)} {w1 w2 : World} {x y : Int} {t : TypeId} (h : Cs l w1) (g : Grown (w1.alloc (.cells #[.int .i64 x, .int .i64 y] t)) w2) : Cs ((w1.heap.size, x, y) :: l) w2 :=
  ⟨⟨Nat.lt_of_lt_of_le (by simp) g.2.2, (grown_cell g (p := ⟨w1.heap.size, 0, none⟩) (by simp)).trans (by simp [go_sem]), (grown_cell g (p := ⟨w1.heap.size, 1, none⟩) (by simp)).trans (by simp [go_sem])⟩, Cs.go h (grown_trans ((Grown.refl w1).alloc _ _) g)⟩

theorem add_v (a b c d N D E : Int) (w : World) (h : opV a b c d (a * d + c * b) (b * d) = (N, D, E)) :
    Calls Try.prog 16 #[.agg #[.int .i64 a, .int .i64 b], .agg #[.int .i64 c, .int .i64 d]] w fun e w' => e = .returned (.tuple #[.agg #[.int .i64 N, .int .i64 D], .int .i64 E]) ∧ Grown w w' := by
  have := add_any a b c d w; rw [h] at this; exact this
theorem sub_v (a b c d N D E : Int) (w : World) (h : opV a b c d (a * d - c * b) (b * d) = (N, D, E)) :
    Calls Try.prog 18 #[.agg #[.int .i64 a, .int .i64 b], .agg #[.int .i64 c, .int .i64 d]] w fun e w' => e = .returned (.tuple #[.agg #[.int .i64 N, .int .i64 D], .int .i64 E]) ∧ Grown w w' := by
  have := sub_any a b c d w; rw [h] at this; exact this
theorem mul_v (a b c d N D E : Int) (w : World) (h : opV a b c d (a * c) (b * d) = (N, D, E)) :
    Calls Try.prog 20 #[.agg #[.int .i64 a, .int .i64 b], .agg #[.int .i64 c, .int .i64 d]] w fun e w' => e = .returned (.tuple #[.agg #[.int .i64 N, .int .i64 D], .int .i64 E]) ∧ Grown w w' := by
  have := mul_any a b c d w; rw [h] at this; exact this
theorem div_v (a b c d N D E : Int) (w : World) (h : opV a b c d (a * d) (b * c) = (N, D, E)) :
    Calls Try.prog 22 #[.agg #[.int .i64 a, .int .i64 b], .agg #[.int .i64 c, .int .i64 d]] w fun e w' => e = .returned (.tuple #[.agg #[.int .i64 N, .int .i64 D], .int .i64 E]) ∧ Grown w w' := by
  have := div_any a b c d w; rw [h] at this; exact this
theorem min_v (a b c d N D E : Int) (w : World) (h : fuV 1 a b c d = (N, D, E)) :
    Calls Try.prog 26 #[.agg #[.int .i64 a, .int .i64 b], .agg #[.int .i64 c, .int .i64 d]] w fun e w' => e = .returned (.tuple #[.agg #[.int .i64 N, .int .i64 D], .int .i64 E]) ∧ Grown w w' := by
  have := min_any a b c d w; rw [h] at this; exact this
theorem max_v (a b c d N D E : Int) (w : World) (h : fuV (-1) a b c d = (N, D, E)) :
    Calls Try.prog 28 #[.agg #[.int .i64 a, .int .i64 b], .agg #[.int .i64 c, .int .i64 d]] w fun e w' => e = .returned (.tuple #[.agg #[.int .i64 N, .int .i64 D], .int .i64 E]) ∧ Grown w w' := by
  have := max_any a b c d w; rw [h] at this; exact this
theorem radd_v (a b c d N D E : Int) (w : World) (h : opV a b c d (a * d + c * b) (b * d) = (N, D, E)) :
    Calls Try.prog 17 #[.agg #[.int .i64 a, .int .i64 b], .agg #[.int .i64 c, .int .i64 d]] w fun e w' => e = .returned (.tuple #[.agg #[.int .i64 N, .int .i64 D], .int .i64 E]) ∧ Grown w w' := by
  have := radd_any a b c d w; rw [h] at this; exact this
theorem rsub_v (a b c d N D E : Int) (w : World) (h : opV a b c d (a * d - c * b) (b * d) = (N, D, E)) :
    Calls Try.prog 19 #[.agg #[.int .i64 a, .int .i64 b], .agg #[.int .i64 c, .int .i64 d]] w fun e w' => e = .returned (.tuple #[.agg #[.int .i64 N, .int .i64 D], .int .i64 E]) ∧ Grown w w' := by
  have := rsub_any a b c d w; rw [h] at this; exact this
theorem rmul_v (a b c d N D E : Int) (w : World) (h : opV a b c d (a * c) (b * d) = (N, D, E)) :
    Calls Try.prog 21 #[.agg #[.int .i64 a, .int .i64 b], .agg #[.int .i64 c, .int .i64 d]] w fun e w' => e = .returned (.tuple #[.agg #[.int .i64 N, .int .i64 D], .int .i64 E]) ∧ Grown w w' := by
  have := rmul_any a b c d w; rw [h] at this; exact this
theorem rdiv_v (a b c d N D E : Int) (w : World) (h : opV a b c d (a * d) (b * c) = (N, D, E)) :
    Calls Try.prog 23 #[.agg #[.int .i64 a, .int .i64 b], .agg #[.int .i64 c, .int .i64 d]] w fun e w' => e = .returned (.tuple #[.agg #[.int .i64 N, .int .i64 D], .int .i64 E]) ∧ Grown w w' := by
  have := rdiv_any a b c d w; rw [h] at this; exact this
theorem rmin_v (a b c d N D E : Int) (w : World) (h : fuV 1 a b c d = (N, D, E)) :
    Calls Try.prog 27 #[.agg #[.int .i64 a, .int .i64 b], .agg #[.int .i64 c, .int .i64 d]] w fun e w' => e = .returned (.tuple #[.agg #[.int .i64 N, .int .i64 D], .int .i64 E]) ∧ Grown w w' := by
  have := rmin_any a b c d w; rw [h] at this; exact this
theorem rmax_v (a b c d N D E : Int) (w : World) (h : fuV (-1) a b c d = (N, D, E)) :
    Calls Try.prog 29 #[.agg #[.int .i64 a, .int .i64 b], .agg #[.int .i64 c, .int .i64 d]] w fun e w' => e = .returned (.tuple #[.agg #[.int .i64 N, .int .i64 D], .int .i64 E]) ∧ Grown w w' := by
  have := rmax_any a b c d w; rw [h] at this; exact this
theorem floor_v (n d q e0 : Int) (w : World) (h : flV n d = (q, e0)) :
    Calls Try.prog 30 #[.agg #[.int .i64 n, .int .i64 d]] w fun e w' => e = .returned (.tuple #[.int .i64 q, .int .i64 e0]) ∧ Grown w w' := by
  have := floor_any n d w; rw [h] at this; exact this
theorem ceil_v (n d q e0 : Int) (w : World) (h : ceV n d = (q, e0)) :
    Calls Try.prog 32 #[.agg #[.int .i64 n, .int .i64 d]] w fun e w' => e = .returned (.tuple #[.int .i64 q, .int .i64 e0]) ∧ Grown w w' := by
  have := ceil_any n d w; rw [h] at this; exact this
theorem rceil_v (n d q e0 : Int) (w : World) (h : ceV n d = (q, e0)) :
    Calls Try.prog 33 #[.agg #[.int .i64 n, .int .i64 d]] w fun e w' => e = .returned (.tuple #[.int .i64 q, .int .i64 e0]) ∧ Grown w w' := by
  have := rceil_any n d w; rw [h] at this; exact this
theorem rcheck_v (n d v : Int) (w : World) (h : ckV n d = v) :
    Calls Try.prog 13 #[.agg #[.int .i64 n, .int .i64 d]] w fun e w' => e = .returned (.int .i64 v) ∧ Grown w w' := by
  have := rcheck_any n d w; rw [h] at this; exact this

end Go.Proofs.Ytgbjooecomgfoaa
