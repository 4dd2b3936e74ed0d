/-
  The elements of what pairs returns, and blocks of four integers.
-/
import Derived.Test.YtgbjooecomgfoaaRpairs
namespace Go.Proofs.Ytgbjooecomgfoaa
open Go.RowKit

/-- A block of four integers at A. -/
def Quad (A : Nat) (p q r s : Int) (w : World) : Prop := A < w.heap.size ∧ w.cell? ⟨A, 0, none⟩ = some (.int .i64 p) ∧ w.cell? ⟨A, 1, none⟩ = some (.int .i64 q) ∧ w.cell? ⟨A, 2, none⟩ = some (.int .i64 r) ∧ w.cell? ⟨A, 3, none⟩ = some (.int .i64 s)
theorem Quad.go {A : Nat} {p q r s : Int} {w w' : World} (h : Quad A p q r s w) (g : Grown w w') : Quad A p q r s w' :=
  ⟨Nat.lt_of_lt_of_le h.1 g.2.2, (grown_cell g (p := ⟨A, 0, none⟩) h.1).trans h.2.1, (grown_cell g (p := ⟨A, 1, none⟩) h.1).trans h.2.2.1, (grown_cell g (p := ⟨A, 2, none⟩) h.1).trans h.2.2.2.1, (grown_cell g (p := ⟨A, 3, none⟩) h.1).trans h.2.2.2.2⟩
theorem pairs_elem (z0 z1 z2 z3 z4 z5 z6 z7 z8 z9 z10 z11 z12 z13 z14 z15 : Int) (k : Nat) (hk : k < 4) : ∃ p q r s : Int, ∀ w, (Instr.index 34 (.agg #[.int .i64 z0, .int .i64 z1, .int .i64 z2, .int .i64 z3, .int .i64 z4, .int .i64 z5, .int .i64 z6, .int .i64 z7, .int .i64 z8, .int .i64 z9, .int .i64 z10, .int .i64 z11, .int .i64 z12, .int .i64 z13, .int .i64 z14, .int .i64 z15]) (.int .i64 k)).run Try.prog w = .ok (.agg #[.int .i64 p, .int .i64 q, .int .i64 r, .int .i64 s]) w := by
  match k, hk with
  | 0, _ => exact ⟨z0, z1, z2, z3, fun _ => by kernel_rfl⟩
  | 1, _ => exact ⟨z4, z5, z6, z7, fun _ => by kernel_rfl⟩
  | 2, _ => exact ⟨z8, z9, z10, z11, fun _ => by kernel_rfl⟩
  | 3, _ => exact ⟨z12, z13, z14, z15, fun _ => by kernel_rfl⟩

end Go.Proofs.Ytgbjooecomgfoaa
