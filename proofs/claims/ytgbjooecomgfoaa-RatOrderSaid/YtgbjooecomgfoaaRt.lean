/-
  A fraction as an argument by value, opened and shut.
-/
import Derived.Test.YtgbjooecomgfoaaRr
import Derived.ProofKit
import Derived.OpenShut
import Derived.DataBytes
import Derived.Lib.SmallJoins
namespace Go.Proofs.Ytgbjooecomgfoaa
open Go.ChangeShapes Go.WideShapes Go.ChangeAt Go.RowKit

section
variable {H : Type} {enc : TypeId × Value → H} {w : World} {base : Nat} {spare : Nat → Bool} {held : Bool}
theorem open_rat {r : Reach} {b0 : Nat} {v : Value} {d : DataW H} {p : List MemPlace} (hv : Value.okWide Try.prog w r b0 23 v) (h : DataW.Trod enc Try.prog w base spare held 23 v d p) :
    ∃ x y : Int, v = .agg #[.int .i64 x, .int .i64 y] ∧ d = .agg [.lit (.int .i64 x), .lit (.int .i64 y)] ∧ p = [] ∧ (Lit.int .i64 x).wf = true ∧ (Lit.int .i64 y).wf = true := by
  obtain ⟨v0, v1, y0, y1, n, rfl, rfl, rfl, t0, t1⟩ := Go.Joins.open_agg2 Try.underlying23 (by kernel_rfl) (by kernel_rfl) hv h
  obtain ⟨x, e1, e2, e3⟩ := DataW.trod_int Try.underlying3 t0
  obtain ⟨y, f1, f2, f3⟩ := DataW.trod_int Try.underlying3 t1
  obtain rfl : v0 = .int .i64 x := by simpa using e1
  obtain rfl : v1 = .int .i64 y := by simpa using f1
  subst e2 f2
  exact ⟨x, y, rfl, rfl, rfl, e3, f3⟩
theorem shut_rat {x y : Int} (hx : (Lit.int .i64 x).wf = true) (hy : (Lit.int .i64 y).wf = true) :
    DataW.Trod enc Try.prog w base spare held 23 (.agg #[.int .i64 x, .int .i64 y]) (.agg [.lit (.int .i64 x), .lit (.int .i64 y)]) [] :=
  Go.Joins.shut_agg2 (y0 := (.lit (.int .i64 x), [])) (y1 := (.lit (.int .i64 y), [])) Try.underlying23 (by kernel_rfl) (by kernel_rfl) (shut_int Try.underlying3 hx) (shut_int Try.underlying3 hy)
end
end Go.Proofs.Ytgbjooecomgfoaa
