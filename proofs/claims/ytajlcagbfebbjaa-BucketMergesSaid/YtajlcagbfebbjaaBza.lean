/-
  Words for BucketMerges: a slice of Bools; the sum of two buckets.
-/
import Derived.Test.YtajlcagbfebbjaaBw
import Derived.Test.YtajlcagbfebbjaaBz
import Derived.Test.YtajlcagbfebbjaaBn
import Derived.Test.YtajlcagbfebbjaaBq
namespace Go.Proofs.Ytajlcagbfebbjaa
open Go.RowKit Go.ChangeShapes Go.WideShapes Go.ChangeAt Go.WideMaps Go.WideElems

/-- A slice of Bools as it lies in memory. -/
def Ub (w : World) (A : Option Addr) (bs : List Bool) : Prop :=
  ∀ k, k < bs.length → ∃ b off, A = some ⟨b, off, none⟩ ∧ b < w.heap.size ∧ w.cell? ⟨b, off + k, none⟩ = some (.bool (bs.getD k false))
theorem Ub.go {w w' : World} {A : Option Addr} {bs : List Bool} (h : Ub w A bs) (g : Bl w w') : Ub w' A bs := fun k hk => by
  obtain ⟨b, off, h1, h2, h3⟩ := h k hk
  exact ⟨b, off, h1, Nat.lt_of_lt_of_le h2 g.size, (g.cell (p := ⟨b, _, none⟩) h2).trans h3⟩

theorem two_all {U V P Q : Int} (hU : 1 ≤ U ∧ U ≤ 524289) (hV : 1 ≤ V ∧ V ≤ 524289) (hP : 1 ≤ P ∧ P ≤ 524289) (hQ : 1 ≤ Q ∧ Q ≤ 524289) : allK [(U, P), (V, Q)] = true := allK_iff.2 fun k hk => by
  match k, hk with
  | 0, _ => exact bkB_iff.2 (show (1 ≤ U ∧ U ≤ 1048576) ∧ (1 ≤ P ∧ P ≤ 2097152) by omega)
  | 1, _ => exact bkB_iff.2 (show (1 ≤ V ∧ V ≤ 1048576) ∧ (1 ≤ Q ∧ Q ≤ 2097152) by omega)
theorem two_acc (U V P Q : Int) : acc (fs [(U, P), (V, Q)]) [(U, P), (V, Q)].length = U + V ∧ acc (sn [(U, P), (V, Q)]) [(U, P), (V, Q)].length = P + Q := by
  constructor
  · show 0 + U + V = U + V; omega
  · show 0 + P + Q = P + Q; omega
theorem two_ok {U V P Q : Int} (hU : 1 ≤ U ∧ U ≤ 524289) (hV : 1 ≤ V ∧ V ≤ 524289) (hP : 1 ≤ P ∧ P ≤ 524289) (hQ : 1 ≤ Q ∧ Q ≤ 524289) (h : U + V ≤ 1048576) : suV [(U, P), (V, Q)] = (U + V, P + Q, 0) := by
  have e := two_acc U V P Q
  rw [suV_ok (by simp) (by simp) (two_all hU hV hP hQ) (by rw [e.1, e.2]; exact bkB_iff.2 (by omega)), e.1, e.2]
theorem two_big {U V P Q : Int} (hU : 1 ≤ U ∧ U ≤ 524289) (hV : 1 ≤ V ∧ V ≤ 524289) (hP : 1 ≤ P ∧ P ≤ 524289) (hQ : 1 ≤ Q ∧ Q ≤ 524289) (h : 1048576 < U + V) : suV [(U, P), (V, Q)] = (0, 0, 6) := by
  have e := two_acc U V P Q
  exact suV_big (by simp) (by simp) (two_all hU hV hP hQ) (by rw [e.1, e.2]; exact bkB_not.2 (by omega))

end Go.Proofs.Ytajlcagbfebbjaa
