/-
  The types of the arguments of stage 6's laws.
-/
import Derived.Test.YtdpibihdpnghlaaShw
import Derived.Test.YtdpibihdpnghlaaKl
import Derived.Test.YtdpibihdpnghlaaNs
import Derived.ShutString
import Derived.ChangeMaps5
import Derived.Carry
namespace Go.Proofs.Ytdpibihdpnghlaa
open Go.ChangeShapes Go.WideShapes Go.ChangeAt Go.WideMaps Go.WideElems Go.RowKit

def lawTys6 : List TypeId := [22, 29, 5, 9, 35]
theorem lawTys6_good : ∀ t ∈ lawTys6, goodTy Try.prog lawTys6 t = true := List.all_eq_true.1 (by kernel_rfl)
/-- An unsigned integer as a number from 0 on. -/
theorem nat_u32 {n : Int} (h : (Lit.int .u32 n).wf = true) : ∃ c : Nat, n = (c : Int) ∧ c < 4294967296 := by
  have h2 := bounds_u32 h
  exact ⟨n.toNat, by omega, by omega⟩
theorem nat_u16 {n : Int} (h : (Lit.int .u16 n).wf = true) : ∃ c : Nat, n = (c : Int) ∧ c < 65536 := by
  have h2 := bounds_u16 h
  exact ⟨n.toNat, by omega, by omega⟩
theorem nat_u8 {n : Int} (h : (Lit.int .u8 n).wf = true) : ∃ c : Nat, n = (c : Int) ∧ c < 256 := by
  have h2 := bounds_u8 h
  exact ⟨n.toNat, by omega, by omega⟩

end Go.Proofs.Ytdpibihdpnghlaa
