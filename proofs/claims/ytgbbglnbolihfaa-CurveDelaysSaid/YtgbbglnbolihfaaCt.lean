/-
  The types of the arguments of stage 4's laws.
-/
import Derived.Test.YtgbbglnbolihfaaBy
import Derived.Carry
namespace Go.Proofs.Ytgbbglnbolihfaa
open Go.ChangeShapes Go.WideShapes Go.ChangeAt Go.WideMaps Go.WideElems Go.RowKit

def lawTys4 : List TypeId := [3, 5, 79, 22, 4, 23, 83, 30, 35, 54, 39, 32, 25, 63, 64, 55, 85]
theorem lawTys4_good : ∀ t ∈ lawTys4, goodTy Try.prog lawTys4 t = true := List.all_eq_true.1 (by kernel_rfl)

end Go.Proofs.Ytgbbglnbolihfaa
