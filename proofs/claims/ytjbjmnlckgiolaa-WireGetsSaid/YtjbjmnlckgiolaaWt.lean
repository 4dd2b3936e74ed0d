/-
  The types of the arguments of stage 5's laws.
-/
import Derived.Test.YtjbjmnlckgiolaaShw
import Derived.Test.YtjbjmnlckgiolaaWi
import Derived.Test.YtjbjmnlckgiolaaNs
import Derived.ShutString
import Derived.ChangeMaps5
import Derived.Carry
namespace Go.Proofs.Ytjbjmnlckgiolaa
open Go.ChangeShapes Go.WideShapes Go.ChangeAt Go.WideMaps Go.WideElems Go.RowKit

def lawTys5 : List TypeId := [3, 5, 9, 30]
theorem lawTys5_good : ∀ t ∈ lawTys5, goodTy Try.prog lawTys5 t = true := List.all_eq_true.1 (by kernel_rfl)

end Go.Proofs.Ytjbjmnlckgiolaa
