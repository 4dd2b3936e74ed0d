/-
  What Sum of the reference of package bucket returns.
-/
import Derived.Test.YtajlcagbfebbjaaBn
import Derived.BigRegion
namespace Go.Proofs.Ytajlcagbfebbjaa
open Go.RowKit

theorem Sl.drew {a : Nat} {x y : Int} {w : World} (h : Sl a x y w) : Sl a x y w.drew := ⟨h.c0, h.c1, h.f0, h.f1, h.lt⟩

end Go.Proofs.Ytajlcagbfebbjaa
