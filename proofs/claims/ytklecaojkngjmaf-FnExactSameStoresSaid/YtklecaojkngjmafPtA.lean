/-
  Contracts of PointFault, the program's and the model's. No condition.
-/
import Derived.Test.YtklecaojkngjmafJ1
namespace Go.Proofs.Ytklecaojkngjmaf
open Go.RowKit

/-- A point without a fault. -/
def InPt (x y : Int) : Prop := (-180000000000 ≤ x ∧ x ≤ 180000000000) ∧ (-90000000000 ≤ y ∧ y ≤ 90000000000)
instance (x y : Int) : Decidable (InPt x y) := by unfold InPt; exact inferInstance
def ptFault (x y : Int) : Int := if InPt x y then 0 else 3
theorem ptFault_yes {x y : Int} (h : InPt x y) : ptFault x y = 0 := if_pos h
theorem ptFault_no {x y : Int} (h : ¬ InPt x y) : ptFault x y = 3 := if_neg h

end Go.Proofs.Ytklecaojkngjmaf
