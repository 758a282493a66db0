/-
  Three closed facts of this program, each by the kernel alone: together with all else they are too much for one declaration. No condition.
-/
import Derived.Test.YtlhiahhpmjiioabDoorRows
import Derived.WalkKit
import Derived.ProofKit
namespace Go.Proofs.YtlhiahhpmjiioabDoor

theorem fEnter : Tryd.pinned.checked.prog.mayEnter = true := by kernel_rfl
theorem fLifts : Tryd.pinned.checked.prog.liftsFinal = false := by kernel_rfl
theorem fMake : Tryd.pinned.checked.prog.make = some Make.cut := by kernel_rfl

end Go.Proofs.YtlhiahhpmjiioabDoor
