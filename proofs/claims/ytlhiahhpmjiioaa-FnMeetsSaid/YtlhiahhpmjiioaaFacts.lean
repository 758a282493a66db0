/-
  Three closed facts of this program, each by the kernel alone: together with all else they are too much for one declaration. No condition.
-/
import Derived.Test.YtlhiahhpmjiioaaRows
import Derived.WalkKit
import Derived.ProofKit
namespace Go.Proofs.Ytlhiahhpmjiioaa

theorem fEnter : Try.pinned.checked.prog.mayEnter = true := by kernel_rfl
theorem fLifts : Try.pinned.checked.prog.liftsFinal = false := by kernel_rfl
theorem fMake : Try.pinned.checked.prog.make = some Make.cut := by kernel_rfl

end Go.Proofs.Ytlhiahhpmjiioaa
