/-
  Contracts of AddSpan and SubSpan. Conditions: the limbs read as lists of numbers.
-/
import Derived.Deep.RegionHeld3
import Derived.Deep.DrawnRows
import Derived.Deep.DeepCutAuto
import Derived.Test.YtlhiahhpmjiioaaSpanF
namespace Go.Proofs.Ytlhiahhpmjiioaa
open Go.RowKit


/-- A call that answers a big's result without a code. -/
def BigZ (w : World) (z : Int) (e : Ending) (w' : World) : Prop :=
  ∃ a c, e = .returned (.agg #[.int .i64 0, .bool (isNeg z), .slice a (mag z).length c]) ∧ Sl w' a (mag z).length c (mag z) ∧ Fr w.heap.size a (mag z).length ∧ Kept [] w w'
end Go.Proofs.Ytlhiahhpmjiioaa
