/-
  Contracts of AddSpan and SubSpan. Conditions: the limbs read as lists of numbers.
-/
import Derived.Deep.RegionHeld3
import Derived.Deep.DrawnRows
import Derived.Deep.DeepCutAuto
import Derived.Test.YtofpommikmdlfaaSpanF
namespace Go.Proofs.Ytofpommikmdlfaa
open Go.RowKit

theorem field_big (v0 v1 v2 : Value) (w : World) : Sem.run Try.prog (Instr.field 74 (.agg #[v0, v1, v2]) 1) w = .ok (.agg #[v1, v2]) w := by kernel_rfl
attribute [local go_sem ↓] field_big
/-- A call that answers a big's result without a code. -/
def BigZ (w : World) (z : Int) (e : Ending) (w' : World) : Prop :=
  ∃ a c, e = .returned (.agg #[.int .i64 0, .bool (isNeg z), .slice a (mag z).length c]) ∧ Sl w' a (mag z).length c (mag z) ∧ Fr w.heap.size a (mag z).length ∧ Kept [] w w'
end Go.Proofs.Ytofpommikmdlfaa
