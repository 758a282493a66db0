/-
 Contracts of divideBigs, FloorDiv, CeilDiv, the program's. Condition: the limbs lie in blocks of numbers.
-/
import Derived.Test.YtakomjocihlacaaBigE
import Derived.Test.YtakomjocihlacaaSSub
import Derived.Test.YtakomjocihlacaaJ1
import Derived.Deep.DeepFit
namespace Go.Proofs.Ytakomjocihlacaa
open Go.RowKit

/-- A row that holds the one limb 1. -/
theorem rd_row1 (w : World) {g : Nat} (hg : w.heap.size = g) : Rd (w.alloc (.cells #[.int .i64 1] 2)) (some ⟨g, 0, none⟩) 1 [1] := by
 subst hg
 have := Sl.ofBlk (Blk.new w [1]) (by simp)
 exact this.rd

end Go.Proofs.Ytakomjocihlacaa
