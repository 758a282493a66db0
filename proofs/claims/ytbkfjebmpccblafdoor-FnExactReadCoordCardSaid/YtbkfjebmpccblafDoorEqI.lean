/-
  The law's comparison of two IntResults. No condition.
-/
import Derived.Test.YtbkfjebmpccblafDoorJ1
namespace Go.Proofs.YtbkfjebmpccblafDoor
open Go.RowKit

set_option maxHeartbeats 400000 in
theorem eqIntResult_yes (v u : Int) (w : World) :
    Calls Tryd.prog 6 #[.agg #[.int .i64 v, .int .i64 u], .agg #[.int .i64 v, .int .i64 u]] w (Ans w (.bool true)) := by
  go_enter Tryd.func6, Tryd.ntmps6
  go_wp2
  go_ret
  exact ⟨rfl, ((Kept.refl [] w).alloc _).alloc _⟩

end Go.Proofs.YtbkfjebmpccblafDoor
