/-
  The laws' eqTextResult at two that are the same. No condition.
-/
import Derived.Test.YtlhiahhpmjiioabDoorJ1
namespace Go.Proofs.YtlhiahhpmjiioabDoor
open Go.RowKit

set_option maxHeartbeats 400000 in
theorem eqTextResult_yes (v : Int) (u : ByteArray) (w : World) :
    Calls Tryd.prog 8 #[.agg #[.int .i64 v, .string u], .agg #[.int .i64 v, .string u]] w (Ans w (.bool true)) := by
  go_enter Tryd.func8, Tryd.ntmps8
  go_wp2
  go_ret
  exact ⟨rfl, ((Kept.refl [] w).alloc _).alloc _⟩

end Go.Proofs.YtlhiahhpmjiioabDoor
