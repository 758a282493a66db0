/-
  The law's comparison of two IntResults. No condition.
-/
import Derived.Test.YtbljpeefekhoeadJ1
namespace Go.Proofs.Ytbljpeefekhoead
open Go.RowKit

set_option maxHeartbeats 400000 in
theorem eqIntResult_yes (v u : Int) (w : World) :
    Calls Try.prog 8 #[.agg #[.int .i64 v, .int .i64 u], .agg #[.int .i64 v, .int .i64 u]] w (Ans w (.bool true)) := by
  go_enter Try.func8, Try.ntmps8
  go_wp2
  go_ret
  exact ⟨rfl, ((Kept.refl [] w).alloc _).alloc _⟩

end Go.Proofs.Ytbljpeefekhoead
