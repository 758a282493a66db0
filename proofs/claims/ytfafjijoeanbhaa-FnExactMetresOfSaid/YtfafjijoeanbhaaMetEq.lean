/-
 The laws' helpers eqRange and eqRangeResult, where both are the same. No condition.
-/
import Derived.Test.YtfafjijoeanbhaaJ1
namespace Go.Proofs.Ytfafjijoeanbhaa
open Go.RowKit

set_option maxHeartbeats 1000000 in
theorem eqRange_yes (x y : Int) (w : World) : Calls Try.prog 29 #[.agg #[.int .i64 x, .int .i64 y], .agg #[.int .i64 x, .int .i64 y]] w (Ans w (.bool true)) := by
 go_enter Try.func29, Try.ntmps29
 go_wp2
 go_ret
 exact ⟨rfl, ((Kept.refl _ _).alloc _).alloc _⟩
set_option maxHeartbeats 1000000 in
theorem eqRangeResult_yes (f x y : Int) (w : World) : Calls Try.prog 15 #[.agg #[.int .i64 f, .int .i64 x, .int .i64 y], .agg #[.int .i64 f, .int .i64 x, .int .i64 y]] w (Ans w (.bool true)) := by
 go_enter Try.func15, Try.ntmps15
 go_wp2_with fail
 refine (eqRange_yes _ _ _).mono ?_
 rintro e w1 ⟨rfl, hk⟩
 go_wp2_with fail
 go_ret
 exact ⟨rfl, (((Kept.refl _ _).alloc _).alloc _).trans0 hk⟩

end Go.Proofs.Ytfafjijoeanbhaa
