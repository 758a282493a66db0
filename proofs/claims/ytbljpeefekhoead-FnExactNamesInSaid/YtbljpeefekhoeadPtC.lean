/-
  The laws' helper toPoint. No condition.
-/
import Derived.Test.YtbljpeefekhoeadPtA
namespace Go.Proofs.Ytbljpeefekhoead
open Go.RowKit

theorem drew_pt {w : World} {p : Addr} {v : Value} (h : w.cell? p = some v) : w.drew.cell? p = some v := h
set_option maxHeartbeats 1000000 in
theorem toPoint_any (x y : Int) (w : World) : Calls Try.prog 39 #[.agg #[.int .i64 x, .int .i64 y]] w (Ans w (.agg #[.int .i64 x, .int .i64 y])) := by
  go_enter Try.func39, Try.ntmps39
  go_wp2
  refine bodyPost_ret (v := .agg #[.int .i64 x, .int .i64 y]) (by simp [results, Try.results39, go_sem]) rfl ?_
  exact ⟨rfl, (((Kept.refl _ _).alloc _).alloc _).alloc _⟩

end Go.Proofs.Ytbljpeefekhoead
