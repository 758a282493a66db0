/-
  The laws' helper toPoint. No condition.
-/
import Derived.Test.YtlhiahhpmjiioabDoorPtA
namespace Go.Proofs.YtlhiahhpmjiioabDoor
open Go.RowKit

theorem drew_pt {w : World} {p : Addr} {v : Value} (h : w.cell? p = some v) : w.drew.cell? p = some v := h
set_option maxHeartbeats 1000000 in
theorem toPoint_any (x y : Int) (w : World) : Calls Tryd.prog 25 #[.agg #[.int .i64 x, .int .i64 y]] w (Ans w (.agg #[.int .i64 x, .int .i64 y])) := by
  go_enter Tryd.func25, Tryd.ntmps25
  go_wp2
  refine bodyPost_ret (v := .agg #[.int .i64 x, .int .i64 y]) (by simp [results, Tryd.results25, go_sem]) rfl ?_
  exact ⟨rfl, (((Kept.refl _ _).alloc _).alloc _).alloc _⟩

end Go.Proofs.YtlhiahhpmjiioabDoor
