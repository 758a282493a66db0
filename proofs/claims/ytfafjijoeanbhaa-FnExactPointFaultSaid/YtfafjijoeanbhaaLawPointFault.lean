/-
  The walk of the law on PointFault. No condition.
-/
import Derived.Test.YtfafjijoeanbhaaPtC
namespace Go.Proofs.Ytfafjijoeanbhaa
open Go.RowKit

set_option maxHeartbeats 2000000 in
theorem FnExactPointFault_walk (x y : Int) (w : World) (_hx : (Lit.int .i64 x).wf = true) (_hy : (Lit.int .i64 y).wf = true) :
    Calls Try.prog 3 #[.agg #[.int .i64 x, .int .i64 y]] w (Ans w (.bool true)) := by
  obtain ⟨f, hf⟩ : ∃ f, ptFault x y = f := ⟨_, rfl⟩
  have HF := Lib.hid hf
  clear hf
  go_enter Try.func3, Try.ntmps3
  go_wp2_with fail
  refine (toPoint_any _ _ _).mono ?_
  rintro e w1 ⟨rfl, h1⟩
  have c0 := (h1.top (g := w.heap.size) (by simp) (by simp) 0 (v := .int .i64 x) rfl).1
  have c1 := (h1.top (g := w.heap.size) (by simp) (by simp) 1 (v := .int .i64 y) rfl).1
  go_wp2_with fail
  refine (sPointFault_any _ _ _).mono ?_
  rintro e w2 ⟨rfl, h2⟩
  rw [HF.out]
  replace c0 := h2.cell c0 (by simp)
  replace c1 := h2.cell c1 (by simp)
  go_wp2_with fail
  refine (toPoint_any _ _ _).mono ?_
  rintro e w3 ⟨rfl, h3⟩
  go_wp2_with fail
  refine (PointFault_any _ _ _).mono ?_
  rintro e w4 ⟨rfl, h4⟩
  rw [HF.out]
  go_wp2_with fail
  go_ret
  exact ⟨rfl, (((((Kept.refl _ _).alloc _).trans0 h1).trans0 h2).trans0 h3).trans0 h4⟩

end Go.Proofs.Ytfafjijoeanbhaa
