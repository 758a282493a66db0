/-
  The walk of the law on CoordText. No condition.
-/
import Derived.Test.YtbkfjebmpccblaeDoorJ1
import Derived.Test.YtbkfjebmpccblaeDoorCooC
import Derived.Test.YtbkfjebmpccblaeDoorEqT
namespace Go.Proofs.YtbkfjebmpccblaeDoor
open Go.RowKit

set_option maxHeartbeats 8000000 in
set_option maxRecDepth 20000 in
theorem FnExactCoordText_walk (x : Int) (w : World) (_hx : (Lit.int .i64 x).wf = true) (hp : Pow10 w) :
    Calls Tryd.prog 3 #[.int .i64 x] w (Ans w (.bool true)) := by
  obtain ⟨s, hs⟩ : ∃ s, coordC x = s := ⟨_, rfl⟩
  obtain ⟨t, ht⟩ : ∃ s, coordS x = s := ⟨_, rfl⟩
  have HS := Lib.hid hs
  have HP := Lib.hid hp
  clear hp
  have HT := Lib.hid ht
  clear hs ht
  go_enter Tryd.func3, Tryd.ntmps3
  go_wp2_with fail
  refine (sCoordText_any _ _).mono ?_
  rintro e w2 ⟨rfl, k2⟩
  rw [HS.out, HT.out]
  have K2 := Lib.hid k2
  clear k2
  go_wp2_with fail
  refine (CoordText_any _ _ (HP.out.kept (K2.out.alloc _))).mono ?_
  rintro e w5 ⟨rfl, k5⟩
  rw [HS.out, HT.out]
  have K5 := Lib.hid ((K2.out.alloc (.cells #[.int .i64 s, .string t] 23)).trans0 k5)
  have d0 := (k5.top (g := w2.heap.size) (by simp) (by simp) 0 (v := .int .i64 s) rfl).1
  have d1 := (k5.top (g := w2.heap.size) (by simp) (by simp) 1 (v := .string t) rfl).1
  have z5 := k5.size
  simp only [World.size_alloc] at z5
  have lB1 : w2.heap.size < w5.heap.size := by omega
  clear z5
  clear k5 K2
  go_wp2_with fail
  refine (eqTextResult_yes _ _ _).mono ?_
  rintro e w6 ⟨rfl, k6⟩
  have K6 := Lib.hid ((K5.out.alloc _).trans0 k6)
  go_wp2_with fail
  go_ret
  exact ⟨rfl, K6.out⟩

end Go.Proofs.YtbkfjebmpccblaeDoor
