/-
  The walk of the law on WidthOf. No condition.
-/
import Derived.Deep.RegionHeld3
import Derived.Deep.DrawnRows
import Derived.Deep.DeepCutAuto
import Derived.Test.YtbljpeefekhoeacJ1
import Derived.Test.YtbljpeefekhoeacRngA
import Derived.Test.YtbljpeefekhoeacAudW
import Derived.Test.YtbljpeefekhoeacEqI
namespace Go.Proofs.Ytbljpeefekhoeac
open Go.RowKit

set_option maxHeartbeats 8000000 in
set_option maxRecDepth 20000 in
theorem FnExactWidthOf_walk (x y : Int) (w : World) (_hx : (Lit.int .i64 x).wf = true) (_hy : (Lit.int .i64 y).wf = true) :
    Calls Try.prog 3 #[.agg #[.int .i64 x, .int .i64 y]] w (Ans w (.bool true)) := by
  obtain ⟨s, hs⟩ : ∃ s, widthC x y = s := ⟨_, rfl⟩
  obtain ⟨t, ht⟩ : ∃ s, widthW x y = s := ⟨_, rfl⟩
  have HS := Lib.hid hs
  have HT := Lib.hid ht
  clear hs ht
  go_enter Try.func3, Try.ntmps3
  go_wp2_with fail
  refine (toRange_any _ _ _).mono ?_
  rintro e w1 ⟨rfl, k1⟩
  go_wp2_with fail
  refine (sWidthOf_any _ _ _).mono ?_
  rintro e w2 ⟨rfl, k2⟩
  rw [HS.out, HT.out]
  have K2 := Lib.hid (k1.trans0 k2)
  clear k1 k2
  have K3 := Lib.hid (K2.out.alloc (.cells #[.int .i64 s, .int .i64 t] 25))
  have c0 := (K3.out.top (g := w.heap.size) (by simp) (by simp) 0 (v := .int .i64 x) rfl).1
  have c1 := (K3.out.top (g := w.heap.size) (by simp) (by simp) 1 (v := .int .i64 y) rfl).1
  go_wp2_with fail
  refine (toRange_any _ _ _).mono ?_
  rintro e w4 ⟨rfl, k4⟩
  go_wp2_with fail
  refine (WidthOf_any _ _ _).mono ?_
  rintro e w5 ⟨rfl, k5⟩
  rw [HS.out, HT.out]
  have k45 := k4.trans0 k5
  have K5 := Lib.hid (K3.out.trans0 k45)
  have d0 := (k45.top (g := w2.heap.size) (by simp) (by simp) 0 (v := .int .i64 s) rfl).1
  have d1 := (k45.top (g := w2.heap.size) (by simp) (by simp) 1 (v := .int .i64 t) rfl).1
  have z5 := k45.size
  simp only [World.size_alloc] at z5
  have lB1 : w2.heap.size < w5.heap.size := by omega
  clear z5
  clear k4 k5 k45 K3 c0 c1
  go_wp2_with fail
  refine (eqIntResult_yes _ _ _).mono ?_
  rintro e w6 ⟨rfl, k6⟩
  have K6 := Lib.hid ((K5.out.alloc _).trans0 k6)
  go_wp2_with fail
  go_ret
  exact ⟨rfl, K6.out.peel⟩

end Go.Proofs.Ytbljpeefekhoeac
