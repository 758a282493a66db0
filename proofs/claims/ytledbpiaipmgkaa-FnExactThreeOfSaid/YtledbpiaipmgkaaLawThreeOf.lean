/-
  The walk of the law on ThreeOf. No condition.
-/
import Derived.Deep.RegionHeld3
import Derived.Deep.DrawnRows
import Derived.Deep.DeepCutAuto
import Derived.Test.YtledbpiaipmgkaaJ1
import Derived.Test.YtledbpiaipmgkaaRngA
import Derived.Test.YtledbpiaipmgkaaAskA
import Derived.Test.YtledbpiaipmgkaaEqI
namespace Go.Proofs.Ytledbpiaipmgkaa
open Go.RowKit

set_option maxHeartbeats 8000000 in
set_option maxRecDepth 20000 in
theorem FnExactThreeOf_walk (x y : Int) (z : Int) (w : World) (_hx : (Lit.int .i64 x).wf = true) (_hy : (Lit.int .i64 y).wf = true) (_hz : (Lit.int .i64 z).wf = true) :
    Calls Try.prog 5 #[.agg #[.int .i64 x, .int .i64 y], .int .i64 z] w (Ans w (.bool true)) := by
  obtain ⟨s, hs⟩ : ∃ s, threeC x y z = s := ⟨_, rfl⟩
  obtain ⟨t, ht⟩ : ∃ s, threeW x y z = s := ⟨_, rfl⟩
  have HS := Lib.hid hs
  have HT := Lib.hid ht
  clear hs ht
  go_enter Try.func5, Try.ntmps5
  go_wp2_with fail
  refine (toRange_any _ _ _).mono ?_
  rintro e w1 ⟨rfl, k1⟩
  go_wp2_with fail
  refine (sThreeOf_any _ _ _ _).mono ?_
  rintro e w2 ⟨rfl, k2⟩
  rw [HS.out, HT.out]
  have K2 := Lib.hid (k1.trans0 k2)
  clear k1 k2
  have K3 := Lib.hid (K2.out.alloc (.cells #[.int .i64 s, .int .i64 t] 36))
  have c0 := (K3.out.top (g := w.heap.size) (by simp) (by simp) 0 (v := .int .i64 x) rfl).1
  have c1 := (K3.out.top (g := w.heap.size) (by simp) (by simp) 1 (v := .int .i64 y) rfl).1
  go_wp2_with fail
  refine (toRange_any _ _ _).mono ?_
  rintro e w4 ⟨rfl, k4⟩
  go_wp2_with fail
  refine (ThreeOf_any _ _ _ _).mono ?_
  rintro e w5 ⟨rfl, k5⟩
  rw [HS.out, HT.out]
  have k45 := k4.trans0 k5
  have K5 := Lib.hid (K3.out.trans0 k45)
  have d0 := (k45.top (g := w2.heap.size) (by simp) (by simp) 0 (v := .int .i64 s) rfl).1
  have d1 := (k45.top (g := w2.heap.size) (by simp) (by simp) 1 (v := .int .i64 t) rfl).1
  have z5 := k45.size
  simp only [World.size_alloc] at z5
  have lB1 : w2.heap.size < w5.heap.size := by omega
  clear z5
  clear k4 k5 k45 K3 c0 c1
  go_wp2_with fail
  refine (eqIntResult_yes _ _ _).mono ?_
  rintro e w6 ⟨rfl, k6⟩
  have K6 := Lib.hid ((K5.out.alloc _).trans0 k6)
  go_wp2_with fail
  go_ret
  exact ⟨rfl, K6.out.peel⟩

end Go.Proofs.Ytledbpiaipmgkaa
