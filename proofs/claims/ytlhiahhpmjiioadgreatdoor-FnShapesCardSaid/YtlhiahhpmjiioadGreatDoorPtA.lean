/-
  Contracts of PointFault, the program's and the model's. No condition.
-/
import Derived.Test.YtlhiahhpmjiioadGreatDoorJ1
namespace Go.Proofs.YtlhiahhpmjiioadGreatDoor
open Go.RowKit

/-- A point without a fault. -/
def InPt (x y : Int) : Prop := (-180000000000 ≤ x ∧ x ≤ 180000000000) ∧ (-90000000000 ≤ y ∧ y ≤ 90000000000)
instance (x y : Int) : Decidable (InPt x y) := by unfold InPt; exact inferInstance
def ptFault (x y : Int) : Int := if InPt x y then 0 else 3
theorem ptFault_yes {x y : Int} (h : InPt x y) : ptFault x y = 0 := if_pos h
theorem ptFault_no {x y : Int} (h : ¬ InPt x y) : ptFault x y = 3 := if_neg h

set_option maxHeartbeats 2000000 in
theorem PointFault_any (x y : Int) (w : World) : Calls Tryz.prog 63 #[.agg #[.int .i64 x, .int .i64 y]] w (Ans w (.int .i64 (ptFault x y))) := by
  by_cases h1 : x < -180000000000
  · have hv : Hid (ptFault x y = 3) := ptFault_no (by unfold InPt; omega)
    go_enter Tryz.func63, Tryz.ntmps63
    go_wp2
    go_ret
    exact ⟨by rw [hv.out]; rfl, (Kept.refl _ _).alloc _⟩
  · by_cases h2 : 180000000000 < x
    · have hv : Hid (ptFault x y = 3) := ptFault_no (by unfold InPt; omega)
      go_enter Tryz.func63, Tryz.ntmps63
      go_wp2
      go_ret
      exact ⟨by rw [hv.out]; rfl, (Kept.refl _ _).alloc _⟩
    · by_cases h3 : y < -90000000000
      · have hv : Hid (ptFault x y = 3) := ptFault_no (by unfold InPt; omega)
        go_enter Tryz.func63, Tryz.ntmps63
        go_wp2
        go_ret
        exact ⟨by rw [hv.out]; rfl, (Kept.refl _ _).alloc _⟩
      · by_cases h4 : 90000000000 < y
        · have hv : Hid (ptFault x y = 3) := ptFault_no (by unfold InPt; omega)
          go_enter Tryz.func63, Tryz.ntmps63
          go_wp2
          go_ret
          exact ⟨by rw [hv.out]; rfl, (Kept.refl _ _).alloc _⟩
        · have hv : Hid (ptFault x y = 0) := ptFault_yes (by unfold InPt; omega)
          go_enter Tryz.func63, Tryz.ntmps63
          go_wp2
          go_ret
          exact ⟨by rw [hv.out]; rfl, (Kept.refl _ _).alloc _⟩

set_option maxHeartbeats 2000000 in
theorem sPointFault_any (x y : Int) (w : World) : Calls Tryz.prog 64 #[.agg #[.int .i64 x, .int .i64 y]] w (Ans w (.int .i64 (ptFault x y))) := by
  by_cases h1 : x < -180000000000
  · have hv : Hid (ptFault x y = 3) := ptFault_no (by unfold InPt; omega)
    go_enter Tryz.func64, Tryz.ntmps64
    go_wp2
    go_ret
    exact ⟨by rw [hv.out]; rfl, (Kept.refl _ _).alloc _⟩
  · by_cases h2 : 180000000000 < x
    · have hv : Hid (ptFault x y = 3) := ptFault_no (by unfold InPt; omega)
      go_enter Tryz.func64, Tryz.ntmps64
      go_wp2
      go_ret
      exact ⟨by rw [hv.out]; rfl, (Kept.refl _ _).alloc _⟩
    · by_cases h3 : y < -90000000000
      · have hv : Hid (ptFault x y = 3) := ptFault_no (by unfold InPt; omega)
        go_enter Tryz.func64, Tryz.ntmps64
        go_wp2
        go_ret
        exact ⟨by rw [hv.out]; rfl, (Kept.refl _ _).alloc _⟩
      · by_cases h4 : 90000000000 < y
        · have hv : Hid (ptFault x y = 3) := ptFault_no (by unfold InPt; omega)
          have e4 : decide (y ≤ 90000000000) = false := decide_eq_false (by omega)
          go_enter Tryz.func64, Tryz.ntmps64
          go_wp2
          go_ret
          exact ⟨by rw [hv.out]; rfl, (Kept.refl _ _).alloc _⟩
        · have hv : Hid (ptFault x y = 0) := ptFault_yes (by unfold InPt; omega)
          have e4 : decide (y ≤ 90000000000) = true := decide_eq_true (by omega)
          go_enter Tryz.func64, Tryz.ntmps64
          go_wp2
          go_ret
          exact ⟨by rw [hv.out]; rfl, (Kept.refl _ _).alloc _⟩

end Go.Proofs.YtlhiahhpmjiioadGreatDoor
