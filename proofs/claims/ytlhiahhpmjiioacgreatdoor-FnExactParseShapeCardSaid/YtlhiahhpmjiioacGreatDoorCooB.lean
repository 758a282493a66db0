/-
  Contracts of the model's l8Coord and CoordText. No condition.
-/
import Derived.Test.YtlhiahhpmjiioacGreatDoorCooA
namespace Go.Proofs.YtlhiahhpmjiioacGreatDoor
open Go.RowKit

/-- That a coordinate has a text. -/
def inCoord (n : Int) : Bool := decide (-999999999999999 ≤ n ∧ n ≤ 999999999999999)
def coordC (n : Int) : Int := if inCoord n = true then 0 else 3
def coordS (n : Int) : ByteArray := if inCoord n = true then strB (coordT n) else ⟨#[]⟩
theorem coord_no {n : Int} (h : inCoord n = false) : coordC n = 3 ∧ coordS n = ⟨#[]⟩ := by unfold coordC coordS; rw [h]; exact ⟨rfl, rfl⟩
theorem coord_yes {n : Int} (h : inCoord n = true) : coordC n = 0 ∧ coordS n = strB (coordT n) := by unfold coordC coordS; rw [h]; exact ⟨rfl, rfl⟩

set_option maxHeartbeats 1000000 in
theorem l1InC_any (x : Int) (w : World) : Calls Tryz.prog 21 #[.int .i64 x, .int .i64 (-999999999999999), .int .i64 999999999999999] w (Ans w (.bool (inCoord x))) := by
  by_cases h1 : -999999999999999 ≤ x
  · by_cases h2 : x ≤ 999999999999999
    · have hv : Hid (inCoord x = true) := decide_eq_true ⟨h1, h2⟩
      go_enter Tryz.func21, Tryz.ntmps21
      go_wp2
      go_ret
      exact ⟨by rw [hv.out]; rfl, Kept.refl _ _⟩
    · have hv : Hid (inCoord x = false) := decide_eq_false (fun h => h2 h.2)
      go_enter Tryz.func21, Tryz.ntmps21
      go_wp2
      go_ret
      exact ⟨by rw [hv.out]; rfl, Kept.refl _ _⟩
  · have hv : Hid (inCoord x = false) := decide_eq_false (fun h => h1 h.1)
    go_enter Tryz.func21, Tryz.ntmps21
    go_wp2
    go_ret
    exact ⟨by rw [hv.out]; rfl, Kept.refl _ _⟩

theorem textBox {w w1 : World} {T : TypeId} (hk : Kept [] (w.alloc (.cells #[.int .i64 0, .string ⟨#[]⟩] T)) w1) :
    (w1.cell? ⟨w.heap.size, 0, none⟩ = some (.int .i64 0) ∧ w1.cell? ⟨w.heap.size, 1, none⟩ = some (.string ⟨#[]⟩)) ∧ w1.frozen? ⟨w.heap.size, 0, none⟩ = false ∧ w1.frozen? ⟨w.heap.size, 1, none⟩ = false :=
  ⟨⟨(hk.top rfl (by simp) 0 (v := .int .i64 0) rfl).1, (hk.top rfl (by simp) 1 (v := .string ⟨#[]⟩) rfl).1⟩, (hk.top rfl (by simp) 0 (v := .int .i64 0) rfl).2.1, (hk.top rfl (by simp) 1 (v := .string ⟨#[]⟩) rfl).2.1⟩

end Go.Proofs.YtlhiahhpmjiioacGreatDoor
