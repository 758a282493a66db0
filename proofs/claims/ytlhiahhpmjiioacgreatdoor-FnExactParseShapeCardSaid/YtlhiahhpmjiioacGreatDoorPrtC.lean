/-
  Contracts of the model's l8Name, l8Print and PrintShape. Condition: the slice reads as a list of numbers, two a point.
-/
import Derived.Test.YtlhiahhpmjiioacGreatDoorPrtB
namespace Go.Proofs.YtlhiahhpmjiioacGreatDoor
open Go.RowKit

set_option maxHeartbeats 1000000 in
set_option maxRecDepth 20000 in
theorem l8Name_any (k : Int) (w : World) (hk : inK k = true) : Calls Tryz.prog 18 #[.int .i64 k] w (Ans w (.string (strB (nameT k)))) := by
  have hk' : 1 ≤ k ∧ k ≤ 4 := of_decide_eq_true hk
  rcases (by omega : k = 1 ∨ k = 2 ∨ k = 3 ∨ k = 4) with rfl | rfl | rfl | rfl
  all_goals
    go_enter Tryz.func18, Tryz.ntmps18
    go_wp2
    go_ret
    exact ⟨rfl, (Kept.refl _ _).alloc _⟩

theorem joinC_next (ts : List (List UInt8)) (x : List UInt8) (h : ts ≠ []) : strB (joinC ts) ++ ⟨#[44]⟩ ++ strB x = strB (joinC (ts ++ [x])) := by
  show strB _ ++ strB [44] ++ strB _ = _
  rw [strB_append, strB_append, joinC_snoc ts x h]; simp
theorem mkL {w5 w' : World} {b d e f : Nat} {v0 v1 v2 v3 : Value} (c0 : w5.cell? ⟨b, 0, none⟩ = some v0) (c1 : w5.cell? ⟨b, 1, none⟩ = some v1) (c2 : w5.cell? ⟨d, e, none⟩ = some v2) (c3 : w5.cell? ⟨d, f, none⟩ = some v3) (k : Hid (Kept [] w5 w')) :
    Hid (Kept [] w5 w') ∧ w'.cell? ⟨b, 0, none⟩ = some v0 ∧ w'.cell? ⟨b, 1, none⟩ = some v1 ∧ w'.cell? ⟨d, e, none⟩ = some v2 ∧ w'.cell? ⟨d, f, none⟩ = some v3 :=
  ⟨k, k.out.cell c0 (by simp), k.out.cell c1 (by simp), k.out.cell c2 (by simp), k.out.cell c3 (by simp)⟩

end Go.Proofs.YtlhiahhpmjiioacGreatDoor
