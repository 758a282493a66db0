/-
  Contracts of nameOf, parenthesesOf and PrintShape. Condition: the slice reads as a list of numbers, two a point; the library's table of powers of ten lies as its text lays it.
-/
import Derived.Deep.RegionHeld3
import Derived.Deep.DrawnRows
import Derived.Deep.DeepCutAuto
import Derived.Test.YtlhiahhpmjiioacGreatDoorPrtP
import Derived.Test.YtlhiahhpmjiioacGreatDoorCooC
namespace Go.Proofs.YtlhiahhpmjiioacGreatDoor
open Go.RowKit

set_option maxHeartbeats 1000000 in
theorem nameOf_any (k : Int) (w : World) (hk : inK k = true) : Calls Tryz.prog 43 #[.int .i64 k] w (Ans w (.string (strB (nameT k)))) := by
  have hk' : 1 ≤ k ∧ k ≤ 4 := of_decide_eq_true hk
  rcases (by omega : k = 1 ∨ k = 2 ∨ k = 3 ∨ k = 4) with rfl | rfl | rfl | rfl
  all_goals
    go_enter Tryz.func43, Tryz.ntmps43
    go_wp2
    go_ret
    exact ⟨rfl, Kept.refl _ _⟩
set_option maxHeartbeats 1000000 in
theorem parenthesesOf_any (k : Int) (w : World) : Calls Tryz.prog 27 #[.int .i64 k] w (Ans w (.int .i64 (aroundN k : Int))) := by
  by_cases h4 : k = 4
  · subst h4
    go_enter Tryz.func27, Tryz.ntmps27
    go_wp2
    go_ret
    exact ⟨rfl, Kept.refl _ _⟩
  · have hv : Hid (aroundN k = 1) := by unfold aroundN; exact if_neg h4
    go_enter Tryz.func27, Tryz.ntmps27
    go_wp2
    go_ret
    exact ⟨by rw [hv.out]; rfl, Kept.refl _ _⟩
theorem repeat_same (c : UInt8) (k : Nat) : Lib.repeatL [c] k = List.replicate k c := by
  induction k with
  | zero => rfl
  | succ k ih => simp only [Lib.repeatL, ih, List.replicate_succ]; rfl
theorem Repeat_same (c : UInt8) (k : Nat) (w : World) (hk : k ≤ 1000) :
    Calls Tryz.prog 61 #[.string ⟨#[c]⟩, .int .i64 (k : Int)] w (Ans w (.string (strB (List.replicate k c)))) := by
  refine (Tryz.strings_Repeat ⟨#[c]⟩ k w (by omega) (by show 1 * k ≤ _; omega)).mono ?_
  rintro e w' ⟨rfl, hw⟩
  have : Lib.repeatL (⟨#[c]⟩ : ByteArray).data.toList k = List.replicate k c := repeat_same c k
  rw [this]
  exact ⟨rfl, Kept.ofBelow hw⟩
end Go.Proofs.YtlhiahhpmjiioacGreatDoor
