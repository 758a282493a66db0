/-
  The laws' helpers over shapes: szShape, toShape, eqShape. Condition: the slices read as lists of numbers, two a point.
-/
import Derived.Test.YtlhiahhpmjiioacGreatDoorPtM
namespace Go.Proofs.YtlhiahhpmjiioacGreatDoor
open Go.RowKit

/-- A call that answers a shape in a new block. -/
def NewShp (w : World) (k : Int) (n : Nat) (xs : List Int) (e : Ending) (w' : World) : Prop :=
  ∃ g, e = .returned (.agg #[.int .i64 k, .slice (some ⟨g, 0, none⟩) n n]) ∧ w.heap.size ≤ g ∧ Blk w' g xs ∧ Kept [] w w'

set_option maxHeartbeats 1000000 in
theorem eqShape_yes (k : Int) (a b : Option Addr) (n c c' : Nat) (xs : List Int) (w : World) (h : Rd w a (n * 2) xs) (h' : Rd w b (n * 2) xs) :
    Calls Tryz.prog 14 #[.agg #[.int .i64 k, .slice a n c], .agg #[.int .i64 k, .slice b n c']] w (Ans w (.bool true)) := by
  have HR := Lib.hid h
  have HR' := Lib.hid h'
  clear h h'
  go_enter Tryz.func14, Tryz.ntmps14
  go_wp2_with fail
  refine (eqPointS_yes _ _ _ _ _ _ _ (HR.out.kept0 (((Kept.refl _ _).alloc _).alloc _)) (HR'.out.kept0 (((Kept.refl _ _).alloc _).alloc _))).mono ?_
  rintro e w1 ⟨rfl, h1⟩
  go_wp2_with fail
  go_ret
  exact ⟨rfl, h1.peel.peel⟩

end Go.Proofs.YtlhiahhpmjiioacGreatDoor
