/-
  Contract of DivNats, the program's. Condition: the slices read as lists of numbers.
-/
import Derived.Test.YtlhiahhpmjiioaaTake
import Derived.Test.YtlhiahhpmjiioaaJ1
import Derived.Deep.DeepFit
namespace Go.Proofs.Ytlhiahhpmjiioaa
open Go.RowKit

/-- A call that answers a code and two slices in memory of its own, apart from each other. -/
def DivR (w : World) (code : Int) (qs rs : List Int) (e : Ending) (w' : World) : Prop :=
  ∃ a c a' c', e = .returned (.agg #[.int .i64 code, .slice a qs.length c, .slice a' rs.length c']) ∧ Sl w' a qs.length c qs ∧ Sl w' a' rs.length c' rs ∧ Fr w.heap.size a qs.length ∧ Fr w.heap.size a' rs.length ∧
    (0 < qs.length → 0 < rs.length → ∀ x y, a = some x → a' = some y → x.block ≠ y.block) ∧ Kept [] w w'

def divCode (xs ys : List Int) : Int := if fault2 xs ys = 0 then (if ys.length = 0 then 6 else 0) else fault2 xs ys
def divQuot (xs ys : List Int) : List Int := if fault2 xs ys = 0 ∧ ys.length ≠ 0 then digits (val xs / val ys) else []
def divRest (xs ys : List Int) : List Int := if fault2 xs ys = 0 ∧ ys.length ≠ 0 then digits (val xs % val ys) else []

theorem cells3 {w : World} {g : Nat} {x y z : Value} (u v t : Value) (h0 : w.cell? ⟨g, 0, none⟩ = some x) (h1 : w.cell? ⟨g, 1, none⟩ = some y) (h2 : w.cell? ⟨g, 2, none⟩ = some z) :
    (((w.setCell ⟨g, 0, none⟩ u).setCell ⟨g, 1, none⟩ v).setCell ⟨g, 2, none⟩ t).cell? ⟨g, 0, none⟩ = some u ∧ (((w.setCell ⟨g, 0, none⟩ u).setCell ⟨g, 1, none⟩ v).setCell ⟨g, 2, none⟩ t).cell? ⟨g, 1, none⟩ = some v ∧ (((w.setCell ⟨g, 0, none⟩ u).setCell ⟨g, 1, none⟩ v).setCell ⟨g, 2, none⟩ t).cell? ⟨g, 2, none⟩ = some t := by
  obtain ⟨_, e2, e3⟩ := cells2 u v h0 h1
  have e4 : ((w.setCell ⟨g, 0, none⟩ u).setCell ⟨g, 1, none⟩ v).cell? ⟨g, 2, none⟩ = some z := by
    rw [World.cell?_setCell_other _ _ _ _ (by simp), World.cell?_setCell_other _ _ _ _ (by simp)]; exact h2
  exact ⟨by rw [World.cell?_setCell_other _ _ _ _ (by simp)]; exact e2, by rw [World.cell?_setCell_other _ _ _ _ (by simp)]; exact e3, World.cell?_setCell_same _ _ _ e4⟩
end Go.Proofs.Ytlhiahhpmjiioaa
