/-
  A table of the library's, kept by what leaves all blocks alone; new blocks at the heap's end. No condition.
-/
import Derived.Test.YtlhiahhpmjiioadGreatDoorJ1
import Derived.Lib.LaidTab
import Derived.Sort.Grow
namespace Go.Proofs.YtlhiahhpmjiioadGreatDoor
open Go.RowKit

theorem tabKept {w w' : World} {name : String} {k : IntKind} {zs : List Int} (h : Lib.TabIs Tryz.prog w name k zs) (hk : Kept [] w w') : Lib.TabIs Tryz.prog w' name k zs := by
  unfold Lib.TabIs World.var? at *
  rw [← h]
  cases hg : Tryz.prog.globalNamed name with
  | none => rfl
  | some g =>
    rw [hg] at h
    simp only [Option.bind_some] at h ⊢
    have hlt : g < w.heap.size := by
      rcases Nat.lt_or_ge g w.heap.size with h1 | h1
      · exact h1
      · rw [Array.getElem?_eq_none h1] at h; cases h
    rw [hk.block g hlt (by simp)]
theorem kept_grow (w : World) (k : Nat) (os : Array Obj) : Kept [] w (Sort.grow (w.drewN k) os) :=
  ⟨rfl, rfl, rfl, by rw [Sort.size_grow]; exact Nat.le_add_right _ _, fun i hi _ => by
    show (w.heap ++ os)[i]? = _
    rw [Array.getElem?_append_left hi]⟩

end Go.Proofs.YtlhiahhpmjiioadGreatDoor
