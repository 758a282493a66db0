/-
  The draws of bigs that are compared and divided: contracts of DrawCompareBigs, DrawFloorDiv. Condition: the bytes are at most 1048576.
-/
import Derived.Deep.RegionHeld3
import Derived.Deep.DrawnRows
import Derived.Deep.DeepCutAuto
import Derived.Test.YtlhiahhpmjiioaaDrwD
namespace Go.Proofs.Ytlhiahhpmjiioaa
open Go.RowKit

theorem mkC {L : List Nat} {wX w' : World} {α : Nat} {v0 v1 : Value} (c0 : wX.cell? ⟨α, 0, none⟩ = some v0) (c1 : wX.cell? ⟨α, 1, none⟩ = some v1) (hα : α ∉ L) (k : Hid (Kept L wX w')) :
    Hid (Kept L wX w') ∧ w'.cell? ⟨α, 0, none⟩ = some v0 ∧ w'.cell? ⟨α, 1, none⟩ = some v1 :=
  ⟨k, k.out.cell c0 hα, k.out.cell c1 hα⟩
theorem kgD {L : List Nat} {w : World} : Hid (Kept L w w.drew) := (Kept.refl _ _).drew
theorem kg0 {L : List Nat} {w u v : World} (h : Hid (Kept L w u)) (k : Kept [] u v) : Hid (Kept L w v) := h.out.trans0 k
theorem kg1 {g : Nat} {L : List Nat} {w u v : World} (hg : g ∈ L) (h : Hid (Kept L w u)) (k : Kept [g] u v) : Hid (Kept L w v) := h.out.trans k (fun x hx _ => by simp at hx; subst hx; exact hg)
theorem kgA {L : List Nat} {w u : World} (h : Hid (Kept L w u)) (o : Obj) : Hid (Kept L w (u.alloc o)) := h.out.alloc o
theorem kgS {L : List Nat} {w u : World} {g i : Nat} {v : Value} (h : Hid (Kept L w u)) (hg : g ∈ L) : Hid (Kept L w (u.setCell ⟨g, i, none⟩ v)) := h.out.setCell _ _ (fun _ => hg)

end Go.Proofs.Ytlhiahhpmjiioaa
