/-
  Contracts of the model's l1Digits, l8Coord and CoordText. No condition.
-/
import Derived.Deep.RegionHeld3
import Derived.Deep.DrawnRows
import Derived.Deep.DeepCutAuto
import Derived.Test.YtlhiahhpmjiioacGreatDoorCooP
import Derived.Test.YtlhiahhpmjiioacGreatDoorJ1
namespace Go.Proofs.YtlhiahhpmjiioacGreatDoor
open Go.RowKit

theorem run_byteText (w : World) (g : Nat) (d : Int) (h : w.cell? ⟨g, 0, none⟩ = some (.int .u8 d)) : (convert 103 9 (.slice (some ⟨g, 0, none⟩) 1 1)).run Tryz.prog w = .ok (.string (strOfNums [d])) w :=
  run_convert_bytes_arg w 103 5 Tryz.underlying103 Tryz.underlying5 g 0 1 1 [d] rfl (fun i hi => by
    obtain rfl : i = 0 := by omega
    simpa using h) 9 Tryz.underlying9
theorem kAD {L : List Nat} {W w : World} {o : Obj} (h : Hid (Kept L W w.drew)) : Hid (Kept L W (w.alloc o).drew) :=
  Lib.hid ⟨h.out.os, h.out.tape, h.out.output, Nat.le_trans h.out.size (by show w.heap.size ≤ (w.alloc o).heap.size; simp), fun k hk hL => (Below.heap_alloc w o k (Nat.lt_of_lt_of_le hk h.out.size)).trans (h.out.block k hk hL)⟩
theorem kA1 {L : List Nat} {W w : World} {o : Obj} (h : Hid (Kept L W w)) : Hid (Kept L W (w.alloc o)) := Lib.hid (h.out.alloc o)
theorem topD {w w1 : World} {v : Value} {T : TypeId} (hk : Kept [] (w.alloc (.cells #[v] T)).drew w1) : w1.cell? ⟨w.heap.size, 0, none⟩ = some v :=
  (((Kept.refl [] _).drew.trans0 hk).top (g := w.heap.size) rfl (by simp) 0 (v := v) rfl).1
theorem one_text {d : Int} {u : Nat} (h : d = (u : Int) % 10) : strOfNums [48 + d] = strB [dg u] := by
  subst h
  unfold strOfNums strB dg
  have e : (48 + (u : Int) % 10).toNat = 48 + u % 10 := by omega
  simp only [List.map_cons, List.map_nil, e]

end Go.Proofs.YtlhiahhpmjiioacGreatDoor
