/-
  A draw of a natural that may be bent: contract of l1Bent. Condition: few bytes have been read so far.
-/
import Derived.Test.YtlhiahhpmjiioadGreatDoorSrcB
namespace Go.Proofs.YtlhiahhpmjiioadGreatDoor
open Go.RowKit

/-- The numbers of a bent natural: near to limbs. -/
def Near (xs : List Int) : Prop := ∀ i, i < xs.length → -1 ≤ xs.getD i 0 ∧ xs.getD i 0 ≤ 65536
theorem AllLimbs.near {xs : List Int} (h : AllLimbs xs) : Near xs := fun i hi => by have := h i hi; omega
theorem Near.snoc {xs : List Int} (h : Near xs) {d : Int} (hd : -1 ≤ d ∧ d ≤ 65536) : Near (xs ++ [d]) := by
  intro i hi
  by_cases e : i < xs.length
  · rw [List.getD_eq_getElem?_getD, List.getElem?_append_left e, ← List.getD_eq_getElem?_getD]; exact h i e
  · have : i = xs.length := by simp at hi; omega
    subst this
    simp; exact hd

theorem src_grown {w w3 w4 : World} {g : Nat} {a : Option Addr} {n c : Nat} {bs : List Int} {at0 at2 : Int} {v : Value} {xs : List Int} {o : Obj} (HS : Src w g a n c bs at0) (HS3 : Src w3 g a n c bs at2) (HO3 : Ow w.heap.size w3 v xs) (hG : (w3.alloc o).grownBy w4 v.ownBlock) : Src w4 g a n c bs at2 :=
  HS3.kept (((Kept.refl v.ownBlock.toList w3).alloc _).grown hG (fun k hk _ => by rw [hk]; simp))
    (fun hm => by rw [Option.mem_toList] at hm; have := (World.ownsRow.lt HO3 g hm).1; have := HS.lt; omega)
    (fun hn x hx hm => by rw [Option.mem_toList] at hm; have := (World.ownsRow.lt HO3 _ hm).1; have := HS.2.2.2.1.lt hn x hx; omega)
theorem getD2 {x y : Int} {j : Nat} (hj : j < [x, y].length) : [x, y].getD j 0 = x ∨ [x, y].getD j 0 = y := by
  match j, hj with
  | 0, _ => exact Or.inl rfl
  | 1, _ => exact Or.inr rfl
  | n + 2, h => exact absurd h (by simp)

/-- What a draw of a natural that may be bent answers: numbers, in memory of the draw's own. -/
def BentR (w : World) (g : Nat) (a : Option Addr) (n c : Nat) (bs : List Int) (at_ : Int) (e : Ending) (w' : World) : Prop :=
  ∃ av cv xs at2, e = .returned (.slice av xs.length cv) ∧ Sl w' av xs.length cv xs ∧ Fr w.heap.size av xs.length ∧ Near xs ∧ xs.length ≤ 41 ∧ Src w' g a n c bs at2 ∧ at2 ≤ at_ + 60 ∧ Kept [g] w w'

end Go.Proofs.YtlhiahhpmjiioadGreatDoor
