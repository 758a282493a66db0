/-
  The draws of two naturals: contracts of DrawAddNats, DrawMulNats, DrawCompareNats, of lwNums and lwBig. Condition: the bytes are at most 1048576.
-/
import Derived.Test.YtlhiahhpmjiioadGreatDoorSrcC
import Derived.Test.YtlhiahhpmjiioadGreatDoorJ1
namespace Go.Proofs.YtlhiahhpmjiioadGreatDoor
open Go.RowKit

set_option maxHeartbeats 400000 in
theorem lwBig_any (a : Option Addr) (n c : Nat) (w : World) :
    Calls Tryz.prog 4 #[.slice a n c] w (fun e w' => e = .returned (.bool (decide ((1048576 : Int) < (n : Int)))) ∧ w' = w) := by
  go_enter Tryz.func4, Tryz.ntmps4
  go_wp2
  go_ret
  exact ⟨rfl, rfl⟩

/-- A slice that a draw made. -/
def Drawn (w w' : World) (a : Option Addr) (c : Nat) (xs : List Int) : Prop := Sl w' a xs.length c xs ∧ Fr w.heap.size a xs.length ∧ Near xs ∧ xs.length ≤ 90
/-- What a draw of two naturals answers. -/
def Draw2R (w : World) (e : Ending) (w' : World) : Prop :=
  ∃ a c xs b d ys, e = .returned (.tuple #[.slice a xs.length c, .slice b ys.length d]) ∧ Drawn w w' a c xs ∧ Drawn w w' b d ys ∧ Kept [] w w'

theorem Sl.keptG {w w' : World} {g B : Nat} {a : Option Addr} {n c : Nat} {xs : List Int} (h : Sl w a n c xs) (k : Kept [g] w w') (hF : Fr B a n) (hg : g < B) : Sl w' a n c xs :=
  h.kept k (fun hn x hx => by have := hF hn x hx; simp; omega)

end Go.Proofs.YtlhiahhpmjiioadGreatDoor
