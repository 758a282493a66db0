/-
  Plain words for metres that are read. No program is walked here. No condition.
-/
import Derived.Test.YtlhiahhpmjiioadGreatDoorRdP
namespace Go.Proofs.YtlhiahhpmjiioadGreatDoor
open Go.RowKit

/-- What metres reads, from the front on. -/
def metR (l : List UInt8) : Option (Int × List UInt8) := (decR 10 6 l).bind fun x => some ((x.1 : Int), x.2)
/-- Metres as a whole. -/
def fullM (l : List UInt8) : Option Int := (metR l).bind fun x => if x.2 = [] then some x.1 else none
def rmC (l : List UInt8) : Int := match fullM l with | some _ => 0 | none => 5
def rmV (l : List UInt8) : Int := match fullM l with | some v => v | none => 0
theorem rm_no {l : List UInt8} (h : fullM l = none) : rmC l = 5 ∧ rmV l = 0 := by unfold rmC rmV; rw [h]; exact ⟨rfl, rfl⟩
theorem rm_yes {l : List UInt8} {v : Int} (h : fullM l = some v) : rmC l = 0 ∧ rmV l = v := by unfold rmC rmV; rw [h]; exact ⟨rfl, rfl⟩
theorem fullM_eq (l : List UInt8) : fullM l = (decM 10 6 l).bind fun v => some (v : Int) := by
  unfold fullM metR
  rw [← full_M]
  unfold fullR
  cases decR 10 6 l with
  | none => rfl
  | some x =>
    simp only [Option.bind_some]
    split <;> rfl

end Go.Proofs.YtlhiahhpmjiioadGreatDoor
