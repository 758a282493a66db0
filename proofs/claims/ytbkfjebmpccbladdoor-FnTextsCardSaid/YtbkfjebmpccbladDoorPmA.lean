/-
  Contracts of the model's l8Strip and l8Inner. Condition: the text is no longer than a million and a half.
-/
import Derived.Test.YtbkfjebmpccbladDoorPshR
import Derived.Test.YtbkfjebmpccbladDoorRdE
namespace Go.Proofs.YtbkfjebmpccbladDoor
open Go.RowKit

def strLen : Value → Nat
  | .string s => s.size
  | _ => 0
theorem endB_snoc (r : List UInt8) : endB (r ++ [32]) = endB r := by
  unfold endB
  rw [List.reverse_append]
  rfl
theorem endB_id {l : List UInt8} (h : l.getLast? ≠ some 32) : endB l = l := by
  have := endB_at (l := l) (b := []) AllB.nil h
  rwa [List.append_nil] at this
theorem last_split {l : List UInt8} {n : Nat} {b : UInt8} (hn : l.length = n + 1) (hb : l[n]? = some b) : l = l.take n ++ [b] ∧ l.getLast? = some b := by
  have h1 : l = l.take n ++ [b] := by
    obtain ⟨h1, h2⟩ := List.getElem?_eq_some_iff.1 hb
    have := List.take_succ_eq_append_getElem h1
    rw [List.take_of_length_le (by omega), h2] at this
    exact this
  refine ⟨h1, ?_⟩
  rw [List.getLast?_eq_getElem?, hn]; exact hb

theorem strB_dropM (l : List UInt8) {S : ByteArray} (h : S.data.toList = l) (n : Nat) : S.extract n S.size = strB (l.drop n) := by subst h; exact Lib.extract_from _ _
theorem strB_takeM (l : List UInt8) {S : ByteArray} (h : S.data.toList = l) (n : Nat) : S.extract 0 n = strB (l.take n) := by subst h; exact Lib.extract_upto _ _

end Go.Proofs.YtbkfjebmpccbladDoor
