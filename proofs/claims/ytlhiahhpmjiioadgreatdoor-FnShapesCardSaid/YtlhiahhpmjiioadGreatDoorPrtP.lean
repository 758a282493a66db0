/-
  Plain facts on the text of a shape. No program is walked here. No condition.
-/
import Derived.Test.YtlhiahhpmjiioadGreatDoorCooQ
import Derived.Test.YtlhiahhpmjiioadGreatDoorStrS
import Derived.Test.YtlhiahhpmjiioadGreatDoorShpB
import Derived.Lib.Join
namespace Go.Proofs.YtlhiahhpmjiioadGreatDoor
open Go.RowKit

/-- The text of a point. -/
def pointT (x y : Int) : List UInt8 := coordT x ++ 32 :: coordT y
/-- The texts of the first k points. -/
def ptsT (xs : List Int) (k : Nat) : List (List UInt8) := (List.range k).map fun i => pointT (xs.getD (i * 2) 0) (xs.getD (i * 2 + 1) 0)
theorem ptsT_len (xs : List Int) (k : Nat) : (ptsT xs k).length = k := by simp [ptsT]
theorem ptsT_zero (xs : List Int) : ptsT xs 0 = [] := rfl
theorem ptsT_succ (xs : List Int) (k : Nat) : ptsT xs (k + 1) = ptsT xs k ++ [pointT (xs.getD (k * 2) 0) (xs.getD (k * 2 + 1) 0)] := by
  unfold ptsT; rw [List.range_succ, List.map_append]; rfl
/-- Texts put together with a comma between two. -/
def joinC (ts : List (List UInt8)) : List UInt8 := Lib.join ts [44]
theorem joinC_nil : joinC [] = [] := rfl
theorem joinC_one (x : List UInt8) : joinC [x] = x := Lib.join_one x [44]
theorem joinC_snoc (ts : List (List UInt8)) (x : List UInt8) (h : ts ≠ []) : joinC (ts ++ [x]) = joinC ts ++ (44 :: x) := by
  cases ts with
  | nil => exact absurd rfl h
  | cons t r =>
    unfold joinC
    rw [List.cons_append, Lib.join_cons, Lib.join_cons]
    unfold Lib.joinTail
    rw [List.map_append, List.flatten_append, List.append_assoc]
    simp
theorem joinC_len (m : Nat) : ∀ (ts : List (List UInt8)), (∀ t ∈ ts, t.length ≤ m) → (joinC ts).length ≤ ts.length * (m + 1) := by
  intro ts h
  cases ts with
  | nil => simp [joinC_nil]
  | cons t r =>
    unfold joinC
    rw [Lib.join_cons, List.length_append]
    have h1 : ∀ (r : List (List UInt8)), (∀ t ∈ r, t.length ≤ m) → (Lib.joinTail [44] r).length ≤ r.length * (m + 1) := by
      intro r
      induction r with
      | nil => intro _; simp [Lib.joinTail]
      | cons a r ih =>
        intro ha
        have h2 := ih (fun t ht => ha t (by simp [ht]))
        have h3 := ha a (by simp)
        unfold Lib.joinTail at h2 ⊢
        rw [List.map_cons, List.flatten_cons, List.length_append, List.length_append, List.length_cons, List.length_cons, List.length_nil, Nat.add_mul]
        omega
    have h2 := h1 r (fun t ht => h t (by simp [ht]))
    have h3 := h t (by simp)
    rw [List.length_cons, Nat.add_mul]
    omega
/-- The name of a kind. -/
def nameT (k : Int) : List UInt8 := if k = 1 then [80, 79, 73, 78, 84] else if k = 2 then [77, 85, 76, 84, 73, 80, 79, 73, 78, 84] else if k = 3 then [76, 73, 78, 69, 83, 84, 82, 73, 78, 71] else if k = 4 then [80, 79, 76, 89, 71, 79, 78] else []
def aroundN (k : Int) : Nat := if k = 4 then 2 else 1
def printT (k : Int) (xs : List Int) (n : Nat) : List UInt8 := nameT k ++ List.replicate (aroundN k) 40 ++ joinC (ptsT xs n) ++ List.replicate (aroundN k) 41
def printC (k : Int) (xs : List Int) (n : Nat) : Int := shapeC k xs n
def printS (k : Int) (xs : List Int) (n : Nat) : ByteArray := if shapeC k xs n = 0 then strB (printT k xs n) else ⟨#[]⟩

end Go.Proofs.YtlhiahhpmjiioadGreatDoor
