/-
  Plain facts on the choice of the least (or the greatest) one of a list. No program is imported here. No condition.
-/
import Derived.Test.YtjndjjdffifgcaaPlainT
import Derived.WalkKit
namespace Go.Proofs.Ytjndjjdffifgcaa

/-- A big as a value: its sign, its slice, and the limbs that the slice reads as. -/
structure BE where
  neg : Bool
  ptr : Option Addr
  len : Nat
  cap : Nat
  limbs : List Int
def BE.z (b : BE) : Int := sv b.neg b.limbs
def BE.val (b : BE) : Value := .agg #[.bool b.neg, .slice b.ptr b.len b.cap]
/-- The one that is left, when each one that is ahead takes the place. -/
def pickF (r : Int → Int → Bool) : BE → List BE → BE
  | b, [] => b
  | b, x :: l => pickF r (if r x.z b.z = true then x else b) l
theorem pick_snoc (r : Int → Int → Bool) : ∀ (l : List BE) (b x : BE), pickF r b (l ++ [x]) = if r x.z (pickF r b l).z = true then x else pickF r b l
  | [], _, _ => rfl
  | _ :: l, _, x => pick_snoc r l _ x
theorem pick_mem (r : Int → Int → Bool) : ∀ (l : List BE) (b : BE), pickF r b l = b ∨ pickF r b l ∈ l
  | [], _ => Or.inl rfl
  | x :: l, b => by
    rcases pick_mem r l (if r x.z b.z = true then x else b) with h | h
    · by_cases e : r x.z b.z = true
      · rw [if_pos e] at h; exact Or.inr (by unfold pickF; rw [if_pos e, h]; exact List.mem_cons_self)
      · rw [if_neg e] at h; exact Or.inl (by unfold pickF; rw [if_neg e]; exact h)
    · exact Or.inr (List.mem_cons_of_mem _ h)
theorem take_get {l : List BE} {k : Nat} (h : k < l.length) : l.take (k + 1) = l.take k ++ [l[k]] := by
  rw [List.take_add_one, List.getElem?_eq_getElem h]; rfl
theorem take_all {l : List BE} {k : Nat} (h : l.length ≤ k) : l.take k = l := List.take_of_length_le h

def ltZ (x y : Int) : Bool := decide (x < y)
def gtZ (x y : Int) : Bool := decide (y < x)

end Go.Proofs.Ytjndjjdffifgcaa
