/-
  Contract of the model's l8Decimal. Condition: the text is no longer than a million and a half; at most nine places and ten digits ahead of them.
-/
import Derived.Test.YtbkfjebmpccblaaRdM
namespace Go.Proofs.Ytbkfjebmpccblaa
open Go.RowKit

def decV (m p : Nat) (l : List UInt8) : Int := match decM m p l with | some v => v | none => 0
def decB (m p : Nat) (l : List UInt8) : Bool := (decM m p l).isSome
theorem dec_none {m p : Nat} {l : List UInt8} (h : decM m p l = none) : decV m p l = 0 ∧ decB m p l = false := by unfold decV decB; rw [h]; exact ⟨rfl, rfl⟩
theorem dec_some {m p v : Nat} {l : List UInt8} (h : decM m p l = some v) : decV m p l = v ∧ decB m p l = true := by unfold decV decB; rw [h]; exact ⟨rfl, rfl⟩
theorem decM_many {m p : Nat} {l : List UInt8} (h : 2 < (cutL 46 l).length) : decM m p l = none := by
  unfold decM
  split
  · rename_i x he; rw [he] at h; simp at h
  · rename_i x y he; rw [he] at h; simp at h
  · rfl
theorem decM_first {m p : Nat} {l : List UInt8} (h : okNum m ((cutL 46 l).getD 0 []) = false) : decM m p l = none := by
  unfold decM
  split
  · rename_i x he; rw [he] at h; simp at h; rw [h]; rfl
  · rename_i x y he; rw [he] at h; simp at h; rw [h]; rfl
  · rfl
theorem decM_second {m p : Nat} {l : List UInt8} (h2 : (cutL 46 l).length = 2) (h : okNum p ((cutL 46 l).getD 1 []) = false) : decM m p l = none := by
  unfold decM
  split
  · rename_i x he; rw [he] at h2; simp at h2
  · rename_i x y he; rw [he] at h; simp at h; rw [h]; simp
  · rfl
/-- The text behind the point. -/
def restL (l : List UInt8) : List UInt8 := if (cutL 46 l).length = 2 then (cutL 46 l).getD 1 [] else []
theorem numL_zeros (k : Nat) : numL (List.replicate k 48) = 0 := by
  show numA 0 _ = _
  rw [numA_zeros]; omega
theorem decM_ok {m p : Nat} {l : List UInt8} (hc : ¬ 2 < (cutL 46 l).length) (h : okNum m ((cutL 46 l).getD 0 []) = true) (h2 : (cutL 46 l).length = 2 → okNum p ((cutL 46 l).getD 1 []) = true) :
    decM m p l = some (numL ((cutL 46 l).getD 0 []) * 10 ^ p + numL (restL l ++ List.replicate (p - (restL l).length) 48)) := by
  unfold decM restL
  have hne := cutL_ne 46 l
  cases hx : cutL 46 l with
  | nil => exact absurd hx hne
  | cons x xs =>
    rw [hx] at hc h h2
    cases xs with
    | nil =>
      simp at h
      simp only [h, if_true]
      simp [numL_zeros]
    | cons y ys =>
      cases ys with
      | nil =>
        simp at h
        have hy := h2 rfl
        simp at hy
        simp [h, hy]
      | cons z zs => simp at hc
theorem restL_len {p : Nat} {l : List UInt8} (h2 : (cutL 46 l).length = 2 → okNum p ((cutL 46 l).getD 1 []) = true) : (restL l).length ≤ p ∧ ∀ b ∈ restL l, isD b = true := by
  unfold restL
  split
  · rename_i h
    have := okNum_iff.1 (h2 h)
    exact ⟨this.2.1, this.2.2⟩
  · simp
theorem ok_filled {p : Nat} {y : List UInt8} (hp : 1 ≤ p) (h : y.length ≤ p) (hd : ∀ b ∈ y, isD b = true) : okNum p (y ++ List.replicate (p - y.length) 48) = true := by
  refine okNum_iff.2 ⟨?_, ?_, ?_⟩
  · rw [List.length_append, List.length_replicate]; omega
  · rw [List.length_append, List.length_replicate]; omega
  · intro b hb
    rcases List.mem_append.1 hb with hb | hb
    · exact hd b hb
    · rw [List.eq_of_mem_replicate hb]; decide

theorem cutL_piece (c : UInt8) : ∀ (l : List UInt8), ∀ x ∈ cutL c l, x.length ≤ l.length
  | [], x, hx => by simp [cutL] at hx; subst hx; simp
  | b :: l, x, hx => by
    have ih := cutL_piece c l
    simp only [cutL] at hx
    split at hx
    · rcases List.mem_cons.1 hx with rfl | hx
      · simp
      · have := ih x hx; simp; omega
    · split at hx
      · simp at hx; subst hx; simp
      · rename_i y ys he
        rcases List.mem_cons.1 hx with rfl | hx
        · have := ih y (by rw [he]; simp); simp; omega
        · have := ih x (by rw [he]; simp [hx]); simp; omega
theorem getD_mem {α : Type} {l : List α} {i : Nat} {d : α} (h : i < l.length) : l.getD i d ∈ l := by
  rw [List.getD_eq_getElem?_getD, List.getElem?_eq_getElem h]; simp
theorem zeros_more (R : List UInt8) (j : Nat) : strB (R ++ List.replicate j 48) ++ ⟨#[48]⟩ = strB (R ++ List.replicate (j + 1) 48) := by
  show strB _ ++ strB [48] = _
  rw [strB_append, List.append_assoc, List.replicate_succ']

end Go.Proofs.Ytbkfjebmpccblaa
