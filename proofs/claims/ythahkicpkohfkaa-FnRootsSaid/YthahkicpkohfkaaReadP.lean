/-
  Plain facts on texts of digits and the numbers that they are. No condition.
-/
import Derived.Test.YthahkicpkohfkaaJ1
import Derived.Test.YthahkicpkohfkaaJ2
namespace Go.Proofs.Ythahkicpkohfkaa
open Go.RowKit

/-- The bytes of a text. -/
def bytesOf (s : ByteArray) : List Int := s.data.toList.map fun b => (b.toNat : Int)
theorem bytesOf_len (s : ByteArray) : (bytesOf s).length = s.size := by unfold bytesOf; rw [List.length_map, Array.length_toList]; rfl
theorem bytesOf_get {s : ByteArray} {k : Nat} (h : k < s.size) : (bytesOf s).getD k 0 = ((s[k]'h).toNat : Int) := by
  have h1 : k < s.data.toList.length := by rw [Array.length_toList]; exact h
  have e : (s[k]'h) = s.data.toList[k]'h1 := by rw [Array.getElem_toList]; rfl
  rw [e, bytesOf, List.getD_eq_getElem?_getD, List.getElem?_eq_getElem (by simpa using h1), Option.getD_some, List.getElem_map]

/-- Decimal digits, no 0 ahead but for 0 itself. -/
def NTx (ds : List Int) : Prop := 0 < ds.length ∧ (ds.getD 0 0 = 48 → ds.length = 1) ∧ Decs ds
instance (ds : List Int) : Decidable (Decs ds) := by unfold Decs; exact inferInstance
instance (ds : List Int) : Decidable (NTx ds) := by unfold NTx; exact inferInstance
/-- The digits up to place k. -/
def DecTo (ds : List Int) (k : Nat) : Prop := ∀ i, i < k → 48 ≤ ds.getD i 0 ∧ ds.getD i 0 ≤ 57
theorem decTo_all {ds : List Int} (h : DecTo ds ds.length) : Decs ds := by
  intro d hd
  obtain ⟨i, hi, rfl⟩ := List.getElem_of_mem hd
  have := h i hi
  simpa [List.getD_eq_getElem?_getD, hi] using this
theorem DecTo.more {ds : List Int} {k : Nat} {d : Int} (h : DecTo ds k) (hd : ds.getD k 0 = d) (h1 : 48 ≤ d ∧ d ≤ 57) : DecTo ds (k + 1) := by
  intro i hi
  by_cases he : i < k
  · exact h i he
  · obtain rfl : i = k := by omega
    rw [hd]; exact h1
theorem dec_at {ds : List Int} (h : Decs ds) {k : Nat} (hk : k < ds.length) : 48 ≤ ds.getD k 0 ∧ ds.getD k 0 ≤ 57 := by
  rw [List.getD_eq_getElem?_getD, List.getElem?_eq_getElem hk, Option.getD_some]; exact h _ (List.getElem_mem hk)

def rnFit (ds : List Int) : Prop := (digits (num 0 ds)).length ≤ 40
instance (ds : List Int) : Decidable (rnFit ds) := by unfold rnFit; exact inferInstance
def rnCode (ds : List Int) : Int := if NTx ds then (if rnFit ds then 0 else 7) else 5
def rnLimbs (ds : List Int) : List Int := if NTx ds ∧ rnFit ds then digits (num 0 ds) else []
theorem rn_no {ds : List Int} (h : ¬ NTx ds) : rnCode ds = 5 ∧ rnLimbs ds = [] := ⟨if_neg h, if_neg (fun x => h x.1)⟩
theorem rn_full {ds : List Int} (h : NTx ds) {k : Nat} (hk : 40 < (digits (num 0 (ds.take k))).length) : rnCode ds = 7 ∧ rnLimbs ds = [] := by
  have hf : ¬ rnFit ds := by
    unfold rnFit
    have := digits_len_mono (num_take_le h.2.2 k).2
    omega
  exact ⟨by unfold rnCode; rw [if_pos h, if_neg hf], if_neg (fun x => hf x.2)⟩
theorem rn_yes {ds : List Int} (h : NTx ds) (hf : (digits (num 0 ds)).length ≤ 40) : rnCode ds = 0 ∧ rnLimbs ds = digits (num 0 ds) :=
  ⟨by unfold rnCode; rw [if_pos h, if_pos (show rnFit ds from hf)], if_pos ⟨h, hf⟩⟩

theorem rnLimbs_len (ds : List Int) : (rnLimbs ds).length ≤ 40 := by
  unfold rnLimbs
  split
  · rename_i h; exact h.2
  · simp

/-- Limbs with the value of a number that has as many. -/
theorem limbs_digits {out : List Int} {T : Int} (h : AllLimbs out) (hv : val out = T) (hl : out.length ≤ (digits T).length) : digits T = out := by
  subst hv
  refine (digits_of_limbs h (fun hp hz => ?_)).symm
  have h1 : AllLimbs (out.take (out.length - 1)) := fun i hi => by
    rw [List.length_take] at hi
    have := h i (by omega)
    rw [List.getD_eq_getElem?_getD, List.getElem?_take, if_pos (by omega), ← List.getD_eq_getElem?_getD]
    exact this
  have h2 : val out = val (out.take (out.length - 1)) := by
    have e : out = out.take (out.length - 1) ++ [out.getD (out.length - 1) 0] := by
      have h0 : out.length - 1 < out.length := by omega
      have h9 := List.take_succ_eq_append_getElem h0
      rw [show out.length - 1 + 1 = out.length by omega, List.take_length] at h9
      rw [List.getD_eq_getElem?_getD, List.getElem?_eq_getElem h0, Option.getD_some]
      exact h9
    rw [hz] at e
    have h3 := congrArg val e
    rw [val_append] at h3
    rw [h3]
    show ap _ (0 + 65536 * 0) = _
    rw [show (0 + 65536 * 0 : Int) = 0 by omega, ap_zero]
  have h4 := (val_pw_le h1 (n := out.length - 1) (by rw [List.length_take]; omega)).2
  have h5 := digits_len (out.length - 1) (val out) (by rw [h2]; exact h4)
  omega

end Go.Proofs.Ythahkicpkohfkaa
