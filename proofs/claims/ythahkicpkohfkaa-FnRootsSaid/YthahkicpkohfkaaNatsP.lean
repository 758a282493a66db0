/-
  Plain facts on sums, differences, texts and values of naturals, for the law on them. No condition but what each says.
-/
import Derived.Test.YthahkicpkohfkaaDivsP
import Derived.Test.YthahkicpkohfkaaJ2
import Derived.Test.YthahkicpkohfkaaValue
import Derived.Test.YthahkicpkohfkaaReadP
import Derived.Test.YthahkicpkohfkaaTextV
namespace Go.Proofs.Ythahkicpkohfkaa
open Go.RowKit

def cmpN (xs ys : List Int) : Int := if fault2 xs ys = 0 then cmpV (val xs) (val ys) else 0
theorem cmpV_nonneg {x y : Int} (h : y ≤ x) : 0 ≤ cmpV x y := by unfold cmpV; rw [if_neg (by omega)]; split <;> omega
theorem cmpN_nonneg {xs ys : List Int} (h : val ys ≤ val xs) : 0 ≤ cmpN xs ys := by
  unfold cmpN
  split
  · exact cmpV_nonneg h
  · omega

theorem sum_back {xs ys : List Int} (h : sumC xs ys = 0) : natFault (sumL xs ys) = 0 ∧ subList (sumL xs ys) ys = xs ∧ 0 ≤ cmpN (sumL xs ys) xs := by
  obtain ⟨hx, hy, hl, hs⟩ := sumC_zero h
  have x0 := (canon_nonneg (canon_of_fault hx)).1
  have y0 := (canon_nonneg (canon_of_fault hy)).1
  have hf : natFault (sumL xs ys) = 0 := by rw [hs]; exact fault_digits hl
  have hv : val (sumL xs ys) = val xs + val ys := by rw [hs]; exact val_digits' (by omega)
  refine ⟨hf, ?_, cmpN_nonneg (by omega)⟩
  unfold subList
  rw [if_pos (fault2_of hf hy), hv, if_neg (by omega), show val xs + val ys - val ys = val xs by omega]
  exact digits_val (canon_of_fault hx)

theorem sub_back {xs ys : List Int} (h : subCode xs ys = 0) : sumL (subList xs ys) ys = xs ∧ 0 ≤ cmpN xs ys := by
  unfold subCode at h
  by_cases h1 : fault2 xs ys = 0
  · rw [if_pos h1] at h
    by_cases h2 : val xs < val ys
    · rw [if_pos h2] at h; omega
    have hb := fault2_zero h1
    have hx := fault_lt hb.1
    have hy := fault_lt hb.2
    have hs : subList xs ys = digits (val xs - val ys) := by unfold subList; rw [if_pos h1, if_neg h2]
    have hf : natFault (subList xs ys) = 0 := by rw [hs]; exact fault_digits (digits_len 40 _ (by omega))
    have hv : val (subList xs ys) = val xs - val ys := by rw [hs]; exact val_digits' (by omega)
    refine ⟨?_, cmpN_nonneg (by omega)⟩
    unfold sumL
    rw [if_pos (fault2_of hf hb.2), hv, show val xs - val ys + val ys = val xs by omega, fitList_ok hx.2]
    exact digits_val (canon_of_fault hb.1)
  · rw [if_neg h1] at h; exact absurd h h1

theorem strOf_bytesOf (s : ByteArray) : strOfNums (bytesOf s) = s := by
  unfold strOfNums bytesOf
  apply ByteArray.ext
  simp [Function.comp_def]

theorem read_back {s : ByteArray} (h : rnCode (bytesOf s) = 0) : natFault (rnLimbs (bytesOf s)) = 0 ∧ textVal (rnLimbs (bytesOf s)) = s := by
  unfold rnCode at h
  by_cases h1 : NTx (bytesOf s)
  · rw [if_pos h1] at h
    by_cases h2 : rnFit (bytesOf s)
    · have e := rn_yes h1 h2
      have hf : natFault (rnLimbs (bytesOf s)) = 0 := by rw [e.2]; exact fault_digits h2
      refine ⟨hf, ?_⟩
      unfold textVal
      rw [if_pos hf, e.2, val_digits' (num_ge _ 0 h1.2.2 (Int.le_refl 0)), text_back ⟨by have := h1.1; omega, h1.2.2, h1.2.1⟩]
      exact strOf_bytesOf s
    · rw [if_neg h2] at h; omega
  · rw [if_neg h1] at h; omega

theorem value_back {n : Int} (h : 0 ≤ n) (h' : n ≤ 9223372036854775807) : valCode (digits n) = 0 ∧ valVal (digits n) = n := by
  have hf : natFault (digits n) = 0 := fault_digits (Nat.le_trans (digits_len 4 n (by simp only [pw]; omega)) (by omega))
  unfold valCode valVal maxI
  rw [if_pos hf, if_pos hf, val_digits' h, if_neg (by omega), if_neg (by omega)]
  exact ⟨rfl, rfl⟩

theorem CompareNats_c (a b : Option Addr) (n c m c' : Nat) (xs ys : List Int) (w : World) (h : Rd w a n xs) (h' : Rd w b m ys) :
    Calls Try.prog 64 #[.slice a n c, .slice b m c'] w (Ans w (.int .i64 (cmpN xs ys))) := CompareNats_any a b n c m c' xs ys w h h'
end Go.Proofs.Ythahkicpkohfkaa
