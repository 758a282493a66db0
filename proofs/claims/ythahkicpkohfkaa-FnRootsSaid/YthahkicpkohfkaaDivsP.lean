/-
  Plain facts on products, quotients and rests of naturals, for the laws on divisions. No condition but what each says.
-/
import Derived.Test.YthahkicpkohfkaaDiv
import Derived.Test.YthahkicpkohfkaaMul
import Derived.Test.YthahkicpkohfkaaJ1
import Derived.Test.YthahkicpkohfkaaSMul
import Derived.Test.YthahkicpkohfkaaJ2
namespace Go.Proofs.Ythahkicpkohfkaa
open Go.RowKit

/-- What sums and products of lists answer: the code and the limbs. -/
def sumC (xs ys : List Int) : Int := if fault2 xs ys = 0 then fitCode (val xs + val ys) else fault2 xs ys
def sumL (xs ys : List Int) : List Int := if fault2 xs ys = 0 then fitList (val xs + val ys) else []
def mulC (xs ys : List Int) : Int := if fault2 xs ys = 0 then fitCode (val xs * val ys) else fault2 xs ys
def mulL (xs ys : List Int) : List Int := if fault2 xs ys = 0 then fitList (val xs * val ys) else []

theorem fault2_of {xs ys : List Int} (h : natFault xs = 0) (h' : natFault ys = 0) : fault2 xs ys = 0 := by rw [fault2_second h]; exact h'
theorem canon_of_fault {xs : List Int} (h : natFault xs = 0) : Canon xs := have n := natFault_zero h; canon_of_get xs n.limb n.top
theorem fault_digits {v : Int} (h : (digits v).length ≤ 40) : natFault (digits v) = 0 := nat40_fault (nat40_of_canon (canon_digits' v) h)
theorem fault_lt {xs : List Int} (h : natFault xs = 0) : 0 ≤ val xs ∧ val xs < pw 40 := by
  have := val_pw_le (canon_limbs (canon_of_fault h)) (natFault_zero h).len
  exact this
theorem fitCode_zero {v : Int} (h : fitCode v = 0) : (digits v).length ≤ 40 ∧ fitList v = digits v := by
  unfold fitCode at h
  by_cases h1 : 40 < (digits v).length
  · rw [if_pos h1] at h; omega
  · exact ⟨by omega, if_neg h1⟩
theorem fitList_ok {v : Int} (h : v < pw 40) : fitList v = digits v := if_neg (by have := digits_len 40 v h; omega)
theorem mulC_zero {xs ys : List Int} (h : mulC xs ys = 0) : natFault xs = 0 ∧ natFault ys = 0 ∧ (digits (val xs * val ys)).length ≤ 40 ∧ mulL xs ys = digits (val xs * val ys) := by
  unfold mulC at h
  by_cases h1 : fault2 xs ys = 0
  · rw [if_pos h1] at h
    have h2 := fault2_zero h1
    have h3 := fitCode_zero h
    exact ⟨h2.1, h2.2, h3.1, by unfold mulL; rw [if_pos h1]; exact h3.2⟩
  · rw [if_neg h1] at h; exact absurd h h1
theorem sumC_zero {xs ys : List Int} (h : sumC xs ys = 0) : natFault xs = 0 ∧ natFault ys = 0 ∧ (digits (val xs + val ys)).length ≤ 40 ∧ sumL xs ys = digits (val xs + val ys) := by
  unfold sumC at h
  by_cases h1 : fault2 xs ys = 0
  · rw [if_pos h1] at h
    have h2 := fault2_zero h1
    have h3 := fitCode_zero h
    exact ⟨h2.1, h2.2, h3.1, by unfold sumL; rw [if_pos h1]; exact h3.2⟩
  · rw [if_neg h1] at h; exact absurd h h1

/-- A product is divided by one of both again. -/
theorem mul_back {us vs : List Int} (h : mulC us vs = 0) (hv : 0 < vs.length) :
    divCode (mulL us vs) vs = 0 ∧ divQuot (mulL us vs) vs = us ∧ divRest (mulL us vs) vs = [] ∧ mulL vs us = mulL us vs := by
  obtain ⟨hu, hw, hl, hm⟩ := mulC_zero h
  have hcu := canon_of_fault hu
  have hcv := canon_of_fault hw
  have hpos : 0 < val vs := (canon_nonneg hcv).2 (by intro e; rw [e] at hv; simp at hv)
  have hu0 := (canon_nonneg hcu).1
  have hf : fault2 (mulL us vs) vs = 0 := fault2_of (by rw [hm]; exact fault_digits hl) hw
  have hval : val (mulL us vs) = val us * val vs := by rw [hm]; exact val_digits' (Int.mul_nonneg hu0 (by omega))
  refine ⟨?_, ?_, ?_, ?_⟩
  · unfold divCode; rw [if_pos hf, if_neg (by omega)]
  · unfold divQuot; rw [if_pos ⟨hf, by omega⟩, hval, Int.mul_ediv_cancel _ (by omega)]; exact digits_val hcu
  · unfold divRest; rw [if_pos ⟨hf, by omega⟩, hval, Int.mul_emod_left]; exact digits_zero (Int.le_refl _)
  · rw [hm]; unfold mulL; rw [if_pos (fault2_of hw hu), Int.mul_comm (val vs), fitList, if_neg (by omega)]

/-- The quotient times the divisor and the rest are what was divided. -/
theorem div_back {xs ys : List Int} (h : divCode xs ys = 0) :
    (if fault2 (divRest xs ys) ys = 0 then cmpV (val (divRest xs ys)) (val ys) else 0) = -1 ∧ sumL (mulL (divQuot xs ys) ys) (divRest xs ys) = xs := by
  unfold divCode at h
  by_cases h1 : fault2 xs ys = 0
  · rw [if_pos h1] at h
    by_cases h2 : ys.length = 0
    · rw [if_pos h2] at h; omega
    have hb := fault2_zero h1
    have hcx := canon_of_fault hb.1
    have hcy := canon_of_fault hb.2
    have hpos : 0 < val ys := (canon_nonneg hcy).2 (by intro e; rw [e] at h2; simp at h2)
    have hx := fault_lt hb.1
    have hy := fault_lt hb.2
    have hq0 := Int.ediv_nonneg hx.1 (show 0 ≤ val ys by omega)
    have hr0 := Int.emod_nonneg (val xs) (show val ys ≠ 0 by omega)
    have hr1 := Int.emod_lt_of_pos (val xs) hpos
    have hqx := Int.ediv_le_self (val ys) hx.1
    have hqr := Int.mul_ediv_add_emod (val xs) (val ys)
    have hqy : val xs / val ys * val ys = val xs - val xs % val ys := by rw [Int.mul_comm]; omega
    have eq : divQuot xs ys = digits (val xs / val ys) := if_pos ⟨h1, h2⟩
    have er : divRest xs ys = digits (val xs % val ys) := if_pos ⟨h1, h2⟩
    have fq : natFault (divQuot xs ys) = 0 := by rw [eq]; exact fault_digits (digits_len 40 _ (by omega))
    have fr : natFault (divRest xs ys) = 0 := by rw [er]; exact fault_digits (digits_len 40 _ (by omega))
    have vq : val (divQuot xs ys) = val xs / val ys := by rw [eq]; exact val_digits' hq0
    have vr : val (divRest xs ys) = val xs % val ys := by rw [er]; exact val_digits' hr0
    have em : mulL (divQuot xs ys) ys = digits (val xs - val xs % val ys) := by
      unfold mulL
      rw [if_pos (fault2_of fq hb.2), vq, hqy]
      exact fitList_ok (by omega)
    have fm : natFault (mulL (divQuot xs ys) ys) = 0 := by rw [em]; exact fault_digits (digits_len 40 _ (by omega))
    have hle : 0 ≤ val xs - val xs % val ys := by rw [← hqy]; exact Int.mul_nonneg hq0 (by omega)
    have vm : val (mulL (divQuot xs ys) ys) = val xs - val xs % val ys := by rw [em]; exact val_digits' (by omega)
    constructor
    · rw [if_pos (fault2_of fr hb.2), vr]; exact cmpV_lt hr1
    · unfold sumL
      rw [if_pos (fault2_of fm fr), vm, vr, show val xs - val xs % val ys + val xs % val ys = val xs by omega, fitList_ok hx.2]
      exact digits_val hcx
  · rw [if_neg h1] at h; exact absurd h h1

theorem MulNats_c (a b : Option Addr) (n c m c' : Nat) (xs ys : List Int) (w : World) (h : Rd w a n xs) (h' : Rd w b m ys) :
    Calls Try.prog 50 #[.slice a n c, .slice b m c'] w (NatR w (mulC xs ys) (mulL xs ys)) := MulNats_any a b n c m c' xs ys w h h'
theorem AddNats_c (a b : Option Addr) (n c m c' : Nat) (xs ys : List Int) (w : World) (h : Rd w a n xs) (h' : Rd w b m ys) :
    Calls Try.prog 81 #[.slice a n c, .slice b m c'] w (NatR w (sumC xs ys) (sumL xs ys)) := AddNats_any a b n c m c' xs ys w h h'

end Go.Proofs.Ythahkicpkohfkaa
