/-
 Plain facts on ways; BigValue and l2Int by numbers. No condition but those named.
-/
import Derived.Test.YtfafjijoeanbhaaPlainC
import Derived.Test.YtfafjijoeanbhaaBigVal
import Derived.Test.YtfafjijoeanbhaaBigV
import Derived.Test.YtfafjijoeanbhaaArcFar
namespace Go.Proofs.Ytfafjijoeanbhaa
open Go.RowKit

/-- An angle as a way, in millionths of a metre, rounded down and up. -/
def wayF (k : Nat) (x : Int) : Int := x * 6371008800000 / p2 k
def wayC (k : Nat) (x : Int) : Int := cdiv (x * 6371008800000) (p2 k)
theorem way_len {k : Nat} {x : Int} (hk : k ≤ 96) (h1 : -(4 * p2 k) ≤ x) (h2 : x ≤ 4 * p2 k) : (mag (x * 6371008800000)).length ≤ 20 := by
 have hp := p2_le hk
 exact len20 (M := 4 * 79228162514264337593543950336 * 6371008800000) (by omega) (by omega) (by omega)
theorem wayF_in {k : Nat} {x : Int} (h1 : -(4 * p2 k) ≤ x) (h2 : x ≤ 4 * p2 k) : -25484035200000 ≤ wayF k x ∧ wayF k x ≤ 25484035200000 := by
 have hp := p2_pos k
 refine ⟨le_fdiv (by omega) (by omega), ?_⟩
 unfold wayF
 exact Int.ediv_le_of_le_mul (by omega) (by omega)
theorem wayC_in {k : Nat} {x : Int} (h1 : -(4 * p2 k) ≤ x) (h2 : x ≤ 4 * p2 k) : -25484035200000 ≤ wayC k x ∧ wayC k x ≤ 25484035200000 := by
 have hp := p2_pos k
 refine ⟨?_, cdiv_le (by omega) (by omega)⟩
 unfold wayC cdiv
 have : -(x * 6371008800000) / p2 k ≤ 25484035200000 := Int.ediv_le_of_le_mul (by omega) (by omega)
 omega
theorem farC_pre9 {P n : Int} {p q : Bool} {xs ys : List Int} (h : farC P n p xs q ys = 0) : precS P (spanFault p xs q ys) = 0 := by
 unfold farC at h
 by_cases h0 : precS P (spanFault p xs q ys) = 0
 ·exact h0
 ·rw [if_neg h0] at h; exact h
theorem far_in9 {k : Nat} {n x1 x2 : Int} (fx : x1 ≤ x2) (hp : precS (k : Int) (spanFault (isNeg x1) (mag x1) (isNeg x2) (mag x2)) = 0) (h : farC (k : Int) n (isNeg x1) (mag x1) (isNeg x2) (mag x2) = 0) : In2 (n * p2 k) ⟨x1, x2⟩ := by
 rw [farC_ok hp] at h
 have h1 : away2 ⟨x1, x2⟩ ≤ n * p2 k := by
  by_cases hh : n * p2 k < away2 ⟨x1, x2⟩
  ·rw [if_pos hh] at h; omega
  ·omega
 obtain ⟨m, hm⟩ : ∃ m, m = n * p2 k := ⟨_, rfl⟩
 rw [← hm] at h1 ⊢
 unfold away2 maxZ abZ at h1
 unfold In2
 dsimp only at h1 ⊢
 (repeat' split at h1) <;> omega
theorem not_out {z : Int} (h1 : -25484035200000 ≤ z) (h2 : z ≤ 25484035200000) : ¬ outI z := by unfold outI; omega
theorem BigValue_n (z : Int) (a : Option Addr) (c : Nat) (w : World) (h : Sl w a (mag z).length c (mag z)) (hl : (mag z).length ≤ 40) (ho : ¬ outI z) :
  Calls Try.prog 48 #[.agg #[.bool (isNeg z), .slice a (mag z).length c]] w (Ans w (.agg #[.int .i64 0, .int .i64 z])) := by
 have h9 := BigValue_any (isNeg z) a _ c (mag z) w h
 obtain ⟨e1, e2⟩ := bv_ok (bigOk_of hl).fault (by rw [sv_mag]; exact ho)
 rw [e1, e2, sv_mag] at h9
 exact h9
theorem l2Int_n (z : Int) (a : Option Addr) (c : Nat) (w : World) (h : Sl w a (mag z).length c (mag z)) (hl : (mag z).length ≤ 40) (ho : ¬ outI z) :
  Calls Try.prog 37 #[.agg #[.bool (isNeg z), .slice a (mag z).length c]] w (Ans w (.int .i64 z)) := by
 have h9 := l2Int_any (isNeg z) a _ c (mag z) w h (bigOk_of hl) (by rw [sv_mag]; exact ho)
 rw [sv_mag] at h9
 exact h9
theorem p2_big {k : Nat} {e : Int} (hk : k ≤ 96) (he : e = p2 k) : (mag e).length ≤ 20 ∧ 0 < e := by
 have hp := p2_pos k; have hl := p2_le hk
 exact ⟨len20 (M := 79228162514264337593543950336) (by omega) (by omega) (by omega), by omega⟩
def metC (P : Int) (p : Bool) (xs : List Int) (q : Bool) (ys : List Int) : Int := if farC P 4 p xs q ys = 0 then (if p = true then 3 else 0) else farC P 4 p xs q ys
def metL (P : Int) (p : Bool) (xs : List Int) (q : Bool) (ys : List Int) : Int := if metC P p xs q ys = 0 then wayF P.toNat (sv p xs) else 0
def metH (P : Int) (p : Bool) (xs : List Int) (q : Bool) (ys : List Int) : Int := if metC P p xs q ys = 0 then wayC P.toNat (sv q ys) else 0
theorem met_bad {P : Int} {p q : Bool} {xs ys : List Int} (h : farC P 4 p xs q ys ≠ 0) : metC P p xs q ys = farC P 4 p xs q ys ∧ metL P p xs q ys = 0 ∧ metH P p xs q ys = 0 := by
 have e : metC P p xs q ys = farC P 4 p xs q ys := if_neg h
 refine ⟨e, ?_, ?_⟩
 ·unfold metL; rw [e, if_neg h]
 ·unfold metH; rw [e, if_neg h]
theorem met_neg {P : Int} {p q : Bool} {xs ys : List Int} (h : farC P 4 p xs q ys = 0) (hp : p = true) : metC P p xs q ys = 3 ∧ metL P p xs q ys = 0 ∧ metH P p xs q ys = 0 := by
 have e : metC P p xs q ys = 3 := by unfold metC; rw [if_pos h, if_pos hp]
 refine ⟨e, ?_, ?_⟩
 ·unfold metL; rw [e]; rfl
 ·unfold metH; rw [e]; rfl
theorem met_ok {k : Nat} {x1 x2 : Int} (h : farC (k : Int) 4 (isNeg x1) (mag x1) (isNeg x2) (mag x2) = 0) (hp : isNeg x1 = false) : metC (k : Int) (isNeg x1) (mag x1) (isNeg x2) (mag x2) = 0 ∧ metL (k : Int) (isNeg x1) (mag x1) (isNeg x2) (mag x2) = wayF k x1 ∧ metH (k : Int) (isNeg x1) (mag x1) (isNeg x2) (mag x2) = wayC k x2 := by
 have e : metC (k : Int) (isNeg x1) (mag x1) (isNeg x2) (mag x2) = 0 := by unfold metC; rw [if_pos h, if_neg (by rw [hp]; decide)]
 refine ⟨e, ?_, ?_⟩
 ·unfold metL; rw [e, if_pos rfl, sv_mag]; rfl
 ·unfold metH; rw [e, if_pos rfl, sv_mag]; rfl

end Go.Proofs.Ytfafjijoeanbhaa
