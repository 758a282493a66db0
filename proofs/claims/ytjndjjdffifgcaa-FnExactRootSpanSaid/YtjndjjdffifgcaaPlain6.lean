/-
  Plain facts on decimal digits. No program is imported here. No condition.
-/
import Derived.Test.YtjndjjdffifgcaaPlain5
namespace Go.Proofs.Ytjndjjdffifgcaa

/-- The decimal digits of a number as bytes, the lowest first. -/
def decF : Nat → Int → List Int
  | 0, _ => []
  | f + 1, n => if n ≤ 0 then [] else (48 + n % 10) :: decF f (n / 10)
def dec (n : Int) : List Int := decF n.toNat n
theorem decF_zero (f : Nat) (n : Int) (h : n ≤ 0) : decF f n = [] := by
  cases f with
  | zero => rfl
  | succ f => simp only [decF]; rw [if_pos h]
theorem decF_fuel : ∀ (f g : Nat) (n : Int), n.toNat ≤ f → n.toNat ≤ g → decF f n = decF g n
  | 0, g, n, hf, _ => by rw [decF_zero g n (by omega)]; rfl
  | f + 1, 0, n, _, hg => by rw [decF_zero (f + 1) n (by omega)]; rfl
  | f + 1, g + 1, n, hf, hg => by
    simp only [decF]
    by_cases h : n ≤ 0
    · rw [if_pos h, if_pos h]
    · rw [if_neg h, if_neg h, decF_fuel f g (n / 10) (by omega) (by omega)]
theorem dec_zero {n : Int} (h : n ≤ 0) : dec n = [] := decF_zero _ n h
theorem dec_pos {n : Int} (h : 0 < n) : dec n = (48 + n % 10) :: dec (n / 10) := by
  unfold dec
  obtain ⟨f, hf⟩ : ∃ f, n.toNat = f + 1 := ⟨n.toNat - 1, by omega⟩
  rw [hf]
  simp only [decF]
  rw [if_neg (by omega), decF_fuel f (n / 10).toNat (n / 10) (by omega) (by omega)]

/-- Two to the power of b. -/
def p2 : Nat → Int
  | 0 => 1
  | b + 1 => 2 * p2 b
theorem dec_len2 : ∀ (b : Nat) (n : Int), n < p2 b → (dec n).length ≤ b
  | 0, n, h => by simp only [p2] at h; rw [dec_zero (by omega)]; simp
  | b + 1, n, h => by
    by_cases hn : 0 < n
    · rw [dec_pos hn]
      simp only [p2] at h
      have := dec_len2 b (n / 10) (by omega)
      simp only [List.length_cons]; omega
    · rw [dec_zero (by omega)]; simp
theorem pw_p2 : ∀ k, pw k = p2 (16 * k)
  | 0 => rfl
  | k + 1 => by
    have := pw_p2 k
    rw [show 16 * (k + 1) = 16 * k + 16 by omega]
    simp only [pw, p2]
    omega
theorem dec_len {n : Int} {k : Nat} (h : n < pw k) : (dec n).length ≤ 16 * k := dec_len2 (16 * k) n (by rw [← pw_p2]; exact h)

/-- The decimal text of a number, as bytes. -/
def decText (n : Int) : List Int := if n = 0 then [48] else (dec n).reverse

end Go.Proofs.Ytjndjjdffifgcaa
