/-
  Plain facts on quotients of lists of limbs. No program is imported here. No condition.
-/
import Derived.Test.YtjndjjdffifgcaaPlain3
namespace Go.Proofs.Ytjndjjdffifgcaa

theorem val_split (xs : List Int) (k : Nat) (hk : k ≤ xs.length) : val xs = val (xs.take k) + pw k * val (xs.drop k) := by
  have h : val (xs.take k ++ xs.drop k) = val xs := by rw [List.take_append_drop]
  rw [← h, val_append, ap_pw]
  have e : (xs.take k).length = k := by simp; omega
  rw [e]

/-- The guess of a quotient's limb by the two highest limbs of the divisor. -/
def guessV (R ys : List Int) : Int :=
  ((atP R ys.length * 65536 + atP R ((ys.length : Int) - 1)) * 65536 + atP R ((ys.length : Int) - 2)) / (atP ys ((ys.length : Int) - 1) * 65536 + atP ys ((ys.length : Int) - 2))

theorem ediv_spec {X V : Int} (hV : 0 < V) : X = V * (X / V) + X % V ∧ 0 ≤ X % V ∧ X % V < V :=
  ⟨(Int.mul_ediv_add_emod X V).symm, Int.emod_nonneg X (by omega), Int.emod_lt_of_pos X hV⟩

theorem atP_neg {xs : List Int} {p : Int} (h : p < 0) : atP xs p = 0 := if_pos h
theorem atP_of {xs : List Int} {p : Int} {k : Nat} (h : p = k) : atP xs p = xs.getD k 0 := by rw [h, atP_nat]

theorem guess_bounds {R ys : List Int} (hR : AllLimbs R) (hRl : R.length = ys.length + 1) (hy : AllLimbs ys) (hm : 0 < ys.length) (ht : ys.getD (ys.length - 1) 0 ≠ 0) (hlt : val R < 65536 * val ys) :
    val R / val ys ≤ guessV R ys ∧ guessV R ys ≤ 65537 ∧ 0 ≤ guessV R ys := by
  have htop : 1 ≤ ys.getD (ys.length - 1) 0 := by have := hy (ys.length - 1) (by omega); omega
  rcases (by omega : ys.length = 1 ∨ 2 ≤ ys.length) with h1 | h2
  · have e1 : atP ys ((ys.length : Int) - 1) = ys.getD 0 0 := atP_of (by omega)
    have e2 : atP ys ((ys.length : Int) - 2) = 0 := atP_neg (by omega)
    have e3 : atP R (ys.length : Int) = R.getD 1 0 := by rw [atP_nat, h1]
    have e4 : atP R ((ys.length : Int) - 1) = R.getD 0 0 := atP_of (by omega)
    have e5 : atP R ((ys.length : Int) - 2) = 0 := atP_neg (by omega)
    have vR : val R = R.getD 0 0 + 65536 * R.getD 1 0 := by
      have a := val_drop R 0
      have b := val_drop R 1
      have c : val (R.drop 2) = 0 := by rw [List.drop_of_length_le (by omega)]; rfl
      simp only [List.drop_zero] at a
      rw [a, b, c]; omega
    have vy : val ys = ys.getD 0 0 := by
      have a := val_drop ys 0
      have c : val (ys.drop 1) = 0 := by rw [List.drop_of_length_le (by omega)]; rfl
      simp only [List.drop_zero] at a
      rw [a, c]; omega
    rw [h1] at htop
    simp only [Nat.sub_self] at htop
    have h0 := hR 0 (by omega)
    have h01 := hR 1 (by omega)
    have g : guessV R ys = val R / val ys := by
      unfold guessV
      rw [e1, e2, e3, e4, e5, vR, vy]
      generalize R.getD 0 0 = r0 at *
      generalize R.getD 1 0 = r1 at *
      generalize ys.getD 0 0 = y0 at *
      rw [show (r1 * 65536 + r0) * 65536 + 0 = 65536 * (r0 + 65536 * r1) by omega, show y0 * 65536 + 0 = 65536 * y0 by omega]
      exact Int.mul_ediv_mul_of_pos _ _ (by omega)
    have hq : val R / val ys < 65536 := Int.ediv_lt_of_lt_mul (by omega) hlt
    have hq0 : 0 ≤ val R / val ys := Int.ediv_nonneg (by omega) (by omega)
    rw [g]; omega
  · obtain ⟨p, hp⟩ : ∃ p, ys.length = p + 2 := ⟨ys.length - 2, by omega⟩
    have e1 : atP ys ((ys.length : Int) - 1) = ys.getD (p + 1) 0 := atP_of (by omega)
    have e2 : atP ys ((ys.length : Int) - 2) = ys.getD p 0 := atP_of (by omega)
    have e3 : atP R (ys.length : Int) = R.getD (p + 2) 0 := by rw [atP_nat, hp]
    have e4 : atP R ((ys.length : Int) - 1) = R.getD (p + 1) 0 := atP_of (by omega)
    have e5 : atP R ((ys.length : Int) - 2) = R.getD p 0 := atP_of (by omega)
    have sR := val_split R p (by omega)
    have sy := val_split ys p (by omega)
    have dR : val (R.drop p) = (R.getD (p + 2) 0 * 65536 + R.getD (p + 1) 0) * 65536 + R.getD p 0 := by
      have a := val_drop R p
      have b : val (R.drop (p + 1)) = R.getD (p + 1) 0 + 65536 * val (R.drop (p + 2)) := val_drop R (p + 1)
      have b2 : val (R.drop (p + 2)) = R.getD (p + 2) 0 + 65536 * val (R.drop (p + 3)) := val_drop R (p + 2)
      have c : val (R.drop (p + 3)) = 0 := by rw [List.drop_of_length_le (by omega)]; rfl
      omega
    have dy : val (ys.drop p) = ys.getD (p + 1) 0 * 65536 + ys.getD p 0 := by
      have a := val_drop ys p
      have b : val (ys.drop (p + 1)) = ys.getD (p + 1) 0 + 65536 * val (ys.drop (p + 2)) := val_drop ys (p + 1)
      have c : val (ys.drop (p + 2)) = 0 := by rw [List.drop_of_length_le (by omega)]; rfl
      omega
    have tR := (hR.take p).val
    have ty := (hy.take p).val
    have lR : (R.take p).length = p := by simp; omega
    have ly : (ys.take p).length = p := by simp; omega
    rw [lR] at tR
    rw [ly] at ty
    have hg : guessV R ys = val (R.drop p) / val (ys.drop p) := by
      unfold guessV
      rw [e1, e2, e3, e4, e5, dR, dy]
    have y1 := hy p (by omega)
    rw [hp, show p + 2 - 1 = p + 1 by omega] at htop
    have r0 := hR p (by omega)
    have r1 := hR (p + 1) (by omega)
    have r2 := hR (p + 2) (by omega)
    have hP := pw_pos p
    rw [hg]
    generalize hH : val (R.drop p) = H at *
    generalize hD : val (ys.drop p) = D at *
    generalize hX : val R = X at *
    generalize hV : val ys = V at *
    generalize val (R.take p) = a at *
    generalize val (ys.take p) = b at *
    generalize pw p = P at *
    have hD1 : 65536 ≤ D := by omega
    have hH0 : 0 ≤ H := by omega
    have hPD : 0 ≤ P * D := Int.mul_nonneg (by omega) (by omega)
    have hPD1 : 65536 * P ≤ P * D := by
      have : P * 65536 ≤ P * D := Int.mul_le_mul_of_nonneg_left hD1 (by omega)
      omega
    have hPH : 0 ≤ P * H := Int.mul_nonneg (by omega) hH0
    have hVp : 0 < V := by omega
    obtain ⟨q1, q2, q3⟩ := ediv_spec (X := X) hVp
    have hX0 : 0 ≤ X := by omega
    have hq0 : 0 ≤ X / V := Int.ediv_nonneg hX0 (by omega)
    generalize X / V = q at *
    generalize X % V = r at *
    refine ⟨?_, ?_, Int.ediv_nonneg hH0 (by omega)⟩
    · refine (Int.le_ediv_iff_mul_le (by omega)).2 ?_
      -- q * D ≤ H
      have h1 : P * (q * D) ≤ V * q := by
        have e : V * q = P * (q * D) + b * q := by rw [sy, Int.add_mul, Int.mul_assoc, Int.mul_comm D q]; omega
        have := Int.mul_nonneg ty.1 hq0
        omega
      have h3 : P * (q * D) < P * (H + 1) := by
        rw [Int.mul_add, Int.mul_one]; omega
      have := Int.lt_of_mul_lt_mul_left h3 (by omega)
      omega
    · -- H / D ≤ 65537
      have h4 : P * H < P * (65536 * (D + 1)) := by
        have e : P * (65536 * (D + 1)) = 65536 * (P * D) + 65536 * P := by rw [Int.mul_left_comm, Int.mul_add, Int.mul_one]; omega
        omega
      have h5 := Int.lt_of_mul_lt_mul_left h4 (by omega)
      have h6 : H / D < 65538 := Int.ediv_lt_of_lt_mul (by omega) (by omega)
      omega

/-- One try: what is left under a guess, as so many limbs and a carry. -/
theorem guess_end {out : List Int} {cy X V g : Int} {n : Nat} (ho : AllLimbs out) (hl : out.length = n) (hV : 0 < V) (h : val out + pw n * cy = X - g * V) (hg : X / V ≤ g) (hg2 : g ≤ 65537) (hX : 0 ≤ X ∧ X < pw n) (hVn : 32769 * V ≤ pw n) :
    -3 ≤ cy ∧ cy ≤ 0 ∧ (cy < 0 → X / V ≤ g - 1) ∧ (¬ cy < 0 → g = X / V ∧ val out = X % V) := by
  have h1 := ho.val
  rw [hl] at h1
  have hp := pw_pos n
  generalize pw n = P at *
  obtain ⟨q1, q2, q3⟩ := ediv_spec (X := X) hV
  have hq0 : 0 ≤ X / V := Int.ediv_nonneg hX.1 (by omega)
  generalize X / V = q at *
  generalize X % V = r at *
  obtain ⟨e, he⟩ : ∃ e, g = q + e := ⟨g - q, by omega⟩
  subst he
  have hE : X - (q + e) * V = r - e * V := by rw [Int.add_mul, Int.mul_comm q V]; omega
  rw [hE] at h
  have heV : e * V ≤ 65537 * V := Int.mul_le_mul_of_nonneg_right (by omega) (by omega)
  have heV0 : 0 ≤ e * V := Int.mul_nonneg (by omega) (by omega)
  have hc3 : -3 ≤ cy := by
    rcases Int.lt_or_le cy (-3) with hc | hc
    · have : P * cy ≤ P * (-4) := Int.mul_le_mul_of_nonneg_left (by omega) (by omega)
      omega
    · exact hc
  have hc0 : cy ≤ 0 := by
    rcases Int.lt_or_le 0 cy with hc | hc
    · have : P * 1 ≤ P * cy := Int.mul_le_mul_of_nonneg_left (by omega) (by omega)
      omega
    · exact hc
  refine ⟨hc3, hc0, fun hc => ?_, fun hc => ?_⟩
  · have : P * cy ≤ P * (-1) := Int.mul_le_mul_of_nonneg_left (by omega) (by omega)
    rcases (by omega : e = 0 ∨ 1 ≤ e) with h0 | h0
    · subst h0; simp at h; omega
    · omega
  · obtain rfl : cy = 0 := by omega
    rcases (by omega : e = 0 ∨ 1 ≤ e) with h0 | h0
    · subst h0; simp at h; exact ⟨by omega, h⟩
    · have : 1 * V ≤ e * V := Int.mul_le_mul_of_nonneg_right h0 (by omega)
      simp at h; omega

end Go.Proofs.Ytjndjjdffifgcaa
