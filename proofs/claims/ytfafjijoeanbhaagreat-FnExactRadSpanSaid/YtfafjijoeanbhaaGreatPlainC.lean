/-
 Plain facts on chapter 4: spans as pairs of numbers, what comes of them, and how great that is at most. No condition.
-/
import Derived.Test.YtfafjijoeanbhaaGreatJ1
import Derived.Test.YtfafjijoeanbhaaGreatSpanY
namespace Go.Proofs.YtfafjijoeanbhaaGreat

/-- A quotient rounded up. -/
def cdiv (x d : Int) : Int := -((-x) / d)
theorem cdiv_le {x d M : Int} (hd : 0 < d) (h : x ≤ M * d) : cdiv x d ≤ M := by
 unfold cdiv
 have := (Int.le_ediv_iff_mul_le hd (a := -M) (b := -x)).2 (by rw [Int.neg_mul]; omega)
 omega
theorem le_fdiv {x d M : Int} (hd : 0 < d) (h : M * d ≤ x) : M ≤ x / d := (Int.le_ediv_iff_mul_le hd).2 h
theorem fdiv_le {x d M : Int} (hd : 0 < d) (h : x ≤ M * d) : x / d ≤ M := by
 have := Int.ediv_le_ediv hd h
 rw [Int.mul_ediv_cancel _ (by omega)] at this
 exact this
theorem le_cdiv {x d M : Int} (hd : 0 < d) (h : M * d ≤ x) : M ≤ cdiv x d := by
 unfold cdiv
 have := fdiv_le (M := -M) (x := -x) hd (by rw [Int.neg_mul]; omega)
 omega
theorem fdiv_cdiv {x y d : Int} (hd : 0 < d) (h : x ≤ y) : x / d ≤ cdiv y d := by
 have h1 := Int.ediv_le_ediv hd h
 have h2 : y / d ≤ cdiv y d := by
  refine le_cdiv hd ?_
  exact Int.ediv_mul_le _ (by omega)
 omega
theorem divZ_f {z d : Int} (hd : 0 < d) : divZ false (isNeg z) false (val (mag z)) d = z / d := by
 rw [val_mag]
 by_cases h : z < 0
 ·rw [if_pos h, isNeg_yes h]
  show sg true (if -z % d ≠ 0 ∧ true ≠ false then -z / d + 1 else -z / d) = z / d
  have e := Int.emod_add_mul_ediv (-z) d
  have m1 := Int.emod_nonneg (-z) (show d ≠ 0 by omega)
  have m2 := Int.emod_lt_of_pos (-z) hd
  split
  ·rename_i hh
   show -(-z / d + 1) = z / d
   have h1 : z = d * (-(-z / d + 1)) + (d - -z % d) := by rw [Int.mul_neg, Int.mul_add]; omega
   have h2 := hh.1
   rw [show z / d = (d * (-(-z / d + 1)) + (d - -z % d)) / d by rw [← h1]]
   rw [Int.mul_add_ediv_left _ _ (by omega), Int.ediv_eq_zero_of_lt (a := d - -z % d) (by omega) (by omega)]; omega
  ·rename_i hh
   show -(-z / d) = z / d
   have h0 : -z % d = 0 := by
    by_cases h0 : -z % d = 0
    ·exact h0
    ·exact absurd ⟨h0, by simp⟩ hh
   have h1 : z = d * (-(-z / d)) := by rw [Int.mul_neg]; omega
   rw [show z / d = (d * (-(-z / d))) / d by rw [← h1]]
   rw [Int.mul_ediv_cancel_left _ (by omega)]
 ·rw [if_neg h, isNeg_no (by omega)]
  show sg false (if z % d ≠ 0 ∧ false ≠ false then z / d + 1 else z / d) = z / d
  rw [if_neg (by simp)]; rfl
theorem divZ_c {z d : Int} (hd : 0 < d) : divZ true (isNeg z) false (val (mag z)) d = cdiv z d := by
 rw [val_mag]
 unfold cdiv
 by_cases h : z < 0
 ·rw [if_pos h, isNeg_yes h]
  show sg true (if -z % d ≠ 0 ∧ true ≠ true then -z / d + 1 else -z / d) = -(-z / d)
  rw [if_neg (by simp)]; rfl
 ·rw [if_neg h, isNeg_no (by omega)]
  show sg false (if z % d ≠ 0 ∧ false ≠ true then z / d + 1 else z / d) = -(-z / d)
  have e := Int.emod_add_mul_ediv z d
  have m1 := Int.emod_nonneg z (show d ≠ 0 by omega)
  have m2 := Int.emod_lt_of_pos z hd
  split
  ·rename_i hh
   show z / d + 1 = -(-z / d)
   have h1 : -z = d * (-(z / d + 1)) + (d - z % d) := by rw [Int.mul_neg, Int.mul_add]; omega
   have h2 := hh.1
   rw [show -z / d = (d * (-(z / d + 1)) + (d - z % d)) / d by rw [← h1]]
   rw [Int.mul_add_ediv_left _ _ (by omega), Int.ediv_eq_zero_of_lt (a := d - z % d) (by omega) (by omega)]; omega
  ·rename_i hh
   show z / d = -(-z / d)
   have h0 : z % d = 0 := by
    by_cases h0 : z % d = 0
    ·exact h0
    ·exact absurd ⟨h0, by simp⟩ hh
   have h1 : -z = d * (-(z / d)) := by rw [Int.mul_neg]; omega
   rw [show -z / d = (d * (-(z / d))) / d by rw [← h1]]
   rw [Int.mul_ediv_cancel_left _ (by omega)]; omega
theorem val_p2 (k : Nat) : val (digits (p2 k)) = p2 k := val_digits' (by have := p2_pos k; omega)
theorem outZ_f (z : Int) (k : Nat) : outZ false z k = z / p2 k := by unfold outZ; rw [val_p2]; exact divZ_f (p2_pos k)
theorem outZ_c (z : Int) (k : Nat) : outZ true z k = cdiv z (p2 k) := by unfold outZ; rw [val_p2]; exact divZ_c (p2_pos k)

theorem mulbd2 {x y M N : Int} (h1 : -M ≤ x) (h2 : x ≤ M) (h3 : -N ≤ y) (h4 : y ≤ N) : -(M * N) ≤ x * y ∧ x * y ≤ M * N := by
 have a := Int.mul_nonneg (show 0 ≤ M - x by omega) (show 0 ≤ N + y by omega)
 have b := Int.mul_nonneg (show 0 ≤ M + x by omega) (show 0 ≤ N - y by omega)
 have c := Int.mul_nonneg (show 0 ≤ M - x by omega) (show 0 ≤ N - y by omega)
 have d := Int.mul_nonneg (show 0 ≤ M + x by omega) (show 0 ≤ N + y by omega)
 rw [Int.sub_mul, Int.mul_add, Int.mul_add] at a
 rw [Int.add_mul, Int.mul_sub, Int.mul_sub] at b
 rw [Int.sub_mul, Int.mul_sub, Int.mul_sub] at c
 rw [Int.add_mul, Int.mul_add, Int.mul_add] at d
 omega

/-- A span as two numbers. -/
structure Z2 where
 lo : Int
 hi : Int
/-- In order, and no number of it is farther than M from 0. -/
def In2 (M : Int) (a : Z2) : Prop := -M ≤ a.lo ∧ a.lo ≤ a.hi ∧ a.hi ≤ M
theorem In2.mono {M N : Int} {a : Z2} (h : In2 M a) (hmn : M ≤ N) : In2 N a := by obtain ⟨h1, h2, h3⟩ := h; exact ⟨by omega, h2, by omega⟩
/-- In order, and no end has more than 20 limbs. -/
def Fit2 (a : Z2) : Prop := a.lo ≤ a.hi ∧ (mag a.lo).length ≤ 20 ∧ (mag a.hi).length ≤ 20

theorem p2_96 : p2 96 = 79228162514264337593543950336 := by decide +kernel
theorem p2_le {k : Nat} (h : k ≤ 96) : p2 k ≤ 79228162514264337593543950336 := by have := p2_mono k 96 h; rw [p2_96] at this; exact this
theorem pw_20 : pw 20 = 2135987035920910082395021706169552114602704522356652769947041607822219725780640550022962086936576 := by decide +kernel
theorem len20 {z M : Int} (h1 : -M ≤ z) (h2 : z ≤ M) (hM : M < 2135987035920910082395021706169552114602704522356652769947041607822219725780640550022962086936576) : (mag z).length ≤ 20 := mag_len_lt (by rw [pw_20]; omega)
theorem In2.fit {M : Int} {a : Z2} (h : In2 M a) (hM : M < 2135987035920910082395021706169552114602704522356652769947041607822219725780640550022962086936576) : Fit2 a :=
 ⟨h.2.1, len20 h.1 (by obtain ⟨h1, h2, h3⟩ := h; omega) hM, len20 (by obtain ⟨h1, h2, h3⟩ := h; omega) h.2.2 hM⟩
/-- No number of it is farther than c times one from 0. -/
theorem In2.fitU {k : Nat} {c : Int} {a : Z2} (h : In2 (c * p2 k) a) (hk : k ≤ 96) (hc : c ≤ 1048576) : Fit2 a := by
 refine In2.fit (M := 1048576 * p2 k) (h.mono ?_) ?_
 ·exact Int.mul_le_mul_of_nonneg_right hc (by have := p2_pos k; omega)
 ·have := p2_le hk; omega
theorem fit_fault {a : Z2} (h : Fit2 a) : spanFault (isNeg a.lo) (mag a.lo) (isNeg a.hi) (mag a.hi) = 0 :=
 spanFault_ok (bigFault2_of (bigOk_of (Nat.le_trans h.2.1 (by omega))) (bigOk_of (Nat.le_trans h.2.2 (by omega)))) (by have := h.2.1; omega) (by have := h.2.2; omega) (by rw [sv_mag, sv_mag]; have := h.1; omega)
theorem fit_fault2 {a b : Z2} (h : Fit2 a) (h' : Fit2 b) : spanFault2 (isNeg a.lo) (mag a.lo) (isNeg a.hi) (mag a.hi) (isNeg b.lo) (mag b.lo) (isNeg b.hi) (mag b.hi) = 0 := by
 rw [spanFault2_second (fit_fault h)]; exact fit_fault h'
theorem fit_S {a : Z2} (h : Fit2 a) : fitS a.lo a.hi = ⟨0, a.lo, a.hi⟩ := fitS_ok h.2.1 h.2.2

/-! What comes of spans. -/
def add2 (a b : Z2) : Z2 := ⟨a.lo + b.lo, a.hi + b.hi⟩
def sub2 (a b : Z2) : Z2 := ⟨a.lo - b.hi, a.hi - b.lo⟩
def mul2 (k : Nat) (a b : Z2) : Z2 := ⟨min4 (a.lo * b.lo) (a.lo * b.hi) (a.hi * b.lo) (a.hi * b.hi) / p2 k, cdiv (max4 (a.lo * b.lo) (a.lo * b.hi) (a.hi * b.lo) (a.hi * b.hi)) (p2 k)⟩
def sqL (a : Z2) : Int := if a.lo ≤ 0 ∧ 0 ≤ a.hi then 0 else minZ (a.lo * a.lo) (a.hi * a.hi)
def sq2 (k : Nat) (a : Z2) : Z2 := ⟨sqL a / p2 k, cdiv (maxZ (a.lo * a.lo) (a.hi * a.hi)) (p2 k)⟩
def part2 (n : Int) (a : Z2) : Z2 := ⟨a.lo / n, cdiv a.hi n⟩
def times2 (n : Int) (a : Z2) : Z2 := ⟨a.lo * n, a.hi * n⟩
def abZ (z : Int) : Int := if z < 0 then -z else z
def away2 (a : Z2) : Int := maxZ (abZ a.lo) (abZ a.hi)
def swing2 (a : Z2) : Z2 := ⟨-away2 a, away2 a⟩
theorem add2_in {M N : Int} {a b : Z2} (h : In2 M a) (h' : In2 N b) : In2 (M + N) (add2 a b) := by
 obtain ⟨h1, h2, h3⟩ := h; obtain ⟨h4, h5, h6⟩ := h'
 exact ⟨by show _ ≤ a.lo + b.lo; omega, by show a.lo + b.lo ≤ a.hi + b.hi; omega, by show a.hi + b.hi ≤ _; omega⟩
theorem sub2_in {M N : Int} {a b : Z2} (h : In2 M a) (h' : In2 N b) : In2 (M + N) (sub2 a b) := by
 obtain ⟨h1, h2, h3⟩ := h; obtain ⟨h4, h5, h6⟩ := h'
 exact ⟨by show _ ≤ a.lo - b.hi; omega, by show a.lo - b.hi ≤ a.hi - b.lo; omega, by show a.hi - b.lo ≤ _; omega⟩
theorem min4_le (a b c d : Int) : min4 a b c d ≤ a ∧ min4 a b c d ≤ b ∧ min4 a b c d ≤ c ∧ min4 a b c d ≤ d := by
 unfold min4 minZ; refine ⟨?_, ?_, ?_, ?_⟩ <;> (repeat' split) <;> omega
theorem le_min4 {a b c d m : Int} (h1 : m ≤ a) (h2 : m ≤ b) (h3 : m ≤ c) (h4 : m ≤ d) : m ≤ min4 a b c d := by
 unfold min4 minZ; (repeat' split) <;> omega
theorem le_max4 (a b c d : Int) : a ≤ max4 a b c d ∧ b ≤ max4 a b c d ∧ c ≤ max4 a b c d ∧ d ≤ max4 a b c d := by
 unfold max4 maxZ; refine ⟨?_, ?_, ?_, ?_⟩ <;> (repeat' split) <;> omega
theorem max4_le {a b c d m : Int} (h1 : a ≤ m) (h2 : b ≤ m) (h3 : c ≤ m) (h4 : d ≤ m) : max4 a b c d ≤ m := by
 unfold max4 maxZ; (repeat' split) <;> omega
theorem mul2_in {k : Nat} {M N L : Int} {a b : Z2} (h : In2 M a) (h' : In2 N b) (hL : M * N ≤ L * p2 k) : In2 L (mul2 k a b) := by
 obtain ⟨h1, h2, h3⟩ := h; obtain ⟨h4, h5, h6⟩ := h'
 have hp := p2_pos k
 obtain ⟨a1, a2⟩ := mulbd2 (x := a.lo) (y := b.lo) h1 (by omega) h4 (by omega)
 obtain ⟨b1, b2⟩ := mulbd2 (x := a.lo) (y := b.hi) h1 (by omega) (by omega) h6
 obtain ⟨c1, c2⟩ := mulbd2 (x := a.hi) (y := b.lo) (by omega) h3 h4 (by omega)
 obtain ⟨d1, d2⟩ := mulbd2 (x := a.hi) (y := b.hi) (by omega) h3 (by omega) h6
 have e1 := le_min4 a1 b1 c1 d1
 have e2 := max4_le a2 b2 c2 d2
 have e3 := (min4_le (a.lo * b.lo) (a.lo * b.hi) (a.hi * b.lo) (a.hi * b.hi)).1
 have e4 := (le_max4 (a.lo * b.lo) (a.lo * b.hi) (a.hi * b.lo) (a.hi * b.hi)).1
 exact ⟨le_fdiv hp (by rw [Int.neg_mul]; omega), fdiv_cdiv hp (by omega), cdiv_le hp (by omega)⟩
theorem sq2_in {k : Nat} {M L : Int} {a : Z2} (h : In2 M a) (hL : M * M ≤ L * p2 k) : In2 L (sq2 k a) ∧ 0 ≤ (sq2 k a).lo := by
 obtain ⟨h1, h2, h3⟩ := h
 have hp := p2_pos k
 obtain ⟨a1, a2⟩ := mulbd2 (x := a.lo) (y := a.lo) h1 (by omega) h1 (by omega)
 obtain ⟨d1, d2⟩ := mulbd2 (x := a.hi) (y := a.hi) (by omega) h3 (by omega) h3
 have n1 : 0 ≤ a.lo * a.lo := by
  rcases Int.le_total 0 a.lo with e | e
  ·exact Int.mul_nonneg e e
  ·exact Int.mul_nonneg_of_nonpos_of_nonpos e e
 have n2 : 0 ≤ a.hi * a.hi := by
  rcases Int.le_total 0 a.hi with e | e
  ·exact Int.mul_nonneg e e
  ·exact Int.mul_nonneg_of_nonpos_of_nonpos e e
 have s1 : 0 ≤ sqL a := by unfold sqL minZ; (repeat' split) <;> omega
 have s2 : sqL a ≤ maxZ (a.lo * a.lo) (a.hi * a.hi) := by unfold sqL minZ maxZ; (repeat' split) <;> omega
 have s3 : maxZ (a.lo * a.lo) (a.hi * a.hi) ≤ M * M := by unfold maxZ; split <;> omega
 have s4 : 0 ≤ sqL a / p2 k := Int.ediv_nonneg s1 (by omega)
 have s5 : 0 ≤ L := by
  rcases Int.le_total 0 L with e | e
  ·exact e
  ·have h7 : L * p2 k ≤ 0 := Int.mul_nonpos_of_nonpos_of_nonneg e (by omega)
   have h8 : M * M = 0 := by omega
   rcases Int.lt_or_eq_of_le e with h9 | h9
   ·have := Int.mul_neg_of_neg_of_pos h9 hp; omega
   ·omega
 exact ⟨⟨by show -L ≤ sqL a / p2 k; omega, fdiv_cdiv hp s2, cdiv_le hp (by omega)⟩, s4⟩
theorem part2_in {n M L : Int} {a : Z2} (hn : 1 ≤ n) (h : In2 M a) (hL : M ≤ L * n) : In2 L (part2 n a) := by
 obtain ⟨h1, h2, h3⟩ := h
 exact ⟨le_fdiv (by omega) (by rw [Int.neg_mul]; omega), fdiv_cdiv (by omega) h2, cdiv_le (by omega) (by omega)⟩
theorem times2_in {n M : Int} {a : Z2} (hn : 0 ≤ n) (h : In2 M a) : In2 (M * n) (times2 n a) := by
 obtain ⟨h1, h2, h3⟩ := h
 refine ⟨?_, Int.mul_le_mul_of_nonneg_right h2 hn, Int.mul_le_mul_of_nonneg_right h3 hn⟩
 have := Int.mul_le_mul_of_nonneg_right h1 hn
 rw [Int.neg_mul] at this; exact this
theorem abZ_nonneg (z : Int) : 0 ≤ abZ z := by unfold abZ; split <;> omega
theorem away2_nonneg (a : Z2) : 0 ≤ away2 a := by
 have h1 := abZ_nonneg a.lo; have h2 := abZ_nonneg a.hi
 unfold away2 maxZ; split <;> omega
theorem away2_le {M : Int} {a : Z2} (h : In2 M a) : away2 a ≤ M := by
 obtain ⟨h1, h2, h3⟩ := h; unfold away2 maxZ abZ; (repeat' split) <;> omega
theorem swing2_in {M : Int} {a : Z2} (h : In2 M a) : In2 M (swing2 a) := by
 have h1 := away2_le h; have h2 := away2_nonneg a
 exact ⟨by show -M ≤ -away2 a; omega, by show -away2 a ≤ away2 a; omega, h1⟩

/-! The series of an arc. -/
def arcT (k : Nat) (x : Z2) : Nat → Z2
 | 0 => x
 | j + 1 => mul2 k (arcT k x j) (sq2 k x)
def put2 (s t : Z2) (j : Nat) : Z2 := if j % 2 = 1 then sub2 s t else add2 s t
def arcS (k : Nat) (x : Z2) : Nat → Z2
 | 0 => x
 | j + 1 => put2 (arcS k x j) (part2 (2 * ((j + 1 : Nat) : Int) + 1) (arcT k x (j + 1))) (j + 1)
def arc2 (k : Nat) (x : Z2) : Z2 := add2 (arcS k x (k / 4)) (swing2 (arcT k x (k / 4)))
theorem put2_in {M N : Int} {a b : Z2} {j : Nat} (h : In2 M a) (h' : In2 N b) : In2 (M + N) (put2 a b j) := by
 unfold put2; split
 ·exact sub2_in h h'
 ·exact add2_in h h'
theorem sq2_one {k : Nat} {x : Z2} (h : In2 (p2 k) x) : In2 (p2 k) (sq2 k x) := (sq2_in h (Int.le_refl _)).1
theorem arcT_in {k : Nat} {x : Z2} (h : In2 (p2 k) x) : ∀ j : Nat, In2 (p2 k) (arcT k x j)
 | 0 => h
 | j + 1 => mul2_in (arcT_in h j) (sq2_one h) (Int.le_refl _)
theorem arcP_in {k : Nat} {x : Z2} (h : In2 (p2 k) x) (j : Nat) : In2 (p2 k) (part2 (2 * ((j : Nat) : Int) + 1) (arcT k x j)) := by
 refine part2_in (by omega) (arcT_in h j) ?_
 have hp := p2_pos k
 have := Int.mul_le_mul_of_nonneg_left (show 1 ≤ 2 * (j : Int) + 1 by omega) (show 0 ≤ p2 k by omega)
 omega
theorem arcS_in {k : Nat} {x : Z2} (h : In2 (p2 k) x) : ∀ j : Nat, In2 (((j : Int) + 1) * p2 k) (arcS k x j)
 | 0 => by show In2 (((0 : Nat) + 1 : Int) * p2 k) x; rw [show ((0 : Nat) + 1 : Int) * p2 k = p2 k by simp]; exact h
 | j + 1 => by
  have := put2_in (j := j + 1) (arcS_in h j) (arcP_in h (j + 1))
  rw [show (((j + 1 : Nat) : Int) + 1) * p2 k = ((j : Int) + 1) * p2 k + p2 k by rw [show (((j + 1 : Nat) : Int) + 1) = ((j : Int) + 1) + 1 by omega, Int.add_mul ((j : Int) + 1) 1]; simp]
  exact this
theorem arc2_in {k : Nat} {x : Z2} (h : In2 (p2 k) x) (hk : k ≤ 96) : In2 (26 * p2 k) (arc2 k x) := by
 have h1 := add2_in (arcS_in h (k / 4)) (swing2_in (arcT_in h (k / 4)))
 refine h1.mono ?_
 have hp := p2_pos k
 have h2 : ((k / 4 : Nat) : Int) + 1 ≤ 25 := by omega
 have := Int.mul_le_mul_of_nonneg_right h2 (show 0 ≤ p2 k by omega)
 omega

end Go.Proofs.YtfafjijoeanbhaaGreat
