/-
  Joined texts.
-/
import Derived.Test.YtfafjijoeanbhaaGreatPlainC
import Derived.Test.YtfafjijoeanbhaaGreatZedM
namespace Go.Proofs.YtfafjijoeanbhaaGreat

/-- What the j-th term is divided by: s is 1 at a sine, -1 at a cosine. -/
def waveN (s : Int) (j : Nat) : Int := 2 * (j : Int) * (2 * (j : Int) + s)
def waveT (k : Nat) (y q : Z2) (s : Int) : Nat → Z2
 | 0 => y
 | j + 1 => part2 (waveN s (j + 1)) (mul2 k (waveT k y q s j) q)
def waveS (k : Nat) (y q : Z2) (s : Int) : Nat → Z2
 | 0 => y
 | j + 1 => put2 (waveS k y q s j) (waveT k y q s (j + 1)) (j + 1)
/-- The sum of the terms and what is left out. -/
def waveA (k : Nat) (y q : Z2) (s : Int) : Z2 := add2 (waveS k y q s 40) (swing2 (waveT k y q s 40))
/-- How great a term is at most, in ones. -/
def cW (s : Int) : Nat → Int
 | 0 => 7
 | j + 1 => (49 * cW s j + waveN s (j + 1) - 1) / waveN s (j + 1)
theorem waveN_one {s : Int} (hs : s = 1 ∨ s = -1) (j : Nat) : 1 ≤ waveN s (j + 1) := by
 unfold waveN
 have h1 : 2 ≤ 2 * ((j + 1 : Nat) : Int) := by omega
 have h2 : 1 ≤ 2 * ((j + 1 : Nat) : Int) + s := by omega
 have := Int.mul_le_mul h1 h2 (by omega) (by omega)
 omega
theorem cW_all : (∀ j : Fin 41, 0 ≤ cW 1 j ∧ cW 1 j ≤ 2000) ∧ (∀ j : Fin 41, 0 ≤ cW (-1) j ∧ cW (-1) j ≤ 2000) := by decide +kernel
theorem cW_le {s : Int} (hs : s = 1 ∨ s = -1) {j : Nat} (hj : j ≤ 40) : 0 ≤ cW s j ∧ cW s j ≤ 2000 := by
 rcases hs with rfl | rfl
 ·exact cW_all.1 ⟨j, by omega⟩
 ·exact cW_all.2 ⟨j, by omega⟩
theorem In2.mono' {M N : Int} {a : Z2} (h : In2 M a) (hM : M ≤ N) : In2 N a := ⟨by have := h.1; omega, h.2.1, by have := h.2.2; omega⟩
theorem waveT_c {k : Nat} {y q : Z2} {s : Int} (hs : s = 1 ∨ s = -1) (hy : In2 (7 * p2 k) y) (hq : In2 (49 * p2 k) q) : ∀ j : Nat, j ≤ 40 → In2 (cW s j * p2 k) (waveT k y q s j)
 | 0, _ => hy
 | j + 1, hj => by
  have ih := waveT_c hs hy hq j (by omega)
  have hp := p2_pos k
  have hn := waveN_one hs j
  obtain ⟨n, hne⟩ : ∃ n, n = waveN s (j + 1) := ⟨_, rfl⟩
  obtain ⟨c, hc⟩ : ∃ c, c = cW s j := ⟨_, rfl⟩
  have h1 : In2 (49 * c * p2 k) (mul2 k (waveT k y q s j) q) := by
   refine mul2_in ih hq ?_
   rw [← hc]
   have : c * p2 k * (49 * p2 k) = 49 * c * p2 k * p2 k := by ac_rfl
   omega
  show In2 ((49 * cW s j + waveN s (j + 1) - 1) / waveN s (j + 1) * p2 k) (part2 (waveN s (j + 1)) (mul2 k (waveT k y q s j) q))
  rw [← hne, ← hc]
  rw [← hne] at hn
  refine part2_in hn h1 ?_
  have h2 : 49 * c ≤ (49 * c + n - 1) / n * n := by
   have h3 := Int.mul_ediv_add_emod (49 * c + n - 1) n
   have h4 := Int.emod_lt_of_pos (49 * c + n - 1) (show 0 < n by omega)
   rw [Int.mul_comm] at h3
   omega
  have h5 := Int.mul_le_mul_of_nonneg_right h2 (show 0 ≤ p2 k by omega)
  have h6 : (49 * c + n - 1) / n * n * p2 k = (49 * c + n - 1) / n * p2 k * n := by ac_rfl
  omega
theorem waveT_in {k : Nat} {y q : Z2} {s : Int} (hs : s = 1 ∨ s = -1) (hy : In2 (7 * p2 k) y) (hq : In2 (49 * p2 k) q) (j : Nat) (hj : j ≤ 40) : In2 (2000 * p2 k) (waveT k y q s j) := by
 have h := waveT_c hs hy hq j hj
 refine h.mono' (Int.mul_le_mul_of_nonneg_right (cW_le hs hj).2 ?_)
 have := p2_pos k; omega
theorem waveS_in {k : Nat} {y q : Z2} {s : Int} (hs : s = 1 ∨ s = -1) (hy : In2 (7 * p2 k) y) (hq : In2 (49 * p2 k) q) : ∀ j : Nat, j ≤ 40 → In2 ((2000 * ((j : Int) + 1)) * p2 k) (waveS k y q s j)
 | 0, _ => by
  have hp := p2_pos k
  refine In2.mono' (show In2 (7 * p2 k) (waveS k y q s 0) from hy) (Int.mul_le_mul_of_nonneg_right ?_ (by omega))
  decide
 | j + 1, hj => by
  have h := put2_in (j := j + 1) (waveS_in hs hy hq j (by omega)) (waveT_in hs hy hq (j + 1) hj)
  rw [show (2000 * (((j + 1 : Nat) : Int) + 1)) * p2 k = (2000 * ((j : Int) + 1)) * p2 k + 2000 * p2 k by rw [← Int.add_mul]; congr 1]
  exact h
theorem waveA_in {k : Nat} {y q : Z2} {s : Int} (hs : s = 1 ∨ s = -1) (hy : In2 (7 * p2 k) y) (hq : In2 (49 * p2 k) q) : In2 (84000 * p2 k) (waveA k y q s) := by
 have h := add2_in (waveS_in hs hy hq 40 (by omega)) (swing2_in (waveT_in hs hy hq 40 (by omega)))
 refine h.mono' ?_
 rw [← Int.add_mul]
 refine Int.mul_le_mul_of_nonneg_right (by decide) ?_
 have := p2_pos k; omega
theorem waveT_fit {k : Nat} {y q : Z2} {s : Int} (hs : s = 1 ∨ s = -1) (hy : In2 (7 * p2 k) y) (hq : In2 (49 * p2 k) q) (hk : k ≤ 96) (j : Nat) (hj : j ≤ 40) : Fit2 (waveT k y q s j) := (waveT_in hs hy hq j hj).fitU hk (by omega)
theorem waveM_fit {k : Nat} {y q : Z2} {s : Int} (hs : s = 1 ∨ s = -1) (hy : In2 (7 * p2 k) y) (hq : In2 (49 * p2 k) q) (hk : k ≤ 96) (j : Nat) (hj : j ≤ 40) : Fit2 (mul2 k (waveT k y q s j) q) := by
 have h : In2 (98000 * p2 k) (mul2 k (waveT k y q s j) q) := by
  refine mul2_in (waveT_in hs hy hq j hj) hq ?_
  have : 2000 * p2 k * (49 * p2 k) = 98000 * p2 k * p2 k := by rw [show (98000 : Int) = 2000 * 49 by decide]; ac_rfl
  omega
 exact h.fitU hk (by omega)
theorem waveS_fit {k : Nat} {y q : Z2} {s : Int} (hs : s = 1 ∨ s = -1) (hy : In2 (7 * p2 k) y) (hq : In2 (49 * p2 k) q) (hk : k ≤ 96) (j : Nat) (hj : j ≤ 40) : Fit2 (waveS k y q s j) := (waveS_in hs hy hq j hj).fitU hk (by omega)
theorem waveW_fit {k : Nat} {y q : Z2} {s : Int} (hs : s = 1 ∨ s = -1) (hy : In2 (7 * p2 k) y) (hq : In2 (49 * p2 k) q) (hk : k ≤ 96) : Fit2 (swing2 (waveT k y q s 40)) := (swing2_in (waveT_in hs hy hq 40 (by omega))).fitU hk (by omega)
theorem sq_seven {k : Nat} {x : Z2} (h : In2 (7 * p2 k) x) : In2 (49 * p2 k) (sq2 k x) := by
 refine (sq2_in h ?_).1
 have : 7 * p2 k * (7 * p2 k) = 49 * p2 k * p2 k := by rw [show (49 : Int) = 7 * 7 by decide]; ac_rfl
 omega

end Go.Proofs.YtfafjijoeanbhaaGreat
namespace Go.Proofs.YtfafjijoeanbhaaGreat
open Go.RowKit

/-- The angle's low end, as a span; the first term. -/
def wave2 (k : Nat) (x y0 : Z2) (s : Int) : Z2 := add2 (waveA k y0 (sq2 k ⟨x.lo, x.lo⟩) s) (swing2 ⟨x.hi - x.lo, x.hi - x.lo⟩)
theorem l2Sub_n (x y z : Int) (a b : Option Addr) (c d : Nat) (w : World) (h : Sl w a (mag x).length c (mag x)) (h' : Sl w b (mag y).length d (mag y)) (lx : (mag x).length ≤ 20) (ly : (mag y).length ≤ 20) (hz : z = x - y) :
  Calls Tryz.prog 143 #[.agg #[.bool (isNeg x), .slice a (mag x).length c], .agg #[.bool (isNeg y), .slice b (mag y).length d]] w (BigV w.heap.size w z) := by
 have h9 := l2Sub_any (isNeg x) (isNeg y) a b _ c _ d (mag x) (mag y) w (bigOk_of (by omega)).n40 (bigOk_of (by omega)).n40 h h'
 rw [sv_mag, sv_mag, ← hz] at h9
 exact h9
theorem waveS_succ (k : Nat) (y q : Z2) (s : Int) (j : Nat) : waveS k y q s (j + 1) = put2 (waveS k y q s j) (waveT k y q s (j + 1)) (j + 1) := rfl
theorem waveT_succ (k : Nat) (y q : Z2) (s : Int) (j : Nat) : waveT k y q s (j + 1) = part2 (waveN s (j + 1)) (mul2 k (waveT k y q s j) q) := rfl
theorem hsSin : (1 : Int) = 1 ∨ (1 : Int) = -1 := Or.inl rfl
theorem hsCos : (-1 : Int) = 1 ∨ (-1 : Int) = -1 := Or.inr rfl
theorem waveA_fit {k : Nat} {y q : Z2} {s : Int} (hs : s = 1 ∨ s = -1) (hy : In2 (7 * p2 k) y) (hq : In2 (49 * p2 k) q) (hk : k ≤ 96) : Fit2 (waveA k y q s) := (waveA_in hs hy hq).fitU hk (by omega)
theorem width_in {k : Nat} {x1 x2 : Int} (h : In2 (7 * p2 k) ⟨x1, x2⟩) : In2 (14 * p2 k) ⟨x2 - x1, x2 - x1⟩ := by
 obtain ⟨h1, h2, h3⟩ := h
 dsimp only at h1 h2 h3
 have hp := p2_pos k
 exact ⟨by show -(14 * p2 k) ≤ x2 - x1; omega, Int.le_refl _, by show x2 - x1 ≤ 14 * p2 k; omega⟩
theorem width_fit {k : Nat} {x1 x2 : Int} (h : In2 (7 * p2 k) ⟨x1, x2⟩) (hk : k ≤ 96) : Fit2 ⟨x2 - x1, x2 - x1⟩ := (width_in h).fitU hk (by omega)
theorem widthW_fit {k : Nat} {x1 x2 : Int} (h : In2 (7 * p2 k) ⟨x1, x2⟩) (hk : k ≤ 96) : Fit2 (swing2 ⟨x2 - x1, x2 - x1⟩) := (swing2_in (width_in h)).fitU hk (by omega)
theorem wave2_fit {k : Nat} {x1 x2 : Int} {y0 : Z2} {s : Int} (h : In2 (7 * p2 k) ⟨x1, x2⟩) (hs : s = 1 ∨ s = -1) (hy : In2 (7 * p2 k) y0) (hk : k ≤ 96) : Fit2 (wave2 k ⟨x1, x2⟩ y0 s) := by
 obtain ⟨h1, h2, h3⟩ := h
 dsimp only at h1 h2 h3
 have hq : In2 (49 * p2 k) (sq2 k ⟨x1, x1⟩) := sq_seven ⟨h1, Int.le_refl _, by show x1 ≤ 7 * p2 k; omega⟩
 have h9 := add2_in (waveA_in hs hy hq) (swing2_in (width_in ⟨h1, h2, h3⟩))
 rw [← Int.add_mul] at h9
 exact h9.fitU hk (by omega)
theorem waveN_le {j : Nat} (hj : j < 40) : 0 ≤ 2 * ((j : Int) + 1) * (2 * ((j : Int) + 1) + 1) ∧ 2 * ((j : Int) + 1) * (2 * ((j : Int) + 1) + 1) ≤ 7000 ∧ 0 ≤ 2 * ((j : Int) + 1) * (2 * ((j : Int) + 1) - 1) ∧ 2 * ((j : Int) + 1) * (2 * ((j : Int) + 1) - 1) ≤ 7000 := by
 have h1 := Int.mul_le_mul (show 2 * ((j : Int) + 1) ≤ 80 by omega) (show 2 * ((j : Int) + 1) + 1 ≤ 81 by omega) (by omega) (by omega)
 have h2 := Int.mul_le_mul (show 2 * ((j : Int) + 1) ≤ 80 by omega) (show 2 * ((j : Int) + 1) - 1 ≤ 79 by omega) (by omega) (by omega)
 have h3 := Int.mul_nonneg (show 0 ≤ 2 * ((j : Int) + 1) by omega) (show 0 ≤ 2 * ((j : Int) + 1) + 1 by omega)
 have h4 := Int.mul_nonneg (show 0 ≤ 2 * ((j : Int) + 1) by omega) (show 0 ≤ 2 * ((j : Int) + 1) - 1 by omega)
 omega

end Go.Proofs.YtfafjijoeanbhaaGreat
