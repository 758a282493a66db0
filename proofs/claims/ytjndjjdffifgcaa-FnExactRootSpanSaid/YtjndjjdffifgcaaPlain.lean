/-
  Plain facts on lists of numbers: what the functions of chapter 1 compute, said of lists. No program is imported here. No condition.
-/
import Derived.Below
namespace Go.Proofs.Ytjndjjdffifgcaa

/-- Each of the first k numbers is a limb. -/
def LimbsTo (xs : List Int) (k : Nat) : Prop := ∀ i, i < k → 0 ≤ xs.getD i 0 ∧ xs.getD i 0 ≤ 65535
instance (xs : List Int) (k : Nat) : Decidable (LimbsTo xs k) := inferInstanceAs (Decidable (∀ i, i < k → _))

/-- The code that NatFault tells. -/
def natFault (xs : List Int) : Int :=
  if 40 < xs.length then 2 else if ¬ LimbsTo xs xs.length then 3 else if 0 < xs.length ∧ xs.getD (xs.length - 1) 0 = 0 then 1 else 0

theorem natFault_many {xs : List Int} (h : 40 < xs.length) : natFault xs = 2 := by unfold natFault; rw [if_pos h]
theorem natFault_range {xs : List Int} (h : ¬ 40 < xs.length) (k : Nat) (hk : k < xs.length) (hb : ¬ (0 ≤ xs.getD k 0 ∧ xs.getD k 0 ≤ 65535)) : natFault xs = 3 := by
  unfold natFault; rw [if_neg h, if_pos (fun hl => hb (hl k hk))]
theorem natFault_form {xs : List Int} (h : ¬ 40 < xs.length) (hl : LimbsTo xs xs.length) (hp : 0 < xs.length) (hz : xs.getD (xs.length - 1) 0 = 0) : natFault xs = 1 := by
  unfold natFault; rw [if_neg h, if_neg (fun hn => hn hl), if_pos ⟨hp, hz⟩]
theorem natFault_ok {xs : List Int} (h : ¬ 40 < xs.length) (hl : LimbsTo xs xs.length) (hz : 0 < xs.length → xs.getD (xs.length - 1) 0 ≠ 0) : natFault xs = 0 := by
  unfold natFault; rw [if_neg h, if_neg (fun hn => hn hl), if_neg (fun hn => hz hn.1 hn.2)]

/-- A list of numbers that is a natural: at most 40 limbs, none but 0 to 65535, no 0 at the top. -/
structure Nat40 (xs : List Int) : Prop where
  len : xs.length ≤ 40
  limb : LimbsTo xs xs.length
  top : 0 < xs.length → xs.getD (xs.length - 1) 0 ≠ 0

theorem natFault_zero {xs : List Int} (h : natFault xs = 0) : Nat40 xs := by
  unfold natFault at h
  by_cases h1 : 40 < xs.length
  · rw [if_pos h1] at h; omega
  rw [if_neg h1] at h
  by_cases h2 : LimbsTo xs xs.length
  · rw [if_neg (fun hn => hn h2)] at h
    by_cases h3 : 0 < xs.length ∧ xs.getD (xs.length - 1) 0 = 0
    · rw [if_pos h3] at h; omega
    · exact ⟨by omega, h2, fun hp hz => h3 ⟨hp, hz⟩⟩
  · rw [if_pos h2] at h; omega
theorem natFault_cases (xs : List Int) : natFault xs = 0 ∨ natFault xs = 1 ∨ natFault xs = 2 ∨ natFault xs = 3 := by
  unfold natFault
  by_cases h1 : 40 < xs.length
  · rw [if_pos h1]; omega
  rw [if_neg h1]
  by_cases h2 : LimbsTo xs xs.length
  · rw [if_neg (fun hn => hn h2)]
    by_cases h3 : 0 < xs.length ∧ xs.getD (xs.length - 1) 0 = 0
    · rw [if_pos h3]; omega
    · rw [if_neg h3]; omega
  · rw [if_pos h2]; omega

/-- Two lists: the first fault that is told. -/
def fault2 (xs ys : List Int) : Int := if natFault xs = 0 then natFault ys else natFault xs
theorem fault2_first {xs ys : List Int} (h : natFault xs ≠ 0) : fault2 xs ys = natFault xs := if_neg h
theorem fault2_second {xs ys : List Int} (h : natFault xs = 0) : fault2 xs ys = natFault ys := if_pos h
theorem fault2_zero {xs ys : List Int} (h : fault2 xs ys = 0) : natFault xs = 0 ∧ natFault ys = 0 := by
  by_cases h1 : natFault xs = 0
  · rw [fault2_second h1] at h; exact ⟨h1, h⟩
  · rw [fault2_first h1] at h; exact absurd h h1

/-- The number of n limbs that a function gives, the lowest first. -/
def vf (f : Nat → Int) : Nat → Int
  | 0 => 0
  | n + 1 => f 0 + 65536 * vf (fun i => f (i + 1)) n

theorem vf_congr : ∀ (n : Nat) (f g : Nat → Int), (∀ i, i < n → f i = g i) → vf f n = vf g n
  | 0, _, _, _ => rfl
  | n + 1, f, g, h => by
    have := vf_congr n (fun i => f (i + 1)) (fun i => g (i + 1)) (fun i hi => h (i + 1) (by omega))
    simp only [vf, h 0 (by omega), this]

/-- The number whose limbs a list holds, the lowest first. -/
def val : List Int → Int
  | [] => 0
  | x :: xs => x + 65536 * val xs

theorem vf_val : ∀ (xs : List Int) (n : Nat), xs.length ≤ n → vf (fun i => xs.getD i 0) n = val xs
  | [], n, _ => by
    have : ∀ n, vf (fun i => ([] : List Int).getD i 0) n = 0 := by
      intro n
      induction n with
      | zero => rfl
      | succ n ih => simp only [vf] at *; simp at ih ⊢; omega
    rw [this, val]
  | x :: xs, 0, h => by simp at h
  | x :: xs, n + 1, h => by
    have := vf_val xs n (by simpa using h)
    simp only [vf, val]
    simp at this ⊢
    omega

theorem vf_nonneg : ∀ (n : Nat) (f : Nat → Int), (∀ i, i < n → 0 ≤ f i) → 0 ≤ vf f n
  | 0, _, _ => by simp [vf]
  | n + 1, f, h => by
    have := vf_nonneg n (fun i => f (i + 1)) (fun i hi => h (i + 1) (by omega))
    have := h 0 (by omega)
    simp only [vf]; omega

/-- What is less at the highest place where two numbers differ is less. -/
theorem vf_lt : ∀ (n : Nat) (f g : Nat → Int) (i : Nat), i < n → (∀ j, i < j → j < n → f j = g j) → f i < g i →
    (∀ j, j < n → 0 ≤ f j ∧ f j ≤ 65535) → (∀ j, j < n → 0 ≤ g j ∧ g j ≤ 65535) → vf f n < vf g n
  | 0, _, _, _, hi, _, _, _, _ => by omega
  | n + 1, f, g, 0, _, he, hl, _, _ => by
    have := vf_congr n (fun i => f (i + 1)) (fun i => g (i + 1)) (fun i hi => he (i + 1) (by omega) (by omega))
    simp only [vf, this]; omega
  | n + 1, f, g, i + 1, hi, he, hl, hf, hg => by
    have := vf_lt n (fun i => f (i + 1)) (fun i => g (i + 1)) i (by omega) (fun j h1 h2 => he (j + 1) (by omega) (by omega)) hl (fun j hj => hf (j + 1) (by omega)) (fun j hj => hg (j + 1) (by omega))
    have h1 := hf 0 (by omega)
    have h2 := hg 0 (by omega)
    simp only [vf]; omega

theorem limb_getD {xs : List Int} (h : LimbsTo xs xs.length) (i : Nat) : 0 ≤ xs.getD i 0 ∧ xs.getD i 0 ≤ 65535 := by
  by_cases hi : i < xs.length
  · exact h i hi
  · rw [List.getD_eq_getElem?_getD, List.getElem?_eq_none (by omega)]; simp

theorem val_lt_at {xs ys : List Int} (hx : LimbsTo xs xs.length) (hy : LimbsTo ys ys.length) (n i : Nat) (hi : i < n) (h1 : xs.length ≤ n) (h2 : ys.length ≤ n)
    (he : ∀ j, i < j → j < n → xs.getD j 0 = ys.getD j 0) (hl : xs.getD i 0 < ys.getD i 0) : val xs < val ys := by
  rw [← vf_val xs n h1, ← vf_val ys n h2]
  exact vf_lt n _ _ i hi he hl (fun j _ => limb_getD hx j) (fun j _ => limb_getD hy j)
theorem val_eq_at {xs ys : List Int} (n : Nat) (h1 : xs.length ≤ n) (h2 : ys.length ≤ n)
    (he : ∀ j, j < n → xs.getD j 0 = ys.getD j 0) : val xs = val ys := by
  rw [← vf_val xs n h1, ← vf_val ys n h2]
  exact vf_congr n _ _ he

/-- Which of two numbers is the less. -/
def cmpV (x y : Int) : Int := if x < y then -1 else if y < x then 1 else 0
theorem cmpV_lt {x y : Int} (h : x < y) : cmpV x y = -1 := if_pos h
theorem cmpV_gt {x y : Int} (h : y < x) : cmpV x y = 1 := by unfold cmpV; rw [if_neg (by omega), if_pos h]
theorem cmpV_eq {x y : Int} (h : x = y) : cmpV x y = 0 := by unfold cmpV; rw [if_neg (by omega), if_neg (by omega)]

theorem val_lt_len {xs ys : List Int} (hx : Nat40 xs) (hy : Nat40 ys) (h : xs.length < ys.length) : val xs < val ys := by
  refine val_lt_at hx.limb hy.limb ys.length (ys.length - 1) (by omega) (by omega) (Nat.le_refl _) (fun j h1 h2 => by omega) ?_
  have h1 := hy.top (by omega)
  have h2 := limb_getD hy.limb (ys.length - 1)
  have h3 : xs.getD (ys.length - 1) 0 = 0 := by rw [List.getD_eq_getElem?_getD, List.getElem?_eq_none (by omega)]; rfl
  omega

/-- The limb at a place, 0 where there is none. -/
def atP (xs : List Int) (p : Int) : Int := if p < 0 then 0 else xs.getD p.toNat 0
theorem atP_nat (xs : List Int) (k : Nat) : atP xs k = xs.getD k 0 := by
  unfold atP; rw [if_neg (by omega)]; simp

/-- The limbs of a number, the lowest first; so many at most. -/
def digitsF : Nat → Int → List Int
  | 0, _ => []
  | f + 1, n => if n ≤ 0 then [] else (n % 65536) :: digitsF f (n / 65536)
def digits (n : Int) : List Int := digitsF n.toNat n

theorem digitsF_zero (f : Nat) (n : Int) (h : n ≤ 0) : digitsF f n = [] := by
  cases f with
  | zero => rfl
  | succ f => simp only [digitsF]; rw [if_pos h]
theorem digitsF_fuel : ∀ (f g : Nat) (n : Int), n.toNat ≤ f → n.toNat ≤ g → digitsF f n = digitsF g n
  | 0, g, n, hf, _ => by rw [digitsF_zero g n (by omega)]; rfl
  | f + 1, 0, n, _, hg => by rw [digitsF_zero (f + 1) n (by omega)]; rfl
  | f + 1, g + 1, n, hf, hg => by
    simp only [digitsF]
    by_cases h : n ≤ 0
    · rw [if_pos h, if_pos h]
    · rw [if_neg h, if_neg h, digitsF_fuel f g (n / 65536) (by omega) (by omega)]
theorem digits_zero {n : Int} (h : n ≤ 0) : digits n = [] := digitsF_zero _ n h
theorem digits_pos {n : Int} (h : 0 < n) : digits n = (n % 65536) :: digits (n / 65536) := by
  unfold digits
  obtain ⟨f, hf⟩ : ∃ f, n.toNat = f + 1 := ⟨n.toNat - 1, by omega⟩
  rw [hf]
  simp only [digitsF]
  rw [if_neg (by omega), digitsF_fuel f (n / 65536).toNat (n / 65536) (by omega) (by omega)]

/-- So many places: 65536 to the power of k. -/
def pw : Nat → Int
  | 0 => 1
  | k + 1 => 65536 * pw k
theorem pw_pos : ∀ k, 1 ≤ pw k
  | 0 => by simp [pw]
  | k + 1 => by have := pw_pos k; simp only [pw]; omega
theorem pw_mono : ∀ (i j : Nat), i ≤ j → pw i ≤ pw j
  | 0, j, _ => by have := pw_pos j; simp only [pw]; omega
  | i + 1, 0, h => by omega
  | i + 1, j + 1, h => by have := pw_mono i j (by omega); simp only [pw]; omega

theorem digits_len : ∀ (k : Nat) (n : Int), n < pw k → (digits n).length ≤ k
  | 0, n, h => by simp only [pw] at h; rw [digits_zero (by omega)]; simp
  | k + 1, n, h => by
    by_cases hn : 0 < n
    · rw [digits_pos hn]
      simp only [pw] at h
      have := digits_len k (n / 65536) (by omega)
      simp only [List.length_cons]; omega
    · rw [digits_zero (by omega)]; simp

/-- A list of limbs, each 0 to 65535, with no 0 at the top. -/
def Canon : List Int → Prop
  | [] => True
  | x :: xs => 0 ≤ x ∧ x ≤ 65535 ∧ Canon xs ∧ (xs = [] → x ≠ 0)

theorem canon_nonneg : ∀ {xs : List Int}, Canon xs → 0 ≤ val xs ∧ (xs ≠ [] → 0 < val xs)
  | [], _ => by simp [val]
  | x :: xs, h => by
    obtain ⟨h1, h2, h3, h4⟩ := h
    obtain ⟨i1, i2⟩ := canon_nonneg h3
    simp only [val]
    refine ⟨by omega, fun _ => ?_⟩
    by_cases e : xs = []
    · have := h4 e; subst e; simp only [val] at *; omega
    · have := i2 e; omega
theorem digits_val : ∀ {xs : List Int}, Canon xs → digits (val xs) = xs
  | [], _ => digits_zero (by simp [val])
  | x :: xs, h => by
    have h0 := (canon_nonneg h).2 (by simp)
    obtain ⟨h1, h2, h3, h4⟩ := h
    have ih := digits_val h3
    have i1 := (canon_nonneg h3).1
    rw [digits_pos h0]
    simp only [val]
    rw [show (x + 65536 * val xs) % 65536 = x by omega, show (x + 65536 * val xs) / 65536 = val xs by omega, ih]
theorem val_digits : ∀ (f : Nat) (n : Int), n.toNat ≤ f → 0 ≤ n → val (digits n) = n
  | 0, n, hf, h => by rw [digits_zero (by omega)]; simp [val]; omega
  | f + 1, n, hf, h => by
    by_cases hn : 0 < n
    · rw [digits_pos hn]
      simp only [val]
      rw [val_digits f (n / 65536) (by omega) (by omega)]; omega
    · rw [digits_zero (by omega)]; simp [val]; omega
theorem val_digits' {n : Int} (h : 0 ≤ n) : val (digits n) = n := val_digits n.toNat n (Nat.le_refl _) h
theorem canon_digits : ∀ (f : Nat) (n : Int), n.toNat ≤ f → Canon (digits n)
  | 0, n, hf => by rw [digits_zero (by omega)]; trivial
  | f + 1, n, hf => by
    by_cases hn : 0 < n
    · rw [digits_pos hn]
      refine ⟨by omega, by omega, canon_digits f (n / 65536) (by omega), fun e => ?_⟩
      by_cases h2 : 0 < n / 65536
      · rw [digits_pos h2] at e; cases e
      · omega
    · rw [digits_zero (by omega)]; trivial
theorem canon_digits' (n : Int) : Canon (digits n) := canon_digits n.toNat n (Nat.le_refl _)

theorem canon_of_get : ∀ (xs : List Int), (∀ i, i < xs.length → 0 ≤ xs.getD i 0 ∧ xs.getD i 0 ≤ 65535) → (0 < xs.length → xs.getD (xs.length - 1) 0 ≠ 0) → Canon xs
  | [], _, _ => trivial
  | x :: xs, h, ht => by
    have h0 := h 0 (by simp)
    refine ⟨by simpa using h0.1, by simpa using h0.2, canon_of_get xs (fun i hi => by have := h (i + 1) (by simpa using hi); simpa using this) (fun hp => ?_), fun e => ?_⟩
    · have := ht (by simp)
      obtain ⟨k, hk⟩ : ∃ k, xs.length = k + 1 := ⟨xs.length - 1, by omega⟩
      simp only [List.length_cons, hk] at this ⊢
      simpa using this
    · subst e; simpa using ht (by simp)
theorem Nat40.canon {xs : List Int} (h : Nat40 xs) : Canon xs := canon_of_get xs h.limb h.top
theorem canon_get : ∀ {xs : List Int}, Canon xs → LimbsTo xs xs.length ∧ (0 < xs.length → xs.getD (xs.length - 1) 0 ≠ 0)
  | [], _ => ⟨fun i hi => by simp at hi, fun h => by simp at h⟩
  | x :: xs, h => by
    obtain ⟨h1, h2, h3, h4⟩ := h
    obtain ⟨i1, i2⟩ := canon_get h3
    refine ⟨fun i hi => ?_, fun _ => ?_⟩
    · cases i with
      | zero => simpa using ⟨h1, h2⟩
      | succ i => simpa using i1 i (by simpa using hi)
    · cases xs with
      | nil => simpa using h4 rfl
      | cons y ys => simpa using i2 (by simp)
theorem nat40_of_canon {xs : List Int} (h : Canon xs) (hl : xs.length ≤ 40) : Nat40 xs := ⟨hl, (canon_get h).1, (canon_get h).2⟩

/-- The numbers from k on, so many. -/
def cnt (k : Int) (n : Nat) : List Int := (List.range n).map (fun (i : Nat) => k + (i : Int))
theorem cnt_length (k : Int) (n : Nat) : (cnt k n).length = n := by simp [cnt]
theorem cnt_getD (k : Int) (n i : Nat) (h : i < n) : (cnt k n).getD i 0 = k + i := by
  simp [cnt, List.getD_eq_getElem?_getD, h]

end Go.Proofs.Ytjndjjdffifgcaa
