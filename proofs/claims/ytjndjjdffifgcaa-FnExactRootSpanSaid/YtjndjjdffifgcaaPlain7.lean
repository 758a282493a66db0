/-
  Plain facts on numbers with a sign, on square roots, and on decimal texts. No program is imported here. No condition.
-/
import Derived.Test.YtjndjjdffifgcaaPlain6
namespace Go.Proofs.Ytjndjjdffifgcaa

/-- So far from 0, and below it if neg. -/
def sg (neg : Bool) (v : Int) : Int := if neg = true then -v else v
theorem sg_true (v : Int) : sg true v = -v := rfl
theorem sg_false (v : Int) : sg false v = v := rfl
/-- The number of a big. -/
def sv (neg : Bool) (xs : List Int) : Int := sg neg (val xs)
def isNeg (z : Int) : Bool := decide (z < 0)
def mag (z : Int) : List Int := digits (if z < 0 then -z else z)
theorem isNeg_yes {z : Int} (h : z < 0) : isNeg z = true := decide_eq_true h
theorem isNeg_no {z : Int} (h : 0 ≤ z) : isNeg z = false := decide_eq_false (by omega)
theorem mag_yes {z : Int} (h : z < 0) : mag z = digits (-z) := by unfold mag; rw [if_pos h]
theorem mag_no {z : Int} (h : 0 ≤ z) : mag z = digits z := by unfold mag; rw [if_neg (by omega)]
theorem mag_zero : mag 0 = [] := by rw [mag_no (by omega), digits_zero (by omega)]
theorem digits_len_pos {v : Int} (h : 0 < v) : 0 < (digits v).length := by rw [digits_pos h]; simp
theorem isNeg_sg {neg : Bool} {v : Int} (h : 0 ≤ v) : isNeg (sg neg v) = (neg && decide (0 < (digits v).length)) := by
  cases neg with
  | false => rw [sg_false, isNeg_no h]; rfl
  | true =>
    rw [sg_true]
    by_cases e : v = 0
    · subst e; rw [digits_zero (by omega)]; rfl
    · rw [isNeg_yes (by omega), decide_eq_true (digits_len_pos (by omega))]; rfl
theorem mag_sg {neg : Bool} {v : Int} (h : 0 ≤ v) : mag (sg neg v) = digits v := by
  cases neg with
  | false => rw [sg_false, mag_no h]
  | true =>
    rw [sg_true]
    by_cases e : v = 0
    · subst e; exact mag_zero
    · rw [mag_yes (by omega), Int.neg_neg]
theorem mag_canon (z : Int) : Canon (mag z) := canon_digits' _
theorem val_mag_nonneg (z : Int) : 0 ≤ val (mag z) := (canon_nonneg (mag_canon z)).1
theorem val_mag (z : Int) : val (mag z) = if z < 0 then -z else z := by
  unfold mag; exact val_digits' (by split <;> omega)
theorem sv_mag (z : Int) : sv (isNeg z) (mag z) = z := by
  unfold sv
  rw [val_mag]
  by_cases h : z < 0
  · rw [isNeg_yes h, sg_true, if_pos h, Int.neg_neg]
  · rw [isNeg_no (by omega), sg_false, if_neg h]
theorem val_zero_nil {xs : List Int} (h : Canon xs) (hz : val xs = 0) : xs = [] := by
  by_cases e : xs = []
  · exact e
  · have := (canon_nonneg h).2 e; omega

/-- The code that BigFault tells. -/
def bigFault (neg : Bool) (xs : List Int) : Int := if natFault xs = 0 then (if neg = true ∧ xs.length = 0 then 1 else 0) else natFault xs
theorem bigFault_nat {neg : Bool} {xs : List Int} (h : natFault xs ≠ 0) : bigFault neg xs = natFault xs := if_neg h
theorem bigFault_form {xs : List Int} (h : natFault xs = 0) (hl : xs.length = 0) : bigFault true xs = 1 := by unfold bigFault; rw [if_pos h, if_pos ⟨rfl, hl⟩]
theorem bigFault_ok {neg : Bool} {xs : List Int} (h : natFault xs = 0) (hl : neg = true → xs.length ≠ 0) : bigFault neg xs = 0 := by
  unfold bigFault; rw [if_pos h, if_neg (fun hn => hl hn.1 hn.2)]
/-- A big without a fault. -/
structure BigOk (neg : Bool) (xs : List Int) : Prop where
  nat : natFault xs = 0
  sign : neg = true → xs.length ≠ 0
theorem bigFault_zero {neg : Bool} {xs : List Int} (h : bigFault neg xs = 0) : BigOk neg xs := by
  unfold bigFault at h
  by_cases h1 : natFault xs = 0
  · rw [if_pos h1] at h
    by_cases h2 : neg = true ∧ xs.length = 0
    · rw [if_pos h2] at h; omega
    · exact ⟨h1, fun hn hl => h2 ⟨hn, hl⟩⟩
  · rw [if_neg h1] at h; exact absurd h h1
theorem BigOk.fault {neg : Bool} {xs : List Int} (h : BigOk neg xs) : bigFault neg xs = 0 := bigFault_ok h.nat h.sign
theorem BigOk.n40 {neg : Bool} {xs : List Int} (h : BigOk neg xs) : Nat40 xs := natFault_zero h.nat
theorem BigOk.isNeg {neg : Bool} {xs : List Int} (h : BigOk neg xs) : isNeg (sv neg xs) = neg := by
  have hc := h.n40.canon
  have h0 := (canon_nonneg hc).1
  unfold sv
  rw [isNeg_sg h0, digits_val hc]
  cases neg with
  | false => rfl
  | true => have := h.sign rfl; rw [decide_eq_true (by omega)]; rfl
theorem BigOk.mag {neg : Bool} {xs : List Int} (h : BigOk neg xs) : mag (sv neg xs) = xs := by
  have hc := h.n40.canon
  unfold sv
  rw [mag_sg (canon_nonneg hc).1, digits_val hc]
theorem nat40_fault {xs : List Int} (h : Nat40 xs) : natFault xs = 0 := natFault_ok (by have := h.len; omega) h.limb h.top
theorem bigOk_of {z : Int} (h : (mag z).length ≤ 40) : BigOk (isNeg z) (mag z) := by
  refine ⟨nat40_fault (nat40_of_canon (mag_canon z) h), fun hn hl => ?_⟩
  have hz : z < 0 := of_decide_eq_true hn
  rw [mag_yes hz] at hl
  have := digits_len_pos (v := -z) (by omega)
  omega
/-- Two bigs: the first fault that is told. -/
def bigFault2 (na : Bool) (xs : List Int) (nb : Bool) (ys : List Int) : Int := if bigFault na xs = 0 then bigFault nb ys else bigFault na xs
theorem bigFault2_zero {na nb : Bool} {xs ys : List Int} (h : bigFault2 na xs nb ys = 0) : BigOk na xs ∧ BigOk nb ys := by
  unfold bigFault2 at h
  by_cases h1 : bigFault na xs = 0
  · rw [if_pos h1] at h; exact ⟨bigFault_zero h1, bigFault_zero h⟩
  · rw [if_neg h1] at h; exact absurd h h1

/-- An answer: a code, a sign and limbs. -/
structure BV where
  code : Int
  neg : Bool
  limbs : List Int
def noBig (code : Int) : BV := ⟨code, false, []⟩
/-- The number, if it has at most 40 limbs. -/
def fitB (z : Int) : BV := if 40 < (mag z).length then noBig 7 else ⟨0, isNeg z, mag z⟩
theorem fitB_len (z : Int) : (fitB z).limbs.length ≤ 40 := by
  unfold fitB
  by_cases h : 40 < (mag z).length
  · rw [if_pos h]; exact Nat.zero_le _
  · rw [if_neg h]; show (mag z).length ≤ 40; omega
def twoB (f : Int) (r : BV) : BV := if f = 0 then r else noBig f
theorem twoB_zero {f : Int} {r : BV} (h : f = 0) : twoB f r = r := if_pos h
theorem twoB_not {f : Int} {r : BV} (h : f ≠ 0) : twoB f r = noBig f := if_neg h
theorem twoB_len {f : Int} {r : BV} (h : r.limbs.length ≤ 40) : (twoB f r).limbs.length ≤ 40 := by
  unfold twoB; split
  · exact h
  · exact Nat.zero_le _
def addB (na : Bool) (xs : List Int) (nb : Bool) (ys : List Int) : BV := twoB (bigFault2 na xs nb ys) (fitB (sv na xs + sv nb ys))
def subB (na : Bool) (xs : List Int) (nb : Bool) (ys : List Int) : BV := twoB (bigFault2 na xs nb ys) (fitB (sv na xs - sv nb ys))
def mulB (na : Bool) (xs : List Int) (nb : Bool) (ys : List Int) : BV := twoB (bigFault2 na xs nb ys) (fitB (sv na xs * sv nb ys))
/-- A quotient, rounded down or up, by the signs and the sizes. -/
def divZ (up na nb : Bool) (X Y : Int) : Int := sg (na != nb) (if X % Y ≠ 0 ∧ (na != nb) ≠ up then X / Y + 1 else X / Y)
def divB (up na : Bool) (xs : List Int) (nb : Bool) (ys : List Int) : BV :=
  twoB (bigFault2 na xs nb ys) (if ys.length = 0 then noBig 6 else fitB (divZ up na nb (val xs) (val ys)))
theorem divB_len (up na : Bool) (xs : List Int) (nb : Bool) (ys : List Int) : (divB up na xs nb ys).limbs.length ≤ 40 := by
  refine twoB_len ?_
  split
  · exact Nat.zero_le _
  · exact fitB_len _
def cmpB (na : Bool) (xs : List Int) (nb : Bool) (ys : List Int) : Int := if bigFault2 na xs nb ys = 0 then cmpV (sv na xs) (sv nb ys) else 0

theorem sg_mul (na nb : Bool) (x y : Int) : sg na x * sg nb y = sg (na != nb) (x * y) := by
  cases na <;> cases nb <;> simp [sg, Int.neg_mul, Int.mul_neg]

/-- The greatest number whose square is not above v, up to f. -/
def isqF : Nat → Int → Int
  | 0, _ => 0
  | f + 1, v => if ((f : Int) + 1) * ((f : Int) + 1) ≤ v then (f : Int) + 1 else isqF f v
def isq (v : Int) : Int := isqF v.toNat v
structure IsRoot (v r : Int) : Prop where
  pos : 0 ≤ r
  low : r * r ≤ v
  high : v < (r + 1) * (r + 1)
theorem isqF_root : ∀ (f : Nat) (v : Int), 0 ≤ v → v < ((f : Int) + 1) * ((f : Int) + 1) → IsRoot v (isqF f v)
  | 0, v, h, hf => ⟨by simp [isqF], by simp [isqF]; exact h, by simp at hf; simp [isqF]; exact hf⟩
  | f + 1, v, h, hf => by
    simp only [isqF]
    by_cases hc : ((f : Int) + 1) * ((f : Int) + 1) ≤ v
    · rw [if_pos hc]; exact ⟨by omega, hc, by simpa using hf⟩
    · rw [if_neg hc]; exact isqF_root f v h (by omega)
theorem sq_ge (v : Int) (h : 0 ≤ v) : v < (v + 1) * (v + 1) := by
  have h1 : (v + 1) * 1 ≤ (v + 1) * (v + 1) := Int.mul_le_mul_of_nonneg_left (by omega) (by omega)
  omega
theorem isq_root {v : Int} (h : 0 ≤ v) : IsRoot v (isq v) := by
  refine isqF_root _ _ h ?_
  rw [Int.toNat_of_nonneg h]; exact sq_ge v h
theorem sq_mono {a b : Int} (ha : 0 ≤ a) (h : a ≤ b) : a * a ≤ b * b := Int.mul_le_mul h h ha (by omega)
theorem root_lt {v r x : Int} (h : IsRoot v r) (hx : 0 ≤ x) (hv : v < x * x) : r < x := by
  have hp := h.pos
  have hl := h.low
  rcases Int.lt_or_le r x with h1 | h1
  · exact h1
  · have := sq_mono hx h1; omega
theorem root_ge {v r x : Int} (h : IsRoot v r) (hv : x * x ≤ v) : x ≤ r := by
  have hp := h.pos
  have hh := h.high
  rcases Int.lt_or_le r x with h1 | h1
  · have := sq_mono (a := r + 1) (b := x) (by omega) (by omega); omega
  · exact h1
theorem root_unique {v r s : Int} (h : IsRoot v r) (k : IsRoot v s) : r = s := by
  have h1 := root_ge h k.low
  have h2 := root_ge k h.low
  omega
/-- A step of Newton's is never below the root. -/
theorem newton_ge {v r x : Int} (h : IsRoot v r) (hx : 0 < x) : r ≤ (x + v / x) / 2 := by
  have h1 : 2 * r - x ≤ v / x := by
    rw [Int.le_ediv_iff_mul_le hx]
    have e1 : (2 * r - x) * x = 2 * (r * x) - x * x := by rw [Int.sub_mul, Int.mul_assoc]
    have e2 : (r - x) * (r - x) = r * r - 2 * (r * x) + x * x := by
      rw [Int.sub_mul, Int.mul_sub, Int.mul_sub, Int.mul_comm x r]; omega
    have e3 : 0 ≤ (r - x) * (r - x) := by
      rcases Int.lt_or_le r x with h2 | h2
      · exact Int.mul_nonneg_of_nonpos_of_nonpos (by omega) (by omega)
      · exact Int.mul_nonneg (by omega) (by omega)
    have := h.low
    omega
  omega
/-- Where a step falls no more, the root is there. -/
theorem newton_stop {v r x : Int} (h : IsRoot v r) (hx : 0 < x) (hr : r ≤ x) (hs : x ≤ (x + v / x) / 2) : x = r := by
  have h1 : x ≤ v / x := by omega
  rw [Int.le_ediv_iff_mul_le hx] at h1
  have := root_ge h h1
  omega
theorem root_pos {v r : Int} (h : IsRoot v r) (hv : 0 < v) : 0 < r := by
  have h1 := h.pos
  have h2 := h.high
  rcases (by omega : r = 0 ∨ 0 < r) with e | e
  · subst e; simp at h2; omega
  · exact e

theorem p2_pos : ∀ k, 1 ≤ p2 k
  | 0 => by simp [p2]
  | k + 1 => by have := p2_pos k; simp only [p2]; omega
theorem p2_add : ∀ (i j : Nat), p2 (i + j) = p2 i * p2 j
  | 0, j => by simp [p2]
  | i + 1, j => by rw [show i + 1 + j = (i + j) + 1 by omega]; simp only [p2]; rw [p2_add i j, Int.mul_assoc]
theorem p2_mono : ∀ (i j : Nat), i ≤ j → p2 i ≤ p2 j
  | 0, j, _ => by have := p2_pos j; simp only [p2]; omega
  | i + 1, 0, h => by omega
  | i + 1, j + 1, h => by have := p2_mono i j (by omega); simp only [p2]; omega
theorem pw_add : ∀ (i j : Nat), pw (i + j) = pw i * pw j
  | 0, j => by simp [pw]
  | i + 1, j => by rw [show i + 1 + j = (i + j) + 1 by omega]; simp only [pw]; rw [pw_add i j, Int.mul_assoc]

/-- So many limbs hold at most so great a number. -/
theorem digits_lt {v : Int} (h : 0 ≤ v) : v < pw (digits v).length := by
  have := (canon_limbs (canon_digits' v)).val.2
  rwa [val_digits' h] at this
theorem digits_len_mono {u v : Int} (h : u ≤ v) : (digits u).length ≤ (digits v).length := by
  by_cases hu : 0 ≤ u
  · refine digits_len _ _ ?_
    have := digits_lt (v := v) (by omega)
    omega
  · rw [digits_zero (by omega)]; exact Nat.zero_le _

/-- The number that decimal digits are, behind another one. -/
def num : Int → List Int → Int
  | a, [] => a
  | a, d :: ds => num (a * 10 + (d - 48)) ds
theorem num_append : ∀ (xs ys : List Int) (a : Int), num a (xs ++ ys) = num (num a xs) ys
  | [], _, _ => rfl
  | x :: xs, ys, a => by simp only [List.cons_append, num]; exact num_append xs ys _
theorem num_dec : ∀ (f : Nat) (n : Int), n.toNat ≤ f → 0 ≤ n → num 0 (dec n).reverse = n
  | 0, n, hf, h => by rw [dec_zero (by omega)]; simp [num]; omega
  | f + 1, n, hf, h => by
    by_cases hn : 0 < n
    · rw [dec_pos hn, List.reverse_cons, num_append, num_dec f (n / 10) (by omega) (by omega)]
      simp only [num]; omega
    · rw [dec_zero (by omega)]; simp [num]; omega
theorem num_decText {n : Int} (h : 0 ≤ n) : num 0 (decText n) = n := by
  unfold decText
  split
  · simp [num]; omega
  · exact num_dec _ n (Nat.le_refl _) h
/-- Each byte is a decimal digit. -/
def Decs (ds : List Int) : Prop := ∀ d, d ∈ ds → 48 ≤ d ∧ d ≤ 57
theorem num_ge : ∀ (ds : List Int) (a : Int), Decs ds → 0 ≤ a → a ≤ num a ds
  | [], _, _, _ => Int.le_refl _
  | d :: ds, a, h, ha => by
    have h1 := h d (by simp)
    have := num_ge ds (a * 10 + (d - 48)) (fun x hx => h x (by simp [hx])) (by omega)
    simp only [num]; omega
theorem dec_decs : ∀ (f : Nat) (n : Int), n.toNat ≤ f → Decs (dec n)
  | 0, n, hf => by rw [dec_zero (by omega)]; intro d hd; simp at hd
  | f + 1, n, hf => by
    by_cases hn : 0 < n
    · rw [dec_pos hn]
      intro d hd
      rcases List.mem_cons.1 hd with e | e
      · subst e; omega
      · exact dec_decs f (n / 10) (by omega) d e
    · rw [dec_zero (by omega)]; intro d hd; simp at hd
theorem decText_decs (n : Int) : Decs (decText n) := by
  unfold decText
  split
  · intro d hd; simp at hd; omega
  · intro d hd; exact dec_decs _ n (Nat.le_refl _) d (by simpa using hd)
theorem num_take_le {ds : List Int} (h : Decs ds) (k : Nat) : 0 ≤ num 0 (ds.take k) ∧ num 0 (ds.take k) ≤ num 0 ds := by
  have h1 : Decs (ds.take k) := fun d hd => h d (List.mem_of_mem_take hd)
  have h2 := num_ge _ 0 h1 (by omega)
  have h3 := num_ge (ds.drop k) (num 0 (ds.take k)) (fun d hd => h d (List.mem_of_mem_drop hd)) h2
  rw [← num_append, List.take_append_drop] at h3
  exact ⟨h2, h3⟩
theorem num_take_succ {ds : List Int} (k : Nat) (hk : k < ds.length) : num 0 (ds.take (k + 1)) = num 0 (ds.take k) * 10 + (ds.getD k 0 - 48) := by
  rw [List.take_succ_eq_append_getElem hk, num_append]
  simp only [num, List.getD_eq_getElem?_getD, List.getElem?_eq_getElem hk, Option.getD_some]
/-- A text of digits with no 0 ahead, but 0 itself. -/
def TextOk (ds : List Int) : Prop := ds.length ≠ 0 ∧ Decs ds ∧ (ds.getD 0 0 = 48 → ds.length = 1)
theorem num_lead : ∀ (ds : List Int) (a : Int), Decs ds → 0 < a → (dec (num a ds)) = ds.reverse ++ dec a
  | [], a, _, _ => by simp [num]
  | d :: ds, a, h, ha => by
    have h1 := h d (by simp)
    simp only [num]
    rw [num_lead ds _ (fun x hx => h x (by simp [hx])) (by omega), dec_pos (by omega), List.reverse_cons,
      show (a * 10 + (d - 48)) / 10 = a by omega, show 48 + (a * 10 + (d - 48)) % 10 = d by omega]
    simp
theorem text_back {ds : List Int} (h : TextOk ds) : decText (num 0 ds) = ds := by
  obtain ⟨h1, h2, h3⟩ := h
  cases ds with
  | nil => simp at h1
  | cons d ds =>
    have hd := h2 d (by simp)
    by_cases e : d = 48
    · have := h3 (by simp [e])
      have hn : ds = [] := List.eq_nil_of_length_eq_zero (by simpa using this)
      subst hn e
      simp [num, decText]
    · have hg := num_ge ds (0 * 10 + (d - 48)) (fun x hx => h2 x (by simp [hx])) (by omega)
      simp only [num] at hg ⊢
      unfold decText
      rw [if_neg (by omega), num_lead ds _ (fun x hx => h2 x (by simp [hx])) (by omega), dec_pos (by omega), dec_zero (by omega)]
      simp; omega

end Go.Proofs.Ytjndjjdffifgcaa
