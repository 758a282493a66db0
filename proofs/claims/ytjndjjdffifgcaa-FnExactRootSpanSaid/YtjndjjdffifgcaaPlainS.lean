/-
  Plain facts on spans: what SpanFault tells, and what comes of spans, as numbers. No program is imported here. No condition.
-/
import Derived.Test.YtjndjjdffifgcaaPlain7
namespace Go.Proofs.Ytjndjjdffifgcaa

/-- What SpanFault tells of a span whose ends are these signs and limbs. -/
def spanFault (p : Bool) (xs : List Int) (q : Bool) (ys : List Int) : Int :=
  if bigFault2 p xs q ys = 0 then (if 20 < xs.length ∨ 20 < ys.length then 2 else if sv q ys < sv p xs then 1 else 0) else bigFault2 p xs q ys

structure SpanOk (p : Bool) (xs : List Int) (q : Bool) (ys : List Int) : Prop where
  lo : BigOk p xs
  hi : BigOk q ys
  lx : xs.length ≤ 20
  ly : ys.length ≤ 20
  le : sv p xs ≤ sv q ys

theorem spanFault_big {p q : Bool} {xs ys : List Int} (h : bigFault2 p xs q ys ≠ 0) : spanFault p xs q ys = bigFault2 p xs q ys := if_neg h
theorem spanFault_many {p q : Bool} {xs ys : List Int} (h : bigFault2 p xs q ys = 0) (hl : 20 < xs.length ∨ 20 < ys.length) : spanFault p xs q ys = 2 := by
  unfold spanFault; rw [if_pos h, if_pos hl]
theorem spanFault_form {p q : Bool} {xs ys : List Int} (h : bigFault2 p xs q ys = 0) (hx : ¬ 20 < xs.length) (hy : ¬ 20 < ys.length) (hlt : sv q ys < sv p xs) : spanFault p xs q ys = 1 := by
  unfold spanFault; rw [if_pos h, if_neg (by omega), if_pos hlt]
theorem spanFault_ok {p q : Bool} {xs ys : List Int} (h : bigFault2 p xs q ys = 0) (hx : ¬ 20 < xs.length) (hy : ¬ 20 < ys.length) (hlt : ¬ sv q ys < sv p xs) : spanFault p xs q ys = 0 := by
  unfold spanFault; rw [if_pos h, if_neg (by omega), if_neg hlt]
theorem spanFault_zero {p q : Bool} {xs ys : List Int} (h : spanFault p xs q ys = 0) : SpanOk p xs q ys := by
  unfold spanFault at h
  by_cases h1 : bigFault2 p xs q ys = 0
  · rw [if_pos h1] at h
    by_cases h2 : 20 < xs.length ∨ 20 < ys.length
    · rw [if_pos h2] at h; omega
    · rw [if_neg h2] at h
      by_cases h3 : sv q ys < sv p xs
      · rw [if_pos h3] at h; omega
      · obtain ⟨a, b⟩ := bigFault2_zero h1
        exact ⟨a, b, by omega, by omega, by omega⟩
  · rw [if_neg h1] at h; exact absurd h h1

/-- The first code of two spans. -/
def spanFault2 (p : Bool) (xs : List Int) (q : Bool) (ys : List Int) (p' : Bool) (xs' : List Int) (q' : Bool) (ys' : List Int) : Int :=
  if spanFault p xs q ys = 0 then spanFault p' xs' q' ys' else spanFault p xs q ys
theorem spanFault2_first {p q p' q' : Bool} {xs ys xs' ys' : List Int} (h : spanFault p xs q ys ≠ 0) : spanFault2 p xs q ys p' xs' q' ys' = spanFault p xs q ys := if_neg h
theorem spanFault2_second {p q p' q' : Bool} {xs ys xs' ys' : List Int} (h : spanFault p xs q ys = 0) : spanFault2 p xs q ys p' xs' q' ys' = spanFault p' xs' q' ys' := if_pos h
theorem spanFault2_zero {p q p' q' : Bool} {xs ys xs' ys' : List Int} (h : spanFault2 p xs q ys p' xs' q' ys' = 0) : SpanOk p xs q ys ∧ SpanOk p' xs' q' ys' := by
  unfold spanFault2 at h
  by_cases h1 : spanFault p xs q ys = 0
  · rw [if_pos h1] at h; exact ⟨spanFault_zero h1, spanFault_zero h⟩
  · rw [if_neg h1] at h; exact absurd h h1

/-- An answer: a code, and the ends as numbers (0 where there is a code). -/
structure SV where
  code : Int
  lo : Int
  hi : Int
def noSpan (c : Int) : SV := ⟨c, 0, 0⟩
def fitS (lo hi : Int) : SV := if 20 < (mag lo).length ∨ 20 < (mag hi).length then noSpan 7 else ⟨0, lo, hi⟩
theorem fitS_many {lo hi : Int} (h : 20 < (mag lo).length ∨ 20 < (mag hi).length) : fitS lo hi = noSpan 7 := if_pos h
theorem fitS_ok {lo hi : Int} (h : (mag lo).length ≤ 20) (h' : (mag hi).length ≤ 20) : fitS lo hi = ⟨0, lo, hi⟩ := if_neg (by omega)
def twoS (f : Int) (r : SV) : SV := if f = 0 then r else noSpan f
theorem twoS_zero {f : Int} {r : SV} (h : f = 0) : twoS f r = r := if_pos h
theorem twoS_not {f : Int} {r : SV} (h : f ≠ 0) : twoS f r = noSpan f := if_neg h
/-- No end of an answer has more than 20 limbs. -/
def Short (r : SV) : Prop := (mag r.lo).length ≤ 20 ∧ (mag r.hi).length ≤ 20
theorem noSpan_short (c : Int) : Short (noSpan c) := by
  unfold Short noSpan; simp [mag_zero]
theorem fitS_short (lo hi : Int) : Short (fitS lo hi) := by
  unfold fitS
  by_cases h : 20 < (mag lo).length ∨ 20 < (mag hi).length
  · rw [if_pos h]; exact noSpan_short 7
  · rw [if_neg h]; exact ⟨by show (mag lo).length ≤ 20; omega, by show (mag hi).length ≤ 20; omega⟩
theorem twoS_short {f : Int} {r : SV} (h : Short r) : Short (twoS f r) := by
  unfold twoS
  by_cases e : f = 0
  · rw [if_pos e]; exact h
  · rw [if_neg e]; exact noSpan_short f

def addS (p : Bool) (xs : List Int) (q : Bool) (ys : List Int) (p' : Bool) (xs' : List Int) (q' : Bool) (ys' : List Int) : SV :=
  twoS (spanFault2 p xs q ys p' xs' q' ys') (fitS (sv p xs + sv p' xs') (sv q ys + sv q' ys'))
def subS (p : Bool) (xs : List Int) (q : Bool) (ys : List Int) (p' : Bool) (xs' : List Int) (q' : Bool) (ys' : List Int) : SV :=
  twoS (spanFault2 p xs q ys p' xs' q' ys') (fitS (sv p xs - sv q' ys') (sv q ys - sv p' xs'))
/-- The lower one, the higher one. -/
def minZ (x y : Int) : Int := if y < x then y else x
def maxZ (x y : Int) : Int := if x < y then y else x
def hullS (p : Bool) (xs : List Int) (q : Bool) (ys : List Int) (p' : Bool) (xs' : List Int) (q' : Bool) (ys' : List Int) : SV :=
  twoS (spanFault2 p xs q ys p' xs' q' ys') (fitS (minZ (sv p xs) (sv p' xs')) (maxZ (sv q ys) (sv q' ys')))
def meetS (p : Bool) (xs : List Int) (q : Bool) (ys : List Int) (p' : Bool) (xs' : List Int) (q' : Bool) (ys' : List Int) : SV :=
  twoS (spanFault2 p xs q ys p' xs' q' ys') (if minZ (sv q ys) (sv q' ys') < maxZ (sv p xs) (sv p' xs') then noSpan 4 else fitS (maxZ (sv p xs) (sv p' xs')) (minZ (sv q ys) (sv q' ys')))
def orderS (p : Bool) (xs : List Int) (q : Bool) (ys : List Int) (p' : Bool) (xs' : List Int) (q' : Bool) (ys' : List Int) : Int :=
  if spanFault2 p xs q ys p' xs' q' ys' = 0 then (if sv q ys < sv p' xs' then -1 else if sv q' ys' < sv p xs then 1 else 0) else 0
def withinS (p : Bool) (xs : List Int) (q : Bool) (ys : List Int) (p' : Bool) (xs' : List Int) (q' : Bool) (ys' : List Int) : Bool :=
  decide (spanFault2 p xs q ys p' xs' q' ys' = 0) && (decide (sv p' xs' ≤ sv p xs) && decide (sv q ys ≤ sv q' ys'))
theorem addS_short (p q p' q' : Bool) (xs ys xs' ys' : List Int) : Short (addS p xs q ys p' xs' q' ys') := twoS_short (fitS_short _ _)
theorem subS_short (p q p' q' : Bool) (xs ys xs' ys' : List Int) : Short (subS p xs q ys p' xs' q' ys') := twoS_short (fitS_short _ _)
theorem hullS_short (p q p' q' : Bool) (xs ys xs' ys' : List Int) : Short (hullS p xs q ys p' xs' q' ys') := twoS_short (fitS_short _ _)
theorem meetS_short (p q p' q' : Bool) (xs ys xs' ys' : List Int) : Short (meetS p xs q ys p' xs' q' ys') := by
  refine twoS_short ?_
  by_cases h : minZ (sv q ys) (sv q' ys') < maxZ (sv p xs) (sv p' xs')
  · rw [if_pos h]; exact noSpan_short 4
  · rw [if_neg h]; exact fitS_short _ _

theorem cmpB_ok {p q : Bool} {xs ys : List Int} (h : BigOk p xs) (h' : BigOk q ys) : cmpB p xs q ys = cmpV (sv p xs) (sv q ys) := by
  unfold cmpB
  rw [if_pos (by unfold bigFault2; rw [if_pos h.fault, h'.fault])]
theorem cmpV_neg {x y : Int} : decide (cmpV x y < 0) = decide (x < y) := by
  unfold cmpV
  by_cases h : x < y
  · simp [h]
  · by_cases h' : y < x <;> simp [h, h']
theorem cmpV_pos {x y : Int} : decide (0 < cmpV x y) = decide (y < x) := by
  unfold cmpV
  by_cases h : x < y
  · have : ¬ y < x := by omega
    simp [h, this]
  · by_cases h' : y < x <;> simp [h, h']
theorem bigFault2_of {p q : Bool} {xs ys : List Int} (h : BigOk p xs) (h' : BigOk q ys) : bigFault2 p xs q ys = 0 := by
  unfold bigFault2; rw [if_pos h.fault, h'.fault]
theorem minZ_cases (x y : Int) : (minZ x y = x ∧ ¬ y < x) ∨ (minZ x y = y ∧ y < x) := by
  unfold minZ
  by_cases h : y < x
  · rw [if_pos h]; exact Or.inr ⟨rfl, h⟩
  · rw [if_neg h]; exact Or.inl ⟨rfl, h⟩
theorem maxZ_cases (x y : Int) : (maxZ x y = x ∧ ¬ x < y) ∨ (maxZ x y = y ∧ x < y) := by
  unfold maxZ
  by_cases h : x < y
  · rw [if_pos h]; exact Or.inr ⟨rfl, h⟩
  · rw [if_neg h]; exact Or.inl ⟨rfl, h⟩

end Go.Proofs.Ytjndjjdffifgcaa
