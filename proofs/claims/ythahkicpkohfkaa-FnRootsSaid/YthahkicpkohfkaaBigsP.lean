/-
  Plain facts on sums, products, quotients and roots of bigs, for the laws on them. No condition but what each says.
-/
import Derived.Test.YthahkicpkohfkaaJ1
import Derived.Test.YthahkicpkohfkaaPlain8
import Derived.Test.YthahkicpkohfkaaDivsP
import Derived.Test.YthahkicpkohfkaaNatsP
import Derived.Test.YthahkicpkohfkaaBigR
namespace Go.Proofs.Ythahkicpkohfkaa
open Go.RowKit

theorem twoB_code {f : Int} {r : BV} (h : (twoB f r).code = 0) : f = 0 ∧ twoB f r = r ∧ r.code = 0 := by
  by_cases h1 : f = 0
  · have e := twoB_zero (r := r) h1
    rw [e] at h
    exact ⟨h1, e, h⟩
  · rw [twoB_not h1] at h; exact absurd h h1
theorem fitB_code {z : Int} (h : (fitB z).code = 0) : fitB z = ⟨0, isNeg z, mag z⟩ ∧ (mag z).length ≤ 40 := by
  unfold fitB at h
  by_cases h1 : 40 < (mag z).length
  · rw [if_pos h1] at h
    have : (7 : Int) = 0 := h
    omega
  · exact ⟨fitB_ok h1, by omega⟩
theorem bigOk_self {p : Bool} {xs : List Int} (h : BigOk p xs) : (⟨0, isNeg (sv p xs), mag (sv p xs)⟩ : BV) = ⟨0, p, xs⟩ := by rw [h.isNeg, h.mag]
theorem bigOk_len {p : Bool} {xs : List Int} (h : BigOk p xs) : (mag (sv p xs)).length ≤ 40 := by rw [h.mag]; exact h.n40.len
theorem addB_ok {p q : Bool} {xs ys : List Int} {z : Int} (hx : BigOk p xs) (hy : BigOk q ys) (hl : (mag z).length ≤ 40) (hz : z = sv p xs + sv q ys) : addB p xs q ys = ⟨0, isNeg z, mag z⟩ := by
  unfold addB
  rw [twoB_zero (bigFault2_of hx hy), ← hz]; exact fitB_ok (by omega)
theorem subB_ok {p q : Bool} {xs ys : List Int} {z : Int} (hx : BigOk p xs) (hy : BigOk q ys) (hl : (mag z).length ≤ 40) (hz : z = sv p xs - sv q ys) : subB p xs q ys = ⟨0, isNeg z, mag z⟩ := by
  unfold subB
  rw [twoB_zero (bigFault2_of hx hy), ← hz]; exact fitB_ok (by omega)

/-- What was added is taken off again, and the other way round. -/
theorem adds_back {p q : Bool} {xs ys : List Int} {s d : BV} (hs : s = addB p xs q ys) (hd : d = subB p xs q ys) (h : s.code = 0) (h' : d.code = 0) :
    subB s.neg s.limbs q ys = ⟨0, p, xs⟩ ∧ addB d.neg d.limbs q ys = ⟨0, p, xs⟩ ∧ bigFault s.neg s.limbs = 0 := by
  subst hs; subst hd
  obtain ⟨f1, e1, c1⟩ := twoB_code h
  obtain ⟨_, e2, c2⟩ := twoB_code h'
  obtain ⟨g1, l1⟩ := fitB_code c1
  obtain ⟨g2, l2⟩ := fitB_code c2
  obtain ⟨hx, hy⟩ := bigFault2_zero f1
  have a1 : addB p xs q ys = ⟨0, isNeg (sv p xs + sv q ys), mag (sv p xs + sv q ys)⟩ := by unfold addB; rw [e1, g1]
  have a2 : subB p xs q ys = ⟨0, isNeg (sv p xs - sv q ys), mag (sv p xs - sv q ys)⟩ := by unfold subB; rw [e2, g2]
  rw [a1, a2]
  refine ⟨?_, ?_, (bigOk_of l1).fault⟩
  · rw [← bigOk_self hx]
    exact subB_ok (bigOk_of l1) hy (bigOk_len hx) (by rw [sv_mag]; first | done | omega)
  · rw [← bigOk_self hx]
    exact addB_ok (bigOk_of l2) hy (bigOk_len hx) (by rw [sv_mag]; first | done | omega)

theorem int_back {n : Int} (h : -9223372036854775808 ≤ n) (h' : n ≤ 9223372036854775807) : bvCode (isNeg n) (mag n) = 0 ∧ bvVal (isNeg n) (mag n) = n := by
  have hl : (mag n).length ≤ 4 := mag_len_lt (by simp only [pw]; omega)
  have hf := (bigOk_of (z := n) (by omega)).fault
  have ho : ¬ outI n := by unfold outI; omega
  unfold bvCode bvVal
  rw [if_pos hf, if_pos hf, sv_mag, if_neg ho, if_neg ho]
  exact ⟨rfl, rfl⟩

theorem sg_back (p q : Bool) (x y : Int) : sg (p != q) x * sg q y = sg p (x * y) := by
  rw [sg_mul]; congr 1; cases p <;> cases q <;> rfl
/-- A quotient that is rounded down is not above one that is rounded up; they are one apart at most, and not so if the product is what was divided. -/
theorem div_gap {p q : Bool} {X Y : Int} (hY : 0 < Y) :
    (divZ true p q X Y - divZ false p q X Y = 0 ∧ divZ false p q X Y * sg q Y = sg p X) ∨ (divZ true p q X Y - divZ false p q X Y = 1 ∧ divZ false p q X Y * sg q Y ≠ sg p X ∧ X ≠ 0) := by
  have hm := Int.mul_ediv_add_emod X Y
  by_cases h : X % Y = 0
  · left
    have e1 : ∀ up, divZ up p q X Y = sg (p != q) (X / Y) := fun up => by unfold divZ; rw [if_neg (fun x => x.1 h)]
    rw [e1, e1]
    refine ⟨by omega, ?_⟩
    rw [sg_back, Int.mul_comm, show Y * (X / Y) = X by omega]
  · right
    have hx0 : X ≠ 0 := fun e => h (by rw [e]; exact Int.zero_emod Y)
    have hr2 := Int.emod_lt_of_pos X hY
    have hne : ∀ k : Int, k * Y ≠ X := fun k hk => h (by rw [← hk]; exact Int.mul_emod_left k Y)
    have hsg : ∀ k : Int, sg (p != q) k * sg q Y ≠ sg p X := fun k hk => by
      rw [sg_back] at hk
      cases p
      · exact hne k hk
      · have hk' : -(k * Y) = -X := hk
        exact hne k (by omega)
    cases hb : (p != q)
    · have e1 : divZ true p q X Y = X / Y + 1 := by unfold divZ; rw [hb, if_pos ⟨h, by decide⟩]; rfl
      have e2 : divZ false p q X Y = X / Y := by unfold divZ; rw [hb, if_neg (fun x => x.2 rfl)]; rfl
      rw [e1, e2]
      refine ⟨by omega, ?_, hx0⟩
      have := hsg (X / Y)
      rw [hb] at this
      exact this
    · have e1 : divZ true p q X Y = -(X / Y) := by unfold divZ; rw [hb, if_neg (fun x => x.2 rfl)]; rfl
      have e2 : divZ false p q X Y = -(X / Y + 1) := by unfold divZ; rw [hb, if_pos ⟨h, by decide⟩]; rfl
      rw [e1, e2]
      refine ⟨by omega, ?_, hx0⟩
      have := hsg (X / Y + 1)
      rw [hb] at this
      exact this

theorem divB_code {up p q : Bool} {xs ys : List Int} (h : (divB up p xs q ys).code = 0) : BigOk p xs ∧ BigOk q ys ∧ 0 < val ys ∧ divB up p xs q ys = ⟨0, isNeg (divZ up p q (val xs) (val ys)), mag (divZ up p q (val xs) (val ys))⟩ ∧ (mag (divZ up p q (val xs) (val ys))).length ≤ 40 := by
  obtain ⟨f1, e1, c1⟩ := twoB_code h
  obtain ⟨hx, hy⟩ := bigFault2_zero f1
  by_cases h0 : ys.length = 0
  · rw [if_pos h0] at c1
    have : (6 : Int) = 0 := c1
    omega
  · rw [if_neg h0] at e1 c1
    obtain ⟨g1, l1⟩ := fitB_code c1
    refine ⟨hx, hy, (canon_nonneg (canon_of_fault hy.nat)).2 (fun e => h0 (by rw [e]; rfl)), ?_, l1⟩
    unfold divB; rw [if_neg h0, e1, g1]

theorem cmp1 {z : Int} (h : z = 0 ∨ z = 1) : cmpB (isNeg z) (mag z) (isNeg 1) (mag 1) ≤ 0 := by
  have hl : ∀ t : Int, t = 0 ∨ t = 1 → (mag t).length ≤ 40 := fun t ht => Nat.le_trans (mag_len_lt (k := 4) (by simp only [pw]; omega)) (by omega)
  rw [cmpB_ok (bigOk_of (hl z h)) (bigOk_of (hl 1 (Or.inr rfl))), sv_mag, sv_mag]
  unfold cmpV; split
  · omega
  · rw [if_neg (by omega)]; omega

/-- What the law asks of two quotients that have no code. -/
theorem divs_back {p q : Bool} {xs ys : List Int} {f c : BV} (hf : f = divB false p xs q ys) (hc : c = divB true p xs q ys) (h : f.code = 0) (h' : c.code = 0) :
    ∃ g : Int, (g = 0 ∨ g = 1) ∧ subB c.neg c.limbs f.neg f.limbs = ⟨0, isNeg g, mag g⟩ ∧ cmpB f.neg f.limbs c.neg c.limbs ≤ 0 ∧
      (decide ((mag g).length = 0) = decide ((mulB f.neg f.limbs q ys).neg = p ∧ (mulB f.neg f.limbs q ys).limbs = xs)) := by
  subst hf; subst hc
  obtain ⟨hx, hy, hy0, e1, l1⟩ := divB_code h
  obtain ⟨_, _, _, e2, l2⟩ := divB_code h'
  have hx0 := (canon_nonneg (canon_of_fault hx.nat)).1
  have hg := div_gap (p := p) (q := q) (X := val xs) hy0
  rw [e1, e2]
  show ∃ g : Int, (g = 0 ∨ g = 1) ∧ subB (isNeg (divZ true p q (val xs) (val ys))) (mag (divZ true p q (val xs) (val ys))) (isNeg (divZ false p q (val xs) (val ys))) (mag (divZ false p q (val xs) (val ys))) = ⟨0, isNeg g, mag g⟩ ∧ cmpB (isNeg (divZ false p q (val xs) (val ys))) (mag (divZ false p q (val xs) (val ys))) (isNeg (divZ true p q (val xs) (val ys))) (mag (divZ true p q (val xs) (val ys))) ≤ 0 ∧
      (decide ((mag g).length = 0) = decide ((mulB (isNeg (divZ false p q (val xs) (val ys))) (mag (divZ false p q (val xs) (val ys))) q ys).neg = p ∧ (mulB (isNeg (divZ false p q (val xs) (val ys))) (mag (divZ false p q (val xs) (val ys))) q ys).limbs = xs))
  generalize divZ true p q (val xs) (val ys) = C at *
  generalize divZ false p q (val xs) (val ys) = F at *
  have hgl : ∀ t : Int, t = 0 ∨ t = 1 → (mag t).length ≤ 40 := fun t ht => Nat.le_trans (mag_len_lt (k := 4) (by simp only [pw]; omega)) (by omega)
  have hgg : C - F = 0 ∨ C - F = 1 := by rcases hg with hg | hg <;> omega
  refine ⟨C - F, hgg, subB_ok (bigOk_of l2) (bigOk_of l1) (hgl _ hgg) (by rw [sv_mag, sv_mag]), ?_, ?_⟩
  · rw [cmpB_ok (bigOk_of l1) (bigOk_of l2), sv_mag, sv_mag]
    unfold cmpV; split
    · omega
    · rw [if_neg (by omega)]; omega
  · rcases hg with ⟨g0, hp⟩ | ⟨g0, hp, hxn⟩
    · rw [g0, show (mag 0).length = 0 from rfl, decide_eq_true (rfl : (0 : Nat) = 0)]
      have hp' : F * sv q ys = sv p xs := hp
      have em : mulB (isNeg F) (mag F) q ys = ⟨0, p, xs⟩ := by
        unfold mulB
        rw [twoB_zero (bigFault2_of (bigOk_of l1) hy), sv_mag, hp', fitB_ok (by have := bigOk_len hx; omega)]
        exact bigOk_self hx
      rw [em]
      exact (decide_eq_true ⟨rfl, rfl⟩).symm
    · rw [g0, show (mag 1).length = 1 from rfl, decide_eq_false (show ¬ (1 : Nat) = 0 by omega)]
      refine (decide_eq_false (fun hh => hp ?_)).symm
      obtain ⟨h1, h2⟩ := hh
      have e3 : mulB (isNeg F) (mag F) q ys = fitB (F * sv q ys) := by unfold mulB; rw [twoB_zero (bigFault2_of (bigOk_of l1) hy), sv_mag]
      rw [e3] at h1 h2
      show F * sv q ys = sv p xs
      unfold fitB at h1 h2
      by_cases h9 : 40 < (mag (F * sv q ys)).length
      · rw [if_pos h9] at h1 h2
        -- the product does not fit, so that what was divided would be 0
        have hx0 : ([] : List Int) = xs := h2
        exact absurd (by rw [← hx0]; rfl) hxn
      · rw [if_neg h9] at h1 h2
        have h1' : isNeg (F * sv q ys) = p := h1
        have h2' : mag (F * sv q ys) = xs := h2
        rw [← h1', ← h2', sv_mag]

theorem mulB_self {z : Int} (hl : (mag z).length ≤ 40) : mulB (isNeg z) (mag z) (isNeg z) (mag z) = fitB (z * z) := by
  unfold mulB
  rw [twoB_zero (bigFault2_of (bigOk_of hl) (bigOk_of hl)), sv_mag]
theorem csq_facts {v : Int} (h : 0 ≤ v) : v ≤ csq v * csq v ∧ (csq v - isq v = 0 ∨ csq v - isq v = 1) := by
  have hr := isq_root h
  unfold csq
  by_cases h1 : isq v * isq v < v
  · rw [if_pos h1]
    exact ⟨Int.le_of_lt hr.high, Or.inr (by omega)⟩
  · rw [if_neg h1]
    exact ⟨by omega, Or.inl (by omega)⟩
theorem rootB_code {f : Int → Int} {p : Bool} {xs : List Int} (h : (rootB f p xs).code = 0) : BigOk p xs ∧ p = false ∧ rootB f p xs = ⟨0, false, digits (f (val xs))⟩ := by
  unfold rootB at h
  by_cases h1 : bigFault p xs = 0
  · rw [if_pos h1] at h
    by_cases h2 : p = true
    · rw [if_pos h2] at h
      have : (3 : Int) = 0 := h
      omega
    · exact ⟨bigFault_zero h1, by simpa using h2, by unfold rootB; rw [if_pos h1, if_neg h2]⟩
  · rw [if_neg h1] at h
    exact absurd h h1
theorem bigN {z : Int} (h : 0 ≤ z) : (⟨0, false, digits z⟩ : BV) = ⟨0, isNeg z, mag z⟩ := by rw [isNeg_no h, mag_no h]
theorem digits_le40 {v z : Int} (hv : (digits v).length ≤ 40) (h0 : 0 ≤ v) (h : z ≤ v) : (digits z).length ≤ 40 := by
  have h1 := (val_pw_le (canon_limbs (canon_digits' v)) hv).2
  rw [val_digits' h0] at h1
  exact digits_len 40 z (by omega)

/-- A root's square is not above the number, the upper one's not below it, and they are one apart at most. -/
theorem roots_back {p : Bool} {xs : List Int} {f c : BV} (hf : f = rootB isq p xs) (hc : c = rootB csq p xs) (h : f.code = 0) :
    c.code = 0 ∧ (mulB f.neg f.limbs f.neg f.limbs).code = 0 ∧ cmpB (mulB f.neg f.limbs f.neg f.limbs).neg (mulB f.neg f.limbs f.neg f.limbs).limbs p xs ≤ 0 ∧
      ((mulB c.neg c.limbs c.neg c.limbs).code = 0 → 0 ≤ cmpB (mulB c.neg c.limbs c.neg c.limbs).neg (mulB c.neg c.limbs c.neg c.limbs).limbs p xs) ∧
      ∃ g : Int, (g = 0 ∨ g = 1) ∧ subB c.neg c.limbs f.neg f.limbs = ⟨0, isNeg g, mag g⟩ := by
  subst hf; subst hc
  obtain ⟨hx, hp, e1⟩ := rootB_code h
  subst hp
  have hv0 := (canon_nonneg (canon_of_fault hx.nat)).1
  have hd : digits (val xs) = xs := digits_val (canon_of_fault hx.nat)
  have hl : (digits (val xs)).length ≤ 40 := by rw [hd]; exact hx.n40.len
  have hi := isq_le hv0
  have hcq := csq_le hv0
  have hr := isq_root hv0
  have hcf := csq_facts hv0
  have e2 : rootB csq false xs = ⟨0, false, digits (csq (val xs))⟩ := by unfold rootB; rw [if_pos hx.fault, if_neg (by decide)]
  rw [e1, e2, bigN hi.1, bigN hcq.1]
  generalize hI : isq (val xs) = I at *
  generalize hC : csq (val xs) = C at *
  have lI : (mag I).length ≤ 40 := by rw [mag_no hi.1]; exact digits_le40 hl hv0 hi.2
  have lC : (mag C).length ≤ 40 := by rw [mag_no hcq.1]; exact digits_le40 hl hv0 hcq.2
  have lII : (mag (I * I)).length ≤ 40 := by rw [mag_no (Int.mul_nonneg hi.1 hi.1)]; exact digits_le40 hl hv0 hr.low
  have hgl : ∀ t : Int, t = 0 ∨ t = 1 → (mag t).length ≤ 40 := fun t ht => Nat.le_trans (mag_len_lt (k := 4) (by simp only [pw]; omega)) (by omega)
  show (0 : Int) = 0 ∧ (mulB (isNeg I) (mag I) (isNeg I) (mag I)).code = 0 ∧ cmpB (mulB (isNeg I) (mag I) (isNeg I) (mag I)).neg (mulB (isNeg I) (mag I) (isNeg I) (mag I)).limbs false xs ≤ 0 ∧
      ((mulB (isNeg C) (mag C) (isNeg C) (mag C)).code = 0 → 0 ≤ cmpB (mulB (isNeg C) (mag C) (isNeg C) (mag C)).neg (mulB (isNeg C) (mag C) (isNeg C) (mag C)).limbs false xs) ∧
      ∃ g : Int, (g = 0 ∨ g = 1) ∧ subB (isNeg C) (mag C) (isNeg I) (mag I) = ⟨0, isNeg g, mag g⟩
  rw [mulB_self lI, mulB_self lC]
  refine ⟨rfl, ?_, ?_, ?_, C - I, hcf.2, subB_ok (bigOk_of lC) (bigOk_of lI) (hgl _ hcf.2) (by rw [sv_mag, sv_mag])⟩
  · rw [fitB_ok (by omega)]
  · rw [fitB_ok (by omega)]
    show cmpB (isNeg (I * I)) (mag (I * I)) false xs ≤ 0
    rw [cmpB_ok (bigOk_of lII) hx, sv_mag]
    have hlow : I * I ≤ sv false xs := hr.low
    unfold cmpV; split
    · omega
    · rw [if_neg (by omega)]; omega
  · intro hcode
    obtain ⟨e3, l3⟩ := fitB_code hcode
    rw [e3]
    show 0 ≤ cmpB (isNeg (C * C)) (mag (C * C)) false xs
    rw [cmpB_ok (bigOk_of l3) hx, sv_mag]
    exact cmpV_nonneg hcf.1


end Go.Proofs.Ythahkicpkohfkaa
