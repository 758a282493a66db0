/-
  Joined texts.
-/
import Derived.Deep.RegionHeld3
import Derived.Deep.DrawnRows
import Derived.Deep.DeepCutAuto
import Derived.Test.YtfafjijoeanbhaaGreatArcSwing
import Derived.Test.YtfafjijoeanbhaaGreatMulA
import Derived.Test.YtfafjijoeanbhaaGreatPlainC
import Derived.Test.YtfafjijoeanbhaaGreatArcl4Arc
import Derived.Test.YtfafjijoeanbhaaGreatArcl4Swing
import Derived.Test.YtfafjijoeanbhaaGreatJ5
import Derived.Test.YtfafjijoeanbhaaGreatJ2
namespace Go.Proofs.YtfafjijoeanbhaaGreat
open Go.RowKit

attribute [local go_sem ↓] field_big field_span field_end0 field_end1
/-- The code that is told of a precision, a span, and how far it may be from 0. -/
def farC (P n : Int) (p : Bool) (xs : List Int) (q : Bool) (ys : List Int) : Int :=
 if precS P (spanFault p xs q ys) = 0 then (if n * p2 P.toNat < away2 ⟨sv p xs, sv q ys⟩ then 3 else 0) else precS P (spanFault p xs q ys)
theorem farC_bad {P n : Int} {p q : Bool} {xs ys : List Int} (h : precS P (spanFault p xs q ys) ≠ 0) : farC P n p xs q ys = precS P (spanFault p xs q ys) := if_neg h
theorem precS_zero {P f : Int} (h : precS P f = 0) : isP P = true ∧ f = 0 := by
 unfold precS at h
 by_cases hp : isP P = true
 ·rw [if_pos hp] at h; exact ⟨hp, h⟩
 ·rw [if_neg hp] at h; omega
theorem farC_ok {k : Nat} {n x1 x2 : Int} (h : precS (k : Int) (spanFault (isNeg x1) (mag x1) (isNeg x2) (mag x2)) = 0) : farC (k : Int) n (isNeg x1) (mag x1) (isNeg x2) (mag x2) = if n * p2 k < away2 ⟨x1, x2⟩ then 3 else 0 := by
 unfold farC; rw [if_pos h, sv_mag, sv_mag]; rfl
/-- The letters of a span without a fault. -/
theorem ok_letters {p q : Bool} {xs ys : List Int} (h : SpanOk p xs q ys) : ∃ x1 x2 : Int, p = isNeg x1 ∧ xs = mag x1 ∧ q = isNeg x2 ∧ ys = mag x2 ∧ Fit2 ⟨x1, x2⟩ :=
 ⟨sv p xs, sv q ys, h.lo.isNeg.symm, h.lo.mag.symm, h.hi.isNeg.symm, h.hi.mag.symm, h.le, by show (mag (sv p xs)).length ≤ 20; rw [h.lo.mag]; exact h.lx, by show (mag (sv q ys)).length ≤ 20; rw [h.hi.mag]; exact h.ly⟩
theorem isP_nat {P : Int} (h : isP P = true) : ∃ k : Nat, P = (k : Int) ∧ k ≤ 96 ∧ 16 ≤ k := ⟨P.toNat, by rcases isP_cases h with h | h | h <;> omega, by rcases isP_cases h with h | h | h <;> omega, by rcases isP_cases h with h | h | h <;> omega⟩
theorem unit_len {k : Nat} {n : Int} (hk : k ≤ 96) (h0 : 0 ≤ n) (h1 : n ≤ 1000) : (mag (n * p2 k)).length ≤ 20 := by
 have h2 := p2_le hk; have h3 := p2_pos k
 have h4 := Int.mul_le_mul_of_nonneg_right h1 (show 0 ≤ p2 k by omega)
 have h5 := Int.mul_nonneg h0 (show 0 ≤ p2 k by omega)
 exact len20 (M := 1000 * p2 k) (by omega) h4 (by omega)
theorem away_len {x : Z2} (h : Fit2 x) : (mag (away2 x)).length ≤ 20 := away_le h.2.1 h.2.2

set_option maxHeartbeats 8000000 in
set_option maxRecDepth 20000 in
theorem farFault_any (P n : Int) (p q : Bool) (a b : Option Addr) (na c nb d : Nat) (xs ys : List Int) (w : World) (h1 : Sl w a na c xs) (h2 : Sl w b nb d ys) (hn0 : 0 ≤ n) (hn1 : n ≤ 1000) :
  Calls Tryz.prog 72 #[.int .i64 P, .int .i64 n, .agg #[.bool p, .slice a na c, .bool q, .slice b nb d]] w (Ans w (.int .i64 (farC P n p xs q ys))) := by
 obtain ⟨f, hf⟩ : ∃ f, f = precS P (spanFault p xs q ys) := ⟨_, rfl⟩
 by_cases hz : f = 0
 ·skip
  obtain ⟨hP, hf0⟩ := precS_zero (hf.symm.trans hz)
  obtain ⟨k, rfl, hk96, hk16⟩ := isP_nat hP
  obtain ⟨x1, x2, rfl, rfl, rfl, rfl, fx⟩ := ok_letters (spanFault_zero hf0)
  have ea := h1.1
  have eb := h2.1
  subst ea eb
  obtain ⟨lx1, lx2⟩ := fx.2
  obtain ⟨u, hu⟩ : ∃ u, u = n * p2 k := ⟨_, rfl⟩
  obtain ⟨o2, ho2⟩ : ∃ u, u = away2 ⟨x1, x2⟩ := ⟨_, rfl⟩
  obtain ⟨o1, ho1⟩ : ∃ u, u = -o2 := ⟨_, rfl⟩
  have hw : (⟨o1, o2⟩ : Z2) = swing2 ⟨x1, x2⟩ := by rw [ho1, ho2]; rfl
  rw [farC_ok (hf.symm.trans hz), ← hu, ← ho2]
  have ln : (mag n).length ≤ 20 := small_len (by omega) (by omega)
  have lu : (mag u).length ≤ 20 := by rw [hu]; exact unit_len hk96 hn0 hn1
  have lo : (mag o2).length ≤ 20 := by rw [ho2]; exact away_len fx
  have H1 := Lib.hid h1
  have H2 := Lib.hid h2
  have F1 := Lib.hid h1.lt
  have F2 := Lib.hid h2.lt
  have HF := Lib.hid (hz ▸ hf : 0 = precS (k : Int) (spanFault (isNeg x1) (mag x1) (isNeg x2) (mag x2)))
  have HW := Lib.hid hw
  have HO2 := Lib.hid ho2
  have HU := Lib.hid (show u = sv (isNeg n) (mag n) * p2 k from by rw [sv_mag]; exact hu)
  have HU0 := Lib.hid hu
  have HP := Lib.hid hP
  clear h1 h2 hf hz hf0 hw ho1 ho2 hu hP fx
  by_cases hlt : u < o2
  ·skip
   have HR := Lib.hid (show (if u < o2 then (3 : Int) else 0) = 3 from if_pos hlt)
   rw [HR.out]
   have HD := Lib.hid (show decide (sv (isNeg u) (mag u) < sv (isNeg o2) (mag o2)) = true by rw [sv_mag, sv_mag]; exact decide_eq_true hlt)
   clear hlt
   go_enter Tryz.func72, Tryz.ntmps72
   go_upto_region 1 with fail
   generalize hW : (w.alloc (.cells #[.bool (isNeg x1), .slice a (mag x1).length c, .bool (isNeg x2), .slice b (mag x2).length d] 26)) = ww0
   have hkk : Kept [] (w.alloc (.cells #[.bool (isNeg x1), .slice a (mag x1).length c, .bool (isNeg x2), .slice b (mag x2).length d] 26)) ww0 := by rw [hW]; exact Kept.refl _ _
   have zzA : w.heap.size + 1 = ww0.heap.size := by rw [← hW]; simp
   obtain ⟨⟨nA0, nA1, nA2, nA3⟩, _⟩ := tp4 hkk (g := w.heap.size) (by simp) (by simp)
   have hk := hkk.peel
   clear hkk hW
   have z0 := hk.size
   have kq1 := Lib.hid hk
   have KT := kq1
   clear hk
   replace H1 := Lib.hid (H1.out.kept0 KT.out)
   replace H2 := Lib.hid (H2.out.kept0 KT.out)
   have tA0 := nA0.out
   have tA1 := nA1.out
   have tA2 := nA2.out
   have tA3 := nA3.out
   go_wp2_with fail
   clear tA0 tA1 tA2 tA3
   refine (precisionFault_one (k : Int) ww0.heap.size _ _ _ _ _ _ _ _ _ _ ww0 rfl H1.out H2.out).mono ?_
   intro e v1 hh; obtain ⟨hh, hk1⟩ := hh; subst hh
   rw [← HF.out]
   have hk := hk1
   clear hk1
   have z1 := hk.size
   have kq2 := Lib.hid hk
   clear hk
   replace nA0 := kc kq2.out nA0
   have tA0 := nA0.out
   replace nA1 := kc kq2.out nA1
   have tA1 := nA1.out
   replace nA2 := kc kq2.out nA2
   have tA2 := nA2.out
   replace nA3 := kc kq2.out nA3
   have tA3 := nA3.out
   go_wp2_with fail
   clear tA0 tA1 tA2 tA3
   replace H1 := Lib.hid (H1.out.kept0 kq2.out)
   replace H2 := Lib.hid (H2.out.kept0 kq2.out)
   refine (swingOf_zz x1 x2 _ _ _ _ o1 o2 _ H1.out H2.out lx1 lx2 HW.out).mono ?_
   intro e v2 hh; unfold SpanN at hh; obtain ⟨b2, hh⟩ := hh; obtain ⟨c2, hh⟩ := hh; obtain ⟨d2, hh⟩ := hh; obtain ⟨m2, hh, hs2, ht2, hk2⟩ := hh; subst hh
   have S2 := Lib.hid ht2
   have US2 := Lib.hid S2.out.lt
   have hk := hk2
   have z2 := hk.size
   have kq3 := Lib.hid hk
   clear hk
   go_wp2_with fail
   refine (BigOf_any n _ (by omega) (by omega)).mono ?_
   intro e v3 hh; unfold BigV at hh; obtain ⟨b3, hh⟩ := hh; obtain ⟨c3, hh, hs3, hf3, hk3⟩ := hh; subst hh
   have SN := Lib.hid hs3
   have GSN := Lib.hid (hf3.mono (B' := v2.heap.size) (by simp))
   have USN := Lib.hid SN.out.lt
   have hk := hk3
   have z3 := hk.size
   have kq4 := Lib.hid hk
   clear hk
   go_wp2_with fail
   refine (inUnits_any k _ _ _ _ _ u _ hk96 SN.out (bigOk_of (by omega)) (by omega) HU.out).mono ?_
   intro e v4 hh; unfold BigV at hh; obtain ⟨b4, hh⟩ := hh; obtain ⟨c4, hh, hs4, hf4, hk4⟩ := hh; subst hh
   have SU := Lib.hid hs4
   have GSU := Lib.hid (hf4.mono (B' := v3.heap.size) (by simp))
   have USU := Lib.hid SU.out.lt
   have hk := hk4
   have z4 := hk.size
   have kq5 := Lib.hid hk
   clear hk
   go_wp2_with fail
   have kj1 := Lib.hid (kq4.out.trans0 kq5.out)
   replace S2 := Lib.hid (S2.out.kept0 kj1.out)
   refine (isAbove_any _ _ _ _ _ _ _ _ _ _ true _ S2.out SU.out (bigOk_of (by omega)) (bigOk_of (by omega)) HD.out).mono ?_
   intro e v5 hh; obtain ⟨hh, hk5⟩ := hh; subst hh
   have hk := hk5
   have z5 := hk.size
   have kq6 := Lib.hid hk
   clear hk
   go_wp2_with fail
   go_ret
   have kj2 := Lib.hid ((((kq2.out.trans0 kq3.out).trans0 kq4.out).trans0 kq5.out).trans0 kq6.out)
   replace KT := Lib.hid (KT.out.trans0 kj2.out)
   exact ⟨rfl, KT.out⟩
  ·skip
   have HR := Lib.hid (show (if u < o2 then (3 : Int) else 0) = 0 from if_neg hlt)
   rw [HR.out]
   have HD := Lib.hid (show decide (sv (isNeg u) (mag u) < sv (isNeg o2) (mag o2)) = false by rw [sv_mag, sv_mag]; exact decide_eq_false hlt)
   clear hlt
   go_enter Tryz.func72, Tryz.ntmps72
   go_upto_region 1 with fail
   generalize hW : (w.alloc (.cells #[.bool (isNeg x1), .slice a (mag x1).length c, .bool (isNeg x2), .slice b (mag x2).length d] 26)) = ww0
   have hkk : Kept [] (w.alloc (.cells #[.bool (isNeg x1), .slice a (mag x1).length c, .bool (isNeg x2), .slice b (mag x2).length d] 26)) ww0 := by rw [hW]; exact Kept.refl _ _
   have zzA : w.heap.size + 1 = ww0.heap.size := by rw [← hW]; simp
   obtain ⟨⟨nA0, nA1, nA2, nA3⟩, _⟩ := tp4 hkk (g := w.heap.size) (by simp) (by simp)
   have hk := hkk.peel
   clear hkk hW
   have z0 := hk.size
   have kq1 := Lib.hid hk
   have KT := kq1
   clear hk
   replace H1 := Lib.hid (H1.out.kept0 KT.out)
   replace H2 := Lib.hid (H2.out.kept0 KT.out)
   have tA0 := nA0.out
   have tA1 := nA1.out
   have tA2 := nA2.out
   have tA3 := nA3.out
   go_wp2_with fail
   clear tA0 tA1 tA2 tA3
   refine (precisionFault_one (k : Int) ww0.heap.size _ _ _ _ _ _ _ _ _ _ ww0 rfl H1.out H2.out).mono ?_
   intro e v1 hh; obtain ⟨hh, hk1⟩ := hh; subst hh
   rw [← HF.out]
   have hk := hk1
   clear hk1
   have z1 := hk.size
   have kq2 := Lib.hid hk
   clear hk
   replace nA0 := kc kq2.out nA0
   have tA0 := nA0.out
   replace nA1 := kc kq2.out nA1
   have tA1 := nA1.out
   replace nA2 := kc kq2.out nA2
   have tA2 := nA2.out
   replace nA3 := kc kq2.out nA3
   have tA3 := nA3.out
   go_wp2_with fail
   clear tA0 tA1 tA2 tA3
   replace H1 := Lib.hid (H1.out.kept0 kq2.out)
   replace H2 := Lib.hid (H2.out.kept0 kq2.out)
   refine (swingOf_zz x1 x2 _ _ _ _ o1 o2 _ H1.out H2.out lx1 lx2 HW.out).mono ?_
   intro e v2 hh; unfold SpanN at hh; obtain ⟨b2, hh⟩ := hh; obtain ⟨c2, hh⟩ := hh; obtain ⟨d2, hh⟩ := hh; obtain ⟨m2, hh, hs2, ht2, hk2⟩ := hh; subst hh
   have S2 := Lib.hid ht2
   have US2 := Lib.hid S2.out.lt
   have hk := hk2
   have z2 := hk.size
   have kq3 := Lib.hid hk
   clear hk
   go_wp2_with fail
   refine (BigOf_any n _ (by omega) (by omega)).mono ?_
   intro e v3 hh; unfold BigV at hh; obtain ⟨b3, hh⟩ := hh; obtain ⟨c3, hh, hs3, hf3, hk3⟩ := hh; subst hh
   have SN := Lib.hid hs3
   have GSN := Lib.hid (hf3.mono (B' := v2.heap.size) (by simp))
   have USN := Lib.hid SN.out.lt
   have hk := hk3
   have z3 := hk.size
   have kq4 := Lib.hid hk
   clear hk
   go_wp2_with fail
   refine (inUnits_any k _ _ _ _ _ u _ hk96 SN.out (bigOk_of (by omega)) (by omega) HU.out).mono ?_
   intro e v4 hh; unfold BigV at hh; obtain ⟨b4, hh⟩ := hh; obtain ⟨c4, hh, hs4, hf4, hk4⟩ := hh; subst hh
   have SU := Lib.hid hs4
   have GSU := Lib.hid (hf4.mono (B' := v3.heap.size) (by simp))
   have USU := Lib.hid SU.out.lt
   have hk := hk4
   have z4 := hk.size
   have kq5 := Lib.hid hk
   clear hk
   go_wp2_with fail
   have kj1 := Lib.hid (kq4.out.trans0 kq5.out)
   replace S2 := Lib.hid (S2.out.kept0 kj1.out)
   refine (isAbove_any _ _ _ _ _ _ _ _ _ _ false _ S2.out SU.out (bigOk_of (by omega)) (bigOk_of (by omega)) HD.out).mono ?_
   intro e v5 hh; obtain ⟨hh, hk5⟩ := hh; subst hh
   have hk := hk5
   have z5 := hk.size
   have kq6 := Lib.hid hk
   clear hk
   go_wp2_with fail
   go_ret
   have kj2 := Lib.hid ((((kq2.out.trans0 kq3.out).trans0 kq4.out).trans0 kq5.out).trans0 kq6.out)
   replace KT := Lib.hid (KT.out.trans0 kj2.out)
   exact ⟨rfl, KT.out⟩
 ·skip
  rw [farC_bad (by rw [← hf]; exact hz), ← hf]
  have hne : (f == 0) = false := by rw [beq_eq_false_iff_ne]; exact hz
  have ea := h1.1
  have eb := h2.1
  have H1 := Lib.hid h1
  have H2 := Lib.hid h2
  have F1 := Lib.hid h1.lt
  have F2 := Lib.hid h2.lt
  have HF := Lib.hid hf
  clear h1 h2 hf hz ea eb
  go_enter Tryz.func72, Tryz.ntmps72
  go_upto_region 1 with fail
  generalize hW : (w.alloc (.cells #[.bool p, .slice a na c, .bool q, .slice b nb d] 26)) = ww0
  have hkk : Kept [] (w.alloc (.cells #[.bool p, .slice a na c, .bool q, .slice b nb d] 26)) ww0 := by rw [hW]; exact Kept.refl _ _
  have zzA : w.heap.size + 1 = ww0.heap.size := by rw [← hW]; simp
  obtain ⟨⟨nA0, nA1, nA2, nA3⟩, _⟩ := tp4 hkk (g := w.heap.size) (by simp) (by simp)
  have hk := hkk.peel
  clear hkk hW
  have z0 := hk.size
  have kq1 := Lib.hid hk
  have KT := kq1
  clear hk
  replace H1 := Lib.hid (H1.out.kept0 KT.out)
  replace H2 := Lib.hid (H2.out.kept0 KT.out)
  have tA0 := nA0.out
  have tA1 := nA1.out
  have tA2 := nA2.out
  have tA3 := nA3.out
  go_wp2_with fail
  clear tA0 tA1 tA2 tA3
  refine (precisionFault_one P ww0.heap.size _ _ _ _ _ _ _ _ _ _ ww0 rfl H1.out H2.out).mono ?_
  intro e v1 hh; obtain ⟨hh, hk1⟩ := hh; subst hh
  rw [← HF.out]
  have hk := hk1
  clear hk1
  have z1 := hk.size
  have kq2 := Lib.hid hk
  clear hk
  go_wp2_with fail
  go_ret
  replace KT := Lib.hid (KT.out.trans0 kq2.out)
  exact ⟨rfl, KT.out⟩

end Go.Proofs.YtfafjijoeanbhaaGreat
namespace Go.Proofs.YtfafjijoeanbhaaGreat
open Go.RowKit

attribute [local go_sem ↓] field_big field_span field_end0 field_end1
/-- What ArcSeries answers. -/
def arcSS (P : Int) (p : Bool) (xs : List Int) (q : Bool) (ys : List Int) : SV :=
 if farC P 1 p xs q ys = 0 then ⟨0, (arc2 P.toNat ⟨sv p xs, sv q ys⟩).lo, (arc2 P.toNat ⟨sv p xs, sv q ys⟩).hi⟩ else noSpan (farC P 1 p xs q ys)
theorem arcSS_bad {P : Int} {p q : Bool} {xs ys : List Int} (h : farC P 1 p xs q ys ≠ 0) : arcSS P p xs q ys = noSpan (farC P 1 p xs q ys) := if_neg h
theorem arcSS_ok {k : Nat} {x1 x2 : Int} (h : farC (k : Int) 1 (isNeg x1) (mag x1) (isNeg x2) (mag x2) = 0) :
  arcSS (k : Int) (isNeg x1) (mag x1) (isNeg x2) (mag x2) = ⟨0, (arc2 k ⟨x1, x2⟩).lo, (arc2 k ⟨x1, x2⟩).hi⟩ := by
 unfold arcSS; rw [if_pos h, sv_mag, sv_mag]; rfl
theorem farC_pre {P n : Int} {p q : Bool} {xs ys : List Int} (h : farC P n p xs q ys = 0) : precS P (spanFault p xs q ys) = 0 := by
 unfold farC at h
 by_cases h0 : precS P (spanFault p xs q ys) = 0
 ·exact h0
 ·rw [if_neg h0] at h; exact h
theorem far_in {k : Nat} {n x1 x2 : Int} (fx : x1 ≤ x2) (hp : precS (k : Int) (spanFault (isNeg x1) (mag x1) (isNeg x2) (mag x2)) = 0) (h : farC (k : Int) n (isNeg x1) (mag x1) (isNeg x2) (mag x2) = 0) : In2 (n * p2 k) ⟨x1, x2⟩ := by
 rw [farC_ok hp] at h
 have h1 : away2 ⟨x1, x2⟩ ≤ n * p2 k := by
  by_cases hh : n * p2 k < away2 ⟨x1, x2⟩
  ·rw [if_pos hh] at h; omega
  ·omega
 obtain ⟨m, hm⟩ : ∃ m, m = n * p2 k := ⟨_, rfl⟩
 rw [← hm] at h1 ⊢
 unfold away2 maxZ abZ at h1
 unfold In2
 dsimp only at h1 ⊢
 (repeat' split at h1) <;> omega
end Go.Proofs.YtfafjijoeanbhaaGreat
