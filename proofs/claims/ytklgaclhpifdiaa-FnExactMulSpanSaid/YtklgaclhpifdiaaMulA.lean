/-
  Contracts of the models of MulSpan and SquareSpan. Conditions: the limbs read as lists of numbers.
-/
import Derived.Deep.RegionHeld3
import Derived.Deep.DrawnRows
import Derived.Deep.DeepCutAuto
import Derived.Test.YtklgaclhpifdiaaSqA
import Derived.Test.YtklgaclhpifdiaaPrec
namespace Go.Proofs.Ytklgaclhpifdiaa
open Go.RowKit

/-- The answer where the precision is one and the spans have no fault. -/
def askS (P f : Int) (r : SV) : SV := if isP P = true then twoS f r else noSpan 3
theorem askS_short {P f : Int} {r : SV} (h : Short r) : Short (askS P f r) := by
  unfold askS; split
  · exact twoS_short h
  · exact noSpan_short 3
theorem askS_ok {P f : Int} {r : SV} (hP : isP P = true) (hf : f = 0) : askS P f r = r := by unfold askS; rw [if_pos hP, twoS_zero hf]
theorem askS_bad {P f : Int} {r : SV} (hP : isP P = true) (hf : f ≠ 0) : askS P f r = noSpan f := by unfold askS; rw [if_pos hP, twoS_not hf]
theorem askS_no {P f : Int} {r : SV} (hP : ¬ isP P = true) : askS P f r = noSpan 3 := by unfold askS; rw [if_neg hP]
theorem spanFault2_same (p q : Bool) (xs ys : List Int) : spanFault2 p xs q ys p xs q ys = spanFault p xs q ys := by unfold spanFault2; split <;> simp_all
def mulLow (p : Bool) (xs : List Int) (q : Bool) (ys : List Int) (p' : Bool) (xs' : List Int) (q' : Bool) (ys' : List Int) : Int := min4 (sv p xs * sv p' xs') (sv p xs * sv q' ys') (sv q ys * sv p' xs') (sv q ys * sv q' ys')
def mulHigh (p : Bool) (xs : List Int) (q : Bool) (ys : List Int) (p' : Bool) (xs' : List Int) (q' : Bool) (ys' : List Int) : Int := max4 (sv p xs * sv p' xs') (sv p xs * sv q' ys') (sv q ys * sv p' xs') (sv q ys * sv q' ys')
def mulS (P : Int) (p : Bool) (xs : List Int) (q : Bool) (ys : List Int) (p' : Bool) (xs' : List Int) (q' : Bool) (ys' : List Int) : SV :=
  askS P (spanFault2 p xs q ys p' xs' q' ys') (fitS (outZ false (mulLow p xs q ys p' xs' q' ys') P.toNat) (outZ true (mulHigh p xs q ys p' xs' q' ys') P.toNat))
def sqS (P : Int) (p : Bool) (xs : List Int) (q : Bool) (ys : List Int) : SV :=
  askS P (spanFault p xs q ys) (fitS (outZ false (sqLow p xs q ys) P.toNat) (outZ true (sqHigh p xs q ys) P.toNat))
theorem mulS_short (P : Int) (p : Bool) (xs : List Int) (q : Bool) (ys : List Int) (p' : Bool) (xs' : List Int) (q' : Bool) (ys' : List Int) : Short (mulS P p xs q ys p' xs' q' ys') := askS_short (fitS_short _ _)
theorem sqS_short (P : Int) (p : Bool) (xs : List Int) (q : Bool) (ys : List Int) : Short (sqS P p xs q ys) := askS_short (fitS_short _ _)

set_option maxHeartbeats 8000000 in
set_option maxRecDepth 20000 in
theorem sMulSpan_any (P : Int) (p q : Bool) (a b : Option Addr) (n c m d : Nat) (xs ys : List Int) (p' q' : Bool) (a' b' : Option Addr) (n' c' m' d' : Nat) (xs' ys' : List Int) (w : World) (h1 : Sl w a n c xs) (h2 : Sl w b m d ys) (h3 : Sl w a' n' c' xs') (h4 : Sl w b' m' d' ys') :
    Calls Try.prog 17 #[.int .i64 P, .agg #[.bool p, .slice a n c, .bool q, .slice b m d], .agg #[.bool p', .slice a' n' c', .bool q', .slice b' m' d']] w (SpanM w (mulS P p xs q ys p' xs' q' ys')) := by
  have H1 := Lib.hid h1
  have H2 := Lib.hid h2
  have H3 := Lib.hid h3
  have H4 := Lib.hid h4
  clear h1 h2 h3 h4
  have F1 := Lib.hid H1.out.lt
  have F2 := Lib.hid H2.out.lt
  have F3 := Lib.hid H3.out.lt
  have F4 := Lib.hid H4.out.lt
  by_cases hP : isP P = true
  · by_cases hz : spanFault2 p xs q ys p' xs' q' ys' = 0
    · skip
      obtain ⟨t1, ht1⟩ : ∃ t, t = outZ false (mulLow p xs q ys p' xs' q' ys') P.toNat := ⟨_, rfl⟩
      obtain ⟨t2, ht2⟩ : ∃ t, t = outZ true (mulHigh p xs q ys p' xs' q' ys') P.toNat := ⟨_, rfl⟩
      obtain ⟨r, hr⟩ : ∃ r, r = fitS t1 t2 := ⟨_, rfl⟩
      rw [show mulS P p xs q ys p' xs' q' ys' = r from by unfold mulS; rw [askS_ok hP hz, ← ht1, ← ht2, hr]]
      have HZ := Lib.hid (show precS P (spanFault2 p xs q ys p' xs' q' ys') = 0 by unfold precS; rw [if_pos hP]; exact hz)
      obtain ⟨ox, oy⟩ := spanFault2_zero hz
      have OX := Lib.hid ox
      have OY := Lib.hid oy
      have HP := Lib.hid hP
      have HT1 := Lib.hid ht1
      have HT2 := Lib.hid ht2
      have HR := Lib.hid hr
      clear ox oy hz hP ht1 ht2 hr
      go_enter Try.func17, Try.ntmps17
      go_wp2_with fail
      generalize hW : (((w.alloc (.cells #[.bool p, .slice a n c, .bool q, .slice b m d] 30)).alloc (.cells #[.bool p', .slice a' n' c', .bool q', .slice b' m' d'] 30)).alloc (.cells #[.int .i64 0, .bool false, .slice none 0 0, .bool false, .slice none 0 0] 32)) = ww0
      have hkk : Kept [] (((w.alloc (.cells #[.bool p, .slice a n c, .bool q, .slice b m d] 30)).alloc (.cells #[.bool p', .slice a' n' c', .bool q', .slice b' m' d'] 30)).alloc (.cells #[.int .i64 0, .bool false, .slice none 0 0, .bool false, .slice none 0 0] 32)) ww0 := by rw [hW]; exact Kept.refl _ _
      have zzA : w.heap.size + 1 + 1 + 1 = ww0.heap.size := by rw [← hW]; simp
      have nA0 := Lib.hid (hkk.peel.peel.top (g := w.heap.size) (by simp) (by simp) 0 (v := .bool p) rfl).1
      have nA1 := Lib.hid (hkk.peel.peel.top (g := w.heap.size) (by simp) (by simp) 1 (v := .slice a n c) rfl).1
      have nA2 := Lib.hid (hkk.peel.peel.top (g := w.heap.size) (by simp) (by simp) 2 (v := .bool q) rfl).1
      have nA3 := Lib.hid (hkk.peel.peel.top (g := w.heap.size) (by simp) (by simp) 3 (v := .slice b m d) rfl).1
      have nB0 := Lib.hid (hkk.peel.top (g := w.heap.size + 1) (by simp) (by simp) 0 (v := .bool p') rfl).1
      have nB1 := Lib.hid (hkk.peel.top (g := w.heap.size + 1) (by simp) (by simp) 1 (v := .slice a' n' c') rfl).1
      have nB2 := Lib.hid (hkk.peel.top (g := w.heap.size + 1) (by simp) (by simp) 2 (v := .bool q') rfl).1
      have nB3 := Lib.hid (hkk.peel.top (g := w.heap.size + 1) (by simp) (by simp) 3 (v := .slice b' m' d') rfl).1
      have nR0 := Lib.hid (hkk.top (g := w.heap.size + 1 + 1) (by simp) (by simp) 0 (v := .int .i64 0) rfl).1
      have fR0 := Lib.hid (hkk.top (g := w.heap.size + 1 + 1) (by simp) (by simp) 0 (v := .int .i64 0) rfl).2.1
      have nR1 := Lib.hid (hkk.top (g := w.heap.size + 1 + 1) (by simp) (by simp) 1 (v := .bool false) rfl).1
      have fR1 := Lib.hid (hkk.top (g := w.heap.size + 1 + 1) (by simp) (by simp) 1 (v := .bool false) rfl).2.1
      have nR2 := Lib.hid (hkk.top (g := w.heap.size + 1 + 1) (by simp) (by simp) 2 (v := .slice none 0 0) rfl).1
      have fR2 := Lib.hid (hkk.top (g := w.heap.size + 1 + 1) (by simp) (by simp) 2 (v := .slice none 0 0) rfl).2.1
      have nR3 := Lib.hid (hkk.top (g := w.heap.size + 1 + 1) (by simp) (by simp) 3 (v := .bool false) rfl).1
      have fR3 := Lib.hid (hkk.top (g := w.heap.size + 1 + 1) (by simp) (by simp) 3 (v := .bool false) rfl).2.1
      have nR4 := Lib.hid (hkk.top (g := w.heap.size + 1 + 1) (by simp) (by simp) 4 (v := .slice none 0 0) rfl).1
      have fR4 := Lib.hid (hkk.top (g := w.heap.size + 1 + 1) (by simp) (by simp) 4 (v := .slice none 0 0) rfl).2.1
      have hk := hkk.peel.peel.peel
      clear hkk hW
      have z0 := hk.size
      have KT := Lib.hid hk
      clear hk
      replace H1 := Lib.hid (H1.out.kept0 KT.out)
      replace H2 := Lib.hid (H2.out.kept0 KT.out)
      replace H3 := Lib.hid (H3.out.kept0 KT.out)
      replace H4 := Lib.hid (H4.out.kept0 KT.out)
      refine (l3Asked_any P _ _ _ _ _ _ _ _ _ _ _ _ _ _ _ _ _ _ _ _ _ H1.out H2.out H3.out H4.out).mono ?_
      rintro e ww1 ⟨rfl, hk⟩
      rw [HZ.out]
      have z1 := hk.size
      replace fR0 := Lib.hid (hk.free' (p := ⟨w.heap.size + 1 + 1, 0, none⟩) nR0.out fR0.out (by simp))
      replace fR1 := Lib.hid (hk.free' (p := ⟨w.heap.size + 1 + 1, 1, none⟩) nR1.out fR1.out (by simp))
      replace fR2 := Lib.hid (hk.free' (p := ⟨w.heap.size + 1 + 1, 2, none⟩) nR2.out fR2.out (by simp))
      replace fR3 := Lib.hid (hk.free' (p := ⟨w.heap.size + 1 + 1, 3, none⟩) nR3.out fR3.out (by simp))
      replace fR4 := Lib.hid (hk.free' (p := ⟨w.heap.size + 1 + 1, 4, none⟩) nR4.out fR4.out (by simp))
      replace nA0 := Lib.hid (hk.cell (p := ⟨w.heap.size, 0, none⟩) nA0.out (by simp))
      replace nA1 := Lib.hid (hk.cell (p := ⟨w.heap.size, 1, none⟩) nA1.out (by simp))
      replace nA2 := Lib.hid (hk.cell (p := ⟨w.heap.size, 2, none⟩) nA2.out (by simp))
      replace nA3 := Lib.hid (hk.cell (p := ⟨w.heap.size, 3, none⟩) nA3.out (by simp))
      replace nB0 := Lib.hid (hk.cell (p := ⟨w.heap.size + 1, 0, none⟩) nB0.out (by simp))
      replace nB1 := Lib.hid (hk.cell (p := ⟨w.heap.size + 1, 1, none⟩) nB1.out (by simp))
      replace nB2 := Lib.hid (hk.cell (p := ⟨w.heap.size + 1, 2, none⟩) nB2.out (by simp))
      replace nB3 := Lib.hid (hk.cell (p := ⟨w.heap.size + 1, 3, none⟩) nB3.out (by simp))
      replace nR0 := Lib.hid (hk.cell (p := ⟨w.heap.size + 1 + 1, 0, none⟩) nR0.out (by simp))
      replace nR1 := Lib.hid (hk.cell (p := ⟨w.heap.size + 1 + 1, 1, none⟩) nR1.out (by simp))
      replace nR2 := Lib.hid (hk.cell (p := ⟨w.heap.size + 1 + 1, 2, none⟩) nR2.out (by simp))
      replace nR3 := Lib.hid (hk.cell (p := ⟨w.heap.size + 1 + 1, 3, none⟩) nR3.out (by simp))
      replace nR4 := Lib.hid (hk.cell (p := ⟨w.heap.size + 1 + 1, 4, none⟩) nR4.out (by simp))
      replace H1 := Lib.hid (H1.out.kept0 hk)
      replace H2 := Lib.hid (H2.out.kept0 hk)
      replace H3 := Lib.hid (H3.out.kept0 hk)
      replace H4 := Lib.hid (H4.out.kept0 hk)
      replace KT := Lib.hid (KT.out.trans0 hk)
      clear hk
      have tA0 := nA0.out
      have tA1 := nA1.out
      have tA2 := nA2.out
      have tA3 := nA3.out
      have tB0 := nB0.out
      have tB1 := nB1.out
      have tB2 := nB2.out
      have tB3 := nB3.out
      go_wp2_with fail
      clear tA0 tA1 tA2 tA3 tB0 tB1 tB2 tB3
      refine (l3Mul_any P _ _ _ _ _ _ _ _ _ _ _ _ _ _ _ _ _ _ _ _ t1 t2 _ H1.out H2.out H3.out H4.out HP.out OX.out OY.out HT1.out HT2.out).mono ?_
      rintro e ww2 ⟨a1, c1, a2, c2, rfl, hs1, hs2, hf1, hf2, hk⟩
      have z2 := hk.size
      replace fR0 := Lib.hid (hk.free' (p := ⟨w.heap.size + 1 + 1, 0, none⟩) nR0.out fR0.out (by simp))
      replace fR1 := Lib.hid (hk.free' (p := ⟨w.heap.size + 1 + 1, 1, none⟩) nR1.out fR1.out (by simp))
      replace fR2 := Lib.hid (hk.free' (p := ⟨w.heap.size + 1 + 1, 2, none⟩) nR2.out fR2.out (by simp))
      replace fR3 := Lib.hid (hk.free' (p := ⟨w.heap.size + 1 + 1, 3, none⟩) nR3.out fR3.out (by simp))
      replace fR4 := Lib.hid (hk.free' (p := ⟨w.heap.size + 1 + 1, 4, none⟩) nR4.out fR4.out (by simp))
      replace nA0 := Lib.hid (hk.cell (p := ⟨w.heap.size, 0, none⟩) nA0.out (by simp))
      replace nA1 := Lib.hid (hk.cell (p := ⟨w.heap.size, 1, none⟩) nA1.out (by simp))
      replace nA2 := Lib.hid (hk.cell (p := ⟨w.heap.size, 2, none⟩) nA2.out (by simp))
      replace nA3 := Lib.hid (hk.cell (p := ⟨w.heap.size, 3, none⟩) nA3.out (by simp))
      replace nB0 := Lib.hid (hk.cell (p := ⟨w.heap.size + 1, 0, none⟩) nB0.out (by simp))
      replace nB1 := Lib.hid (hk.cell (p := ⟨w.heap.size + 1, 1, none⟩) nB1.out (by simp))
      replace nB2 := Lib.hid (hk.cell (p := ⟨w.heap.size + 1, 2, none⟩) nB2.out (by simp))
      replace nB3 := Lib.hid (hk.cell (p := ⟨w.heap.size + 1, 3, none⟩) nB3.out (by simp))
      replace nR0 := Lib.hid (hk.cell (p := ⟨w.heap.size + 1 + 1, 0, none⟩) nR0.out (by simp))
      replace nR1 := Lib.hid (hk.cell (p := ⟨w.heap.size + 1 + 1, 1, none⟩) nR1.out (by simp))
      replace nR2 := Lib.hid (hk.cell (p := ⟨w.heap.size + 1 + 1, 2, none⟩) nR2.out (by simp))
      replace nR3 := Lib.hid (hk.cell (p := ⟨w.heap.size + 1 + 1, 3, none⟩) nR3.out (by simp))
      replace nR4 := Lib.hid (hk.cell (p := ⟨w.heap.size + 1 + 1, 4, none⟩) nR4.out (by simp))
      replace H1 := Lib.hid (H1.out.kept0 hk)
      replace H2 := Lib.hid (H2.out.kept0 hk)
      replace H3 := Lib.hid (H3.out.kept0 hk)
      replace H4 := Lib.hid (H4.out.kept0 hk)
      replace KT := Lib.hid (KT.out.trans0 hk)
      clear hk
      have hs1 := Lib.hid hs1
      have hs2 := Lib.hid hs2
      have G1 := Lib.hid hf1
      have G2 := Lib.hid hf2
      clear hf1 hf2
      go_wp2_with fail
      refine (l3Whole_any _ _ _ _ _ _ _ _ _ hs1.out hs2.out).mono ?_
      rintro e ww3 ⟨a3, c3, b3, d3, rfl, hs3, hs4, he3, he4, hk⟩
      have g3 := fr_of_fitS G1.out he3
      have g4 := fr_of_fitS' G2.out he4
      rw [← HR.out] at hs3 hs4 g3 g4 ⊢
      clear he3 he4
      have z3 := hk.size
      replace fR0 := Lib.hid (hk.free' (p := ⟨w.heap.size + 1 + 1, 0, none⟩) nR0.out fR0.out (by simp))
      replace fR1 := Lib.hid (hk.free' (p := ⟨w.heap.size + 1 + 1, 1, none⟩) nR1.out fR1.out (by simp))
      replace fR2 := Lib.hid (hk.free' (p := ⟨w.heap.size + 1 + 1, 2, none⟩) nR2.out fR2.out (by simp))
      replace fR3 := Lib.hid (hk.free' (p := ⟨w.heap.size + 1 + 1, 3, none⟩) nR3.out fR3.out (by simp))
      replace fR4 := Lib.hid (hk.free' (p := ⟨w.heap.size + 1 + 1, 4, none⟩) nR4.out fR4.out (by simp))
      replace nA0 := Lib.hid (hk.cell (p := ⟨w.heap.size, 0, none⟩) nA0.out (by simp))
      replace nA1 := Lib.hid (hk.cell (p := ⟨w.heap.size, 1, none⟩) nA1.out (by simp))
      replace nA2 := Lib.hid (hk.cell (p := ⟨w.heap.size, 2, none⟩) nA2.out (by simp))
      replace nA3 := Lib.hid (hk.cell (p := ⟨w.heap.size, 3, none⟩) nA3.out (by simp))
      replace nB0 := Lib.hid (hk.cell (p := ⟨w.heap.size + 1, 0, none⟩) nB0.out (by simp))
      replace nB1 := Lib.hid (hk.cell (p := ⟨w.heap.size + 1, 1, none⟩) nB1.out (by simp))
      replace nB2 := Lib.hid (hk.cell (p := ⟨w.heap.size + 1, 2, none⟩) nB2.out (by simp))
      replace nB3 := Lib.hid (hk.cell (p := ⟨w.heap.size + 1, 3, none⟩) nB3.out (by simp))
      replace nR0 := Lib.hid (hk.cell (p := ⟨w.heap.size + 1 + 1, 0, none⟩) nR0.out (by simp))
      replace nR1 := Lib.hid (hk.cell (p := ⟨w.heap.size + 1 + 1, 1, none⟩) nR1.out (by simp))
      replace nR2 := Lib.hid (hk.cell (p := ⟨w.heap.size + 1 + 1, 2, none⟩) nR2.out (by simp))
      replace nR3 := Lib.hid (hk.cell (p := ⟨w.heap.size + 1 + 1, 3, none⟩) nR3.out (by simp))
      replace nR4 := Lib.hid (hk.cell (p := ⟨w.heap.size + 1 + 1, 4, none⟩) nR4.out (by simp))
      replace H1 := Lib.hid (H1.out.kept0 hk)
      replace H2 := Lib.hid (H2.out.kept0 hk)
      replace H3 := Lib.hid (H3.out.kept0 hk)
      replace H4 := Lib.hid (H4.out.kept0 hk)
      replace hs1 := Lib.hid (hs1.out.kept0 hk)
      replace hs2 := Lib.hid (hs2.out.kept0 hk)
      replace KT := Lib.hid (KT.out.trans0 hk)
      clear hk
      have hs3 := Lib.hid hs3
      have hs4 := Lib.hid hs4
      have G3 := Lib.hid (g3.mono (B' := w.heap.size + 1 + 1 + 1) (by omega))
      have G4 := Lib.hid (g4.mono (B' := w.heap.size + 1 + 1 + 1) (by omega))
      clear g3 g4
      clear hs1 hs2
      have tR0 := nR0.out
      have tR1 := nR1.out
      have tR2 := nR2.out
      have tR3 := nR3.out
      have tR4 := nR4.out
      have uR0 := fR0.out
      have uR1 := fR1.out
      have uR2 := fR2.out
      have uR3 := fR3.out
      have uR4 := fR4.out
      go_wp2_with fail
      clear tR0 tR1 tR2 tR3 tR4 uR0 uR1 uR2 uR3 uR4
      generalize hW : (((((ww3.setCell ⟨w.heap.size + 1 + 1, 0, none⟩ (.int .i64 r.code)).setCell ⟨w.heap.size + 1 + 1, 1, none⟩ (.bool (isNeg r.lo))).setCell ⟨w.heap.size + 1 + 1, 2, none⟩ (.slice a3 (mag r.lo).length c3)).setCell ⟨w.heap.size + 1 + 1, 3, none⟩ (.bool (isNeg r.hi))).setCell ⟨w.heap.size + 1 + 1, 4, none⟩ (.slice b3 (mag r.hi).length d3)) = ww4
      have hk : Kept [w.heap.size + 1 + 1] ww3 ww4 := by rw [← hW]; exact (((((Kept.refl _ _).setCell _ _ (by simp)).setCell _ _ (by simp)).setCell _ _ (by simp)).setCell _ _ (by simp)).setCell _ _ (by simp)
      have hfz : ∀ x, ww4.frozen? x = ww3.frozen? x := by rw [← hW]; intro x; simp only [World.frozen?_setCell]
      have e0 : ww4.cell? ⟨w.heap.size + 1 + 1, 0, none⟩ = some (.int .i64 r.code) := by rw [← hW]; rw [World.cell?_setCell_other _ _ _ _ (by simp), World.cell?_setCell_other _ _ _ _ (by simp), World.cell?_setCell_other _ _ _ _ (by simp), World.cell?_setCell_other _ _ _ _ (by simp)]; exact World.cell?_setCell_same _ _ _ (by exact nR0.out)
      have e1 : ww4.cell? ⟨w.heap.size + 1 + 1, 1, none⟩ = some (.bool (isNeg r.lo)) := by rw [← hW]; rw [World.cell?_setCell_other _ _ _ _ (by simp), World.cell?_setCell_other _ _ _ _ (by simp), World.cell?_setCell_other _ _ _ _ (by simp)]; exact World.cell?_setCell_same _ _ _ (by rw [World.cell?_setCell_other _ _ _ _ (by simp)]; exact nR1.out)
      have e2 : ww4.cell? ⟨w.heap.size + 1 + 1, 2, none⟩ = some (.slice a3 (mag r.lo).length c3) := by rw [← hW]; rw [World.cell?_setCell_other _ _ _ _ (by simp), World.cell?_setCell_other _ _ _ _ (by simp)]; exact World.cell?_setCell_same _ _ _ (by rw [World.cell?_setCell_other _ _ _ _ (by simp), World.cell?_setCell_other _ _ _ _ (by simp)]; exact nR2.out)
      have e3 : ww4.cell? ⟨w.heap.size + 1 + 1, 3, none⟩ = some (.bool (isNeg r.hi)) := by rw [← hW]; rw [World.cell?_setCell_other _ _ _ _ (by simp)]; exact World.cell?_setCell_same _ _ _ (by rw [World.cell?_setCell_other _ _ _ _ (by simp), World.cell?_setCell_other _ _ _ _ (by simp), World.cell?_setCell_other _ _ _ _ (by simp)]; exact nR3.out)
      have e4 : ww4.cell? ⟨w.heap.size + 1 + 1, 4, none⟩ = some (.slice b3 (mag r.hi).length d3) := by rw [← hW]; exact World.cell?_setCell_same _ _ _ (by rw [World.cell?_setCell_other _ _ _ _ (by simp), World.cell?_setCell_other _ _ _ _ (by simp), World.cell?_setCell_other _ _ _ _ (by simp), World.cell?_setCell_other _ _ _ _ (by simp)]; exact nR4.out)
      have z4 := hk.size
      replace fR0 := Lib.hid (show ww4.frozen? ⟨w.heap.size + 1 + 1, 0, none⟩ = false by rw [hfz]; exact fR0.out)
      replace fR1 := Lib.hid (show ww4.frozen? ⟨w.heap.size + 1 + 1, 1, none⟩ = false by rw [hfz]; exact fR1.out)
      replace fR2 := Lib.hid (show ww4.frozen? ⟨w.heap.size + 1 + 1, 2, none⟩ = false by rw [hfz]; exact fR2.out)
      replace fR3 := Lib.hid (show ww4.frozen? ⟨w.heap.size + 1 + 1, 3, none⟩ = false by rw [hfz]; exact fR3.out)
      replace fR4 := Lib.hid (show ww4.frozen? ⟨w.heap.size + 1 + 1, 4, none⟩ = false by rw [hfz]; exact fR4.out)
      replace nA0 := Lib.hid (hk.cell (p := ⟨w.heap.size, 0, none⟩) nA0.out (by simp <;> omega))
      replace nA1 := Lib.hid (hk.cell (p := ⟨w.heap.size, 1, none⟩) nA1.out (by simp <;> omega))
      replace nA2 := Lib.hid (hk.cell (p := ⟨w.heap.size, 2, none⟩) nA2.out (by simp <;> omega))
      replace nA3 := Lib.hid (hk.cell (p := ⟨w.heap.size, 3, none⟩) nA3.out (by simp <;> omega))
      replace nB0 := Lib.hid (hk.cell (p := ⟨w.heap.size + 1, 0, none⟩) nB0.out (by simp <;> omega))
      replace nB1 := Lib.hid (hk.cell (p := ⟨w.heap.size + 1, 1, none⟩) nB1.out (by simp <;> omega))
      replace nB2 := Lib.hid (hk.cell (p := ⟨w.heap.size + 1, 2, none⟩) nB2.out (by simp <;> omega))
      replace nB3 := Lib.hid (hk.cell (p := ⟨w.heap.size + 1, 3, none⟩) nB3.out (by simp <;> omega))
      replace H1 := Lib.hid (H1.out.kept hk (fun hn y hy hm => by have h9 := F1.out hn y hy; simp at hm; omega))
      replace H2 := Lib.hid (H2.out.kept hk (fun hn y hy hm => by have h9 := F2.out hn y hy; simp at hm; omega))
      replace H3 := Lib.hid (H3.out.kept hk (fun hn y hy hm => by have h9 := F3.out hn y hy; simp at hm; omega))
      replace H4 := Lib.hid (H4.out.kept hk (fun hn y hy hm => by have h9 := F4.out hn y hy; simp at hm; omega))
      replace hs3 := Lib.hid (hs3.out.kept hk (fun hn y hy hm => by have h9 := G3.out hn y hy; simp at hm; omega))
      replace hs4 := Lib.hid (hs4.out.kept hk (fun hn y hy hm => by have h9 := G4.out hn y hy; simp at hm; omega))
      replace nR0 := Lib.hid e0
      replace nR1 := Lib.hid e1
      replace nR2 := Lib.hid e2
      replace nR3 := Lib.hid e3
      replace nR4 := Lib.hid e4
      replace KT := Lib.hid (KT.out.trans hk (fun x hx hlt => by simp at hx; omega))
      clear hk hfz hW e0 e1 e2 e3 e4
      have e0 := nR0.out
      have e1 := nR1.out
      have e2 := nR2.out
      have e3 := nR3.out
      have e4 := nR4.out
      refine bodyPost_ret (v := .agg #[.int .i64 r.code, .bool (isNeg r.lo), .slice a3 (mag r.lo).length c3, .bool (isNeg r.hi), .slice b3 (mag r.hi).length d3]) (by simp [results, Try.results17, go_sem, e0, e1, e2, e3, e4]) rfl ?_
      exact ⟨a3, c3, b3, d3, rfl, hs3.out, hs4.out, G3.out.mono (by omega), G4.out.mono (by omega), KT.out⟩
    · skip
      rw [show mulS P p xs q ys p' xs' q' ys' = noSpan (spanFault2 p xs q ys p' xs' q' ys') from askS_bad hP hz]
      obtain ⟨f, hf⟩ : ∃ f, f = spanFault2 p xs q ys p' xs' q' ys' := ⟨_, rfl⟩
      have HZ := Lib.hid (show precS P (spanFault2 p xs q ys p' xs' q' ys') = f by unfold precS; rw [if_pos hP]; exact hf.symm)
      rw [← hf]
      have hne : (f == 0) = false := by rw [beq_eq_false_iff_ne, hf]; exact hz
      clear hf hz hP
      go_enter Try.func17, Try.ntmps17
      go_wp2_with fail
      generalize hW : (((w.alloc (.cells #[.bool p, .slice a n c, .bool q, .slice b m d] 30)).alloc (.cells #[.bool p', .slice a' n' c', .bool q', .slice b' m' d'] 30)).alloc (.cells #[.int .i64 0, .bool false, .slice none 0 0, .bool false, .slice none 0 0] 32)) = ww0
      have hkk : Kept [] (((w.alloc (.cells #[.bool p, .slice a n c, .bool q, .slice b m d] 30)).alloc (.cells #[.bool p', .slice a' n' c', .bool q', .slice b' m' d'] 30)).alloc (.cells #[.int .i64 0, .bool false, .slice none 0 0, .bool false, .slice none 0 0] 32)) ww0 := by rw [hW]; exact Kept.refl _ _
      have zzA : w.heap.size + 1 + 1 + 1 = ww0.heap.size := by rw [← hW]; simp
      have nA0 := Lib.hid (hkk.peel.peel.top (g := w.heap.size) (by simp) (by simp) 0 (v := .bool p) rfl).1
      have nA1 := Lib.hid (hkk.peel.peel.top (g := w.heap.size) (by simp) (by simp) 1 (v := .slice a n c) rfl).1
      have nA2 := Lib.hid (hkk.peel.peel.top (g := w.heap.size) (by simp) (by simp) 2 (v := .bool q) rfl).1
      have nA3 := Lib.hid (hkk.peel.peel.top (g := w.heap.size) (by simp) (by simp) 3 (v := .slice b m d) rfl).1
      have nB0 := Lib.hid (hkk.peel.top (g := w.heap.size + 1) (by simp) (by simp) 0 (v := .bool p') rfl).1
      have nB1 := Lib.hid (hkk.peel.top (g := w.heap.size + 1) (by simp) (by simp) 1 (v := .slice a' n' c') rfl).1
      have nB2 := Lib.hid (hkk.peel.top (g := w.heap.size + 1) (by simp) (by simp) 2 (v := .bool q') rfl).1
      have nB3 := Lib.hid (hkk.peel.top (g := w.heap.size + 1) (by simp) (by simp) 3 (v := .slice b' m' d') rfl).1
      have nR0 := Lib.hid (hkk.top (g := w.heap.size + 1 + 1) (by simp) (by simp) 0 (v := .int .i64 0) rfl).1
      have fR0 := Lib.hid (hkk.top (g := w.heap.size + 1 + 1) (by simp) (by simp) 0 (v := .int .i64 0) rfl).2.1
      have nR1 := Lib.hid (hkk.top (g := w.heap.size + 1 + 1) (by simp) (by simp) 1 (v := .bool false) rfl).1
      have fR1 := Lib.hid (hkk.top (g := w.heap.size + 1 + 1) (by simp) (by simp) 1 (v := .bool false) rfl).2.1
      have nR2 := Lib.hid (hkk.top (g := w.heap.size + 1 + 1) (by simp) (by simp) 2 (v := .slice none 0 0) rfl).1
      have fR2 := Lib.hid (hkk.top (g := w.heap.size + 1 + 1) (by simp) (by simp) 2 (v := .slice none 0 0) rfl).2.1
      have nR3 := Lib.hid (hkk.top (g := w.heap.size + 1 + 1) (by simp) (by simp) 3 (v := .bool false) rfl).1
      have fR3 := Lib.hid (hkk.top (g := w.heap.size + 1 + 1) (by simp) (by simp) 3 (v := .bool false) rfl).2.1
      have nR4 := Lib.hid (hkk.top (g := w.heap.size + 1 + 1) (by simp) (by simp) 4 (v := .slice none 0 0) rfl).1
      have fR4 := Lib.hid (hkk.top (g := w.heap.size + 1 + 1) (by simp) (by simp) 4 (v := .slice none 0 0) rfl).2.1
      have hk := hkk.peel.peel.peel
      clear hkk hW
      have z0 := hk.size
      have KT := Lib.hid hk
      clear hk
      replace H1 := Lib.hid (H1.out.kept0 KT.out)
      replace H2 := Lib.hid (H2.out.kept0 KT.out)
      replace H3 := Lib.hid (H3.out.kept0 KT.out)
      replace H4 := Lib.hid (H4.out.kept0 KT.out)
      refine (l3Asked_any P _ _ _ _ _ _ _ _ _ _ _ _ _ _ _ _ _ _ _ _ _ H1.out H2.out H3.out H4.out).mono ?_
      rintro e ww1 ⟨rfl, hk⟩
      rw [HZ.out]
      have z1 := hk.size
      replace fR0 := Lib.hid (hk.free' (p := ⟨w.heap.size + 1 + 1, 0, none⟩) nR0.out fR0.out (by simp))
      replace fR1 := Lib.hid (hk.free' (p := ⟨w.heap.size + 1 + 1, 1, none⟩) nR1.out fR1.out (by simp))
      replace fR2 := Lib.hid (hk.free' (p := ⟨w.heap.size + 1 + 1, 2, none⟩) nR2.out fR2.out (by simp))
      replace fR3 := Lib.hid (hk.free' (p := ⟨w.heap.size + 1 + 1, 3, none⟩) nR3.out fR3.out (by simp))
      replace fR4 := Lib.hid (hk.free' (p := ⟨w.heap.size + 1 + 1, 4, none⟩) nR4.out fR4.out (by simp))
      replace nA0 := Lib.hid (hk.cell (p := ⟨w.heap.size, 0, none⟩) nA0.out (by simp))
      replace nA1 := Lib.hid (hk.cell (p := ⟨w.heap.size, 1, none⟩) nA1.out (by simp))
      replace nA2 := Lib.hid (hk.cell (p := ⟨w.heap.size, 2, none⟩) nA2.out (by simp))
      replace nA3 := Lib.hid (hk.cell (p := ⟨w.heap.size, 3, none⟩) nA3.out (by simp))
      replace nB0 := Lib.hid (hk.cell (p := ⟨w.heap.size + 1, 0, none⟩) nB0.out (by simp))
      replace nB1 := Lib.hid (hk.cell (p := ⟨w.heap.size + 1, 1, none⟩) nB1.out (by simp))
      replace nB2 := Lib.hid (hk.cell (p := ⟨w.heap.size + 1, 2, none⟩) nB2.out (by simp))
      replace nB3 := Lib.hid (hk.cell (p := ⟨w.heap.size + 1, 3, none⟩) nB3.out (by simp))
      replace nR0 := Lib.hid (hk.cell (p := ⟨w.heap.size + 1 + 1, 0, none⟩) nR0.out (by simp))
      replace nR1 := Lib.hid (hk.cell (p := ⟨w.heap.size + 1 + 1, 1, none⟩) nR1.out (by simp))
      replace nR2 := Lib.hid (hk.cell (p := ⟨w.heap.size + 1 + 1, 2, none⟩) nR2.out (by simp))
      replace nR3 := Lib.hid (hk.cell (p := ⟨w.heap.size + 1 + 1, 3, none⟩) nR3.out (by simp))
      replace nR4 := Lib.hid (hk.cell (p := ⟨w.heap.size + 1 + 1, 4, none⟩) nR4.out (by simp))
      replace H1 := Lib.hid (H1.out.kept0 hk)
      replace H2 := Lib.hid (H2.out.kept0 hk)
      replace H3 := Lib.hid (H3.out.kept0 hk)
      replace H4 := Lib.hid (H4.out.kept0 hk)
      replace KT := Lib.hid (KT.out.trans0 hk)
      clear hk
      have tA0 := nA0.out
      have tA1 := nA1.out
      have tA2 := nA2.out
      have tA3 := nA3.out
      have tB0 := nB0.out
      have tB1 := nB1.out
      have tB2 := nB2.out
      have tB3 := nB3.out
      have tR0 := nR0.out
      have tR1 := nR1.out
      have tR2 := nR2.out
      have tR3 := nR3.out
      have tR4 := nR4.out
      have uR0 := fR0.out
      have uR1 := fR1.out
      have uR2 := fR2.out
      have uR3 := fR3.out
      have uR4 := fR4.out
      go_wp2_with fail
      clear tA0 tA1 tA2 tA3 tB0 tB1 tB2 tB3 tR0 tR1 tR2 tR3 tR4 uR0 uR1 uR2 uR3 uR4
      generalize hW : (((((ww1.setCell ⟨w.heap.size + 1 + 1, 0, none⟩ (.int .i64 f)).setCell ⟨w.heap.size + 1 + 1, 1, none⟩ (.bool false)).setCell ⟨w.heap.size + 1 + 1, 2, none⟩ (.slice none 0 0)).setCell ⟨w.heap.size + 1 + 1, 3, none⟩ (.bool false)).setCell ⟨w.heap.size + 1 + 1, 4, none⟩ (.slice none 0 0)) = ww2
      have hk : Kept [w.heap.size + 1 + 1] ww1 ww2 := by rw [← hW]; exact (((((Kept.refl _ _).setCell _ _ (by simp)).setCell _ _ (by simp)).setCell _ _ (by simp)).setCell _ _ (by simp)).setCell _ _ (by simp)
      have hfz : ∀ x, ww2.frozen? x = ww1.frozen? x := by rw [← hW]; intro x; simp only [World.frozen?_setCell]
      have e0 : ww2.cell? ⟨w.heap.size + 1 + 1, 0, none⟩ = some (.int .i64 f) := by rw [← hW]; rw [World.cell?_setCell_other _ _ _ _ (by simp), World.cell?_setCell_other _ _ _ _ (by simp), World.cell?_setCell_other _ _ _ _ (by simp), World.cell?_setCell_other _ _ _ _ (by simp)]; exact World.cell?_setCell_same _ _ _ (by exact nR0.out)
      have e1 : ww2.cell? ⟨w.heap.size + 1 + 1, 1, none⟩ = some (.bool false) := by rw [← hW]; rw [World.cell?_setCell_other _ _ _ _ (by simp), World.cell?_setCell_other _ _ _ _ (by simp), World.cell?_setCell_other _ _ _ _ (by simp)]; exact World.cell?_setCell_same _ _ _ (by rw [World.cell?_setCell_other _ _ _ _ (by simp)]; exact nR1.out)
      have e2 : ww2.cell? ⟨w.heap.size + 1 + 1, 2, none⟩ = some (.slice none 0 0) := by rw [← hW]; rw [World.cell?_setCell_other _ _ _ _ (by simp), World.cell?_setCell_other _ _ _ _ (by simp)]; exact World.cell?_setCell_same _ _ _ (by rw [World.cell?_setCell_other _ _ _ _ (by simp), World.cell?_setCell_other _ _ _ _ (by simp)]; exact nR2.out)
      have e3 : ww2.cell? ⟨w.heap.size + 1 + 1, 3, none⟩ = some (.bool false) := by rw [← hW]; rw [World.cell?_setCell_other _ _ _ _ (by simp)]; exact World.cell?_setCell_same _ _ _ (by rw [World.cell?_setCell_other _ _ _ _ (by simp), World.cell?_setCell_other _ _ _ _ (by simp), World.cell?_setCell_other _ _ _ _ (by simp)]; exact nR3.out)
      have e4 : ww2.cell? ⟨w.heap.size + 1 + 1, 4, none⟩ = some (.slice none 0 0) := by rw [← hW]; exact World.cell?_setCell_same _ _ _ (by rw [World.cell?_setCell_other _ _ _ _ (by simp), World.cell?_setCell_other _ _ _ _ (by simp), World.cell?_setCell_other _ _ _ _ (by simp), World.cell?_setCell_other _ _ _ _ (by simp)]; exact nR4.out)
      have z2 := hk.size
      replace fR0 := Lib.hid (show ww2.frozen? ⟨w.heap.size + 1 + 1, 0, none⟩ = false by rw [hfz]; exact fR0.out)
      replace fR1 := Lib.hid (show ww2.frozen? ⟨w.heap.size + 1 + 1, 1, none⟩ = false by rw [hfz]; exact fR1.out)
      replace fR2 := Lib.hid (show ww2.frozen? ⟨w.heap.size + 1 + 1, 2, none⟩ = false by rw [hfz]; exact fR2.out)
      replace fR3 := Lib.hid (show ww2.frozen? ⟨w.heap.size + 1 + 1, 3, none⟩ = false by rw [hfz]; exact fR3.out)
      replace fR4 := Lib.hid (show ww2.frozen? ⟨w.heap.size + 1 + 1, 4, none⟩ = false by rw [hfz]; exact fR4.out)
      replace nA0 := Lib.hid (hk.cell (p := ⟨w.heap.size, 0, none⟩) nA0.out (by simp <;> omega))
      replace nA1 := Lib.hid (hk.cell (p := ⟨w.heap.size, 1, none⟩) nA1.out (by simp <;> omega))
      replace nA2 := Lib.hid (hk.cell (p := ⟨w.heap.size, 2, none⟩) nA2.out (by simp <;> omega))
      replace nA3 := Lib.hid (hk.cell (p := ⟨w.heap.size, 3, none⟩) nA3.out (by simp <;> omega))
      replace nB0 := Lib.hid (hk.cell (p := ⟨w.heap.size + 1, 0, none⟩) nB0.out (by simp <;> omega))
      replace nB1 := Lib.hid (hk.cell (p := ⟨w.heap.size + 1, 1, none⟩) nB1.out (by simp <;> omega))
      replace nB2 := Lib.hid (hk.cell (p := ⟨w.heap.size + 1, 2, none⟩) nB2.out (by simp <;> omega))
      replace nB3 := Lib.hid (hk.cell (p := ⟨w.heap.size + 1, 3, none⟩) nB3.out (by simp <;> omega))
      replace H1 := Lib.hid (H1.out.kept hk (fun hn y hy hm => by have h9 := F1.out hn y hy; simp at hm; omega))
      replace H2 := Lib.hid (H2.out.kept hk (fun hn y hy hm => by have h9 := F2.out hn y hy; simp at hm; omega))
      replace H3 := Lib.hid (H3.out.kept hk (fun hn y hy hm => by have h9 := F3.out hn y hy; simp at hm; omega))
      replace H4 := Lib.hid (H4.out.kept hk (fun hn y hy hm => by have h9 := F4.out hn y hy; simp at hm; omega))
      replace nR0 := Lib.hid e0
      replace nR1 := Lib.hid e1
      replace nR2 := Lib.hid e2
      replace nR3 := Lib.hid e3
      replace nR4 := Lib.hid e4
      replace KT := Lib.hid (KT.out.trans hk (fun x hx hlt => by simp at hx; omega))
      clear hk hfz hW e0 e1 e2 e3 e4
      have e0 := nR0.out
      have e1 := nR1.out
      have e2 := nR2.out
      have e3 := nR3.out
      have e4 := nR4.out
      refine bodyPost_ret (v := .agg #[.int .i64 f, .bool false, .slice none 0 0, .bool false, .slice none 0 0]) (by simp [results, Try.results17, go_sem, e0, e1, e2, e3, e4]) rfl ?_
      exact spanM_no KT.out
  · skip
    rw [show mulS P p xs q ys p' xs' q' ys' = noSpan 3 from askS_no hP]
    have HZ := Lib.hid (show precS P (spanFault2 p xs q ys p' xs' q' ys') = 3 from if_neg hP)
    clear hP
    go_enter Try.func17, Try.ntmps17
    go_wp2_with fail
    generalize hW : (((w.alloc (.cells #[.bool p, .slice a n c, .bool q, .slice b m d] 30)).alloc (.cells #[.bool p', .slice a' n' c', .bool q', .slice b' m' d'] 30)).alloc (.cells #[.int .i64 0, .bool false, .slice none 0 0, .bool false, .slice none 0 0] 32)) = ww0
    have hkk : Kept [] (((w.alloc (.cells #[.bool p, .slice a n c, .bool q, .slice b m d] 30)).alloc (.cells #[.bool p', .slice a' n' c', .bool q', .slice b' m' d'] 30)).alloc (.cells #[.int .i64 0, .bool false, .slice none 0 0, .bool false, .slice none 0 0] 32)) ww0 := by rw [hW]; exact Kept.refl _ _
    have zzA : w.heap.size + 1 + 1 + 1 = ww0.heap.size := by rw [← hW]; simp
    have nA0 := Lib.hid (hkk.peel.peel.top (g := w.heap.size) (by simp) (by simp) 0 (v := .bool p) rfl).1
    have nA1 := Lib.hid (hkk.peel.peel.top (g := w.heap.size) (by simp) (by simp) 1 (v := .slice a n c) rfl).1
    have nA2 := Lib.hid (hkk.peel.peel.top (g := w.heap.size) (by simp) (by simp) 2 (v := .bool q) rfl).1
    have nA3 := Lib.hid (hkk.peel.peel.top (g := w.heap.size) (by simp) (by simp) 3 (v := .slice b m d) rfl).1
    have nB0 := Lib.hid (hkk.peel.top (g := w.heap.size + 1) (by simp) (by simp) 0 (v := .bool p') rfl).1
    have nB1 := Lib.hid (hkk.peel.top (g := w.heap.size + 1) (by simp) (by simp) 1 (v := .slice a' n' c') rfl).1
    have nB2 := Lib.hid (hkk.peel.top (g := w.heap.size + 1) (by simp) (by simp) 2 (v := .bool q') rfl).1
    have nB3 := Lib.hid (hkk.peel.top (g := w.heap.size + 1) (by simp) (by simp) 3 (v := .slice b' m' d') rfl).1
    have nR0 := Lib.hid (hkk.top (g := w.heap.size + 1 + 1) (by simp) (by simp) 0 (v := .int .i64 0) rfl).1
    have fR0 := Lib.hid (hkk.top (g := w.heap.size + 1 + 1) (by simp) (by simp) 0 (v := .int .i64 0) rfl).2.1
    have nR1 := Lib.hid (hkk.top (g := w.heap.size + 1 + 1) (by simp) (by simp) 1 (v := .bool false) rfl).1
    have fR1 := Lib.hid (hkk.top (g := w.heap.size + 1 + 1) (by simp) (by simp) 1 (v := .bool false) rfl).2.1
    have nR2 := Lib.hid (hkk.top (g := w.heap.size + 1 + 1) (by simp) (by simp) 2 (v := .slice none 0 0) rfl).1
    have fR2 := Lib.hid (hkk.top (g := w.heap.size + 1 + 1) (by simp) (by simp) 2 (v := .slice none 0 0) rfl).2.1
    have nR3 := Lib.hid (hkk.top (g := w.heap.size + 1 + 1) (by simp) (by simp) 3 (v := .bool false) rfl).1
    have fR3 := Lib.hid (hkk.top (g := w.heap.size + 1 + 1) (by simp) (by simp) 3 (v := .bool false) rfl).2.1
    have nR4 := Lib.hid (hkk.top (g := w.heap.size + 1 + 1) (by simp) (by simp) 4 (v := .slice none 0 0) rfl).1
    have fR4 := Lib.hid (hkk.top (g := w.heap.size + 1 + 1) (by simp) (by simp) 4 (v := .slice none 0 0) rfl).2.1
    have hk := hkk.peel.peel.peel
    clear hkk hW
    have z0 := hk.size
    have KT := Lib.hid hk
    clear hk
    replace H1 := Lib.hid (H1.out.kept0 KT.out)
    replace H2 := Lib.hid (H2.out.kept0 KT.out)
    replace H3 := Lib.hid (H3.out.kept0 KT.out)
    replace H4 := Lib.hid (H4.out.kept0 KT.out)
    refine (l3Asked_any P _ _ _ _ _ _ _ _ _ _ _ _ _ _ _ _ _ _ _ _ _ H1.out H2.out H3.out H4.out).mono ?_
    rintro e ww1 ⟨rfl, hk⟩
    rw [HZ.out]
    have z1 := hk.size
    replace fR0 := Lib.hid (hk.free' (p := ⟨w.heap.size + 1 + 1, 0, none⟩) nR0.out fR0.out (by simp))
    replace fR1 := Lib.hid (hk.free' (p := ⟨w.heap.size + 1 + 1, 1, none⟩) nR1.out fR1.out (by simp))
    replace fR2 := Lib.hid (hk.free' (p := ⟨w.heap.size + 1 + 1, 2, none⟩) nR2.out fR2.out (by simp))
    replace fR3 := Lib.hid (hk.free' (p := ⟨w.heap.size + 1 + 1, 3, none⟩) nR3.out fR3.out (by simp))
    replace fR4 := Lib.hid (hk.free' (p := ⟨w.heap.size + 1 + 1, 4, none⟩) nR4.out fR4.out (by simp))
    replace nA0 := Lib.hid (hk.cell (p := ⟨w.heap.size, 0, none⟩) nA0.out (by simp))
    replace nA1 := Lib.hid (hk.cell (p := ⟨w.heap.size, 1, none⟩) nA1.out (by simp))
    replace nA2 := Lib.hid (hk.cell (p := ⟨w.heap.size, 2, none⟩) nA2.out (by simp))
    replace nA3 := Lib.hid (hk.cell (p := ⟨w.heap.size, 3, none⟩) nA3.out (by simp))
    replace nB0 := Lib.hid (hk.cell (p := ⟨w.heap.size + 1, 0, none⟩) nB0.out (by simp))
    replace nB1 := Lib.hid (hk.cell (p := ⟨w.heap.size + 1, 1, none⟩) nB1.out (by simp))
    replace nB2 := Lib.hid (hk.cell (p := ⟨w.heap.size + 1, 2, none⟩) nB2.out (by simp))
    replace nB3 := Lib.hid (hk.cell (p := ⟨w.heap.size + 1, 3, none⟩) nB3.out (by simp))
    replace nR0 := Lib.hid (hk.cell (p := ⟨w.heap.size + 1 + 1, 0, none⟩) nR0.out (by simp))
    replace nR1 := Lib.hid (hk.cell (p := ⟨w.heap.size + 1 + 1, 1, none⟩) nR1.out (by simp))
    replace nR2 := Lib.hid (hk.cell (p := ⟨w.heap.size + 1 + 1, 2, none⟩) nR2.out (by simp))
    replace nR3 := Lib.hid (hk.cell (p := ⟨w.heap.size + 1 + 1, 3, none⟩) nR3.out (by simp))
    replace nR4 := Lib.hid (hk.cell (p := ⟨w.heap.size + 1 + 1, 4, none⟩) nR4.out (by simp))
    replace H1 := Lib.hid (H1.out.kept0 hk)
    replace H2 := Lib.hid (H2.out.kept0 hk)
    replace H3 := Lib.hid (H3.out.kept0 hk)
    replace H4 := Lib.hid (H4.out.kept0 hk)
    replace KT := Lib.hid (KT.out.trans0 hk)
    clear hk
    have tA0 := nA0.out
    have tA1 := nA1.out
    have tA2 := nA2.out
    have tA3 := nA3.out
    have tB0 := nB0.out
    have tB1 := nB1.out
    have tB2 := nB2.out
    have tB3 := nB3.out
    have tR0 := nR0.out
    have tR1 := nR1.out
    have tR2 := nR2.out
    have tR3 := nR3.out
    have tR4 := nR4.out
    have uR0 := fR0.out
    have uR1 := fR1.out
    have uR2 := fR2.out
    have uR3 := fR3.out
    have uR4 := fR4.out
    go_wp2_with fail
    clear tA0 tA1 tA2 tA3 tB0 tB1 tB2 tB3 tR0 tR1 tR2 tR3 tR4 uR0 uR1 uR2 uR3 uR4
    generalize hW : (((((ww1.setCell ⟨w.heap.size + 1 + 1, 0, none⟩ (.int .i64 3)).setCell ⟨w.heap.size + 1 + 1, 1, none⟩ (.bool false)).setCell ⟨w.heap.size + 1 + 1, 2, none⟩ (.slice none 0 0)).setCell ⟨w.heap.size + 1 + 1, 3, none⟩ (.bool false)).setCell ⟨w.heap.size + 1 + 1, 4, none⟩ (.slice none 0 0)) = ww2
    have hk : Kept [w.heap.size + 1 + 1] ww1 ww2 := by rw [← hW]; exact (((((Kept.refl _ _).setCell _ _ (by simp)).setCell _ _ (by simp)).setCell _ _ (by simp)).setCell _ _ (by simp)).setCell _ _ (by simp)
    have hfz : ∀ x, ww2.frozen? x = ww1.frozen? x := by rw [← hW]; intro x; simp only [World.frozen?_setCell]
    have e0 : ww2.cell? ⟨w.heap.size + 1 + 1, 0, none⟩ = some (.int .i64 3) := by rw [← hW]; rw [World.cell?_setCell_other _ _ _ _ (by simp), World.cell?_setCell_other _ _ _ _ (by simp), World.cell?_setCell_other _ _ _ _ (by simp), World.cell?_setCell_other _ _ _ _ (by simp)]; exact World.cell?_setCell_same _ _ _ (by exact nR0.out)
    have e1 : ww2.cell? ⟨w.heap.size + 1 + 1, 1, none⟩ = some (.bool false) := by rw [← hW]; rw [World.cell?_setCell_other _ _ _ _ (by simp), World.cell?_setCell_other _ _ _ _ (by simp), World.cell?_setCell_other _ _ _ _ (by simp)]; exact World.cell?_setCell_same _ _ _ (by rw [World.cell?_setCell_other _ _ _ _ (by simp)]; exact nR1.out)
    have e2 : ww2.cell? ⟨w.heap.size + 1 + 1, 2, none⟩ = some (.slice none 0 0) := by rw [← hW]; rw [World.cell?_setCell_other _ _ _ _ (by simp), World.cell?_setCell_other _ _ _ _ (by simp)]; exact World.cell?_setCell_same _ _ _ (by rw [World.cell?_setCell_other _ _ _ _ (by simp), World.cell?_setCell_other _ _ _ _ (by simp)]; exact nR2.out)
    have e3 : ww2.cell? ⟨w.heap.size + 1 + 1, 3, none⟩ = some (.bool false) := by rw [← hW]; rw [World.cell?_setCell_other _ _ _ _ (by simp)]; exact World.cell?_setCell_same _ _ _ (by rw [World.cell?_setCell_other _ _ _ _ (by simp), World.cell?_setCell_other _ _ _ _ (by simp), World.cell?_setCell_other _ _ _ _ (by simp)]; exact nR3.out)
    have e4 : ww2.cell? ⟨w.heap.size + 1 + 1, 4, none⟩ = some (.slice none 0 0) := by rw [← hW]; exact World.cell?_setCell_same _ _ _ (by rw [World.cell?_setCell_other _ _ _ _ (by simp), World.cell?_setCell_other _ _ _ _ (by simp), World.cell?_setCell_other _ _ _ _ (by simp), World.cell?_setCell_other _ _ _ _ (by simp)]; exact nR4.out)
    have z2 := hk.size
    replace fR0 := Lib.hid (show ww2.frozen? ⟨w.heap.size + 1 + 1, 0, none⟩ = false by rw [hfz]; exact fR0.out)
    replace fR1 := Lib.hid (show ww2.frozen? ⟨w.heap.size + 1 + 1, 1, none⟩ = false by rw [hfz]; exact fR1.out)
    replace fR2 := Lib.hid (show ww2.frozen? ⟨w.heap.size + 1 + 1, 2, none⟩ = false by rw [hfz]; exact fR2.out)
    replace fR3 := Lib.hid (show ww2.frozen? ⟨w.heap.size + 1 + 1, 3, none⟩ = false by rw [hfz]; exact fR3.out)
    replace fR4 := Lib.hid (show ww2.frozen? ⟨w.heap.size + 1 + 1, 4, none⟩ = false by rw [hfz]; exact fR4.out)
    replace nA0 := Lib.hid (hk.cell (p := ⟨w.heap.size, 0, none⟩) nA0.out (by simp <;> omega))
    replace nA1 := Lib.hid (hk.cell (p := ⟨w.heap.size, 1, none⟩) nA1.out (by simp <;> omega))
    replace nA2 := Lib.hid (hk.cell (p := ⟨w.heap.size, 2, none⟩) nA2.out (by simp <;> omega))
    replace nA3 := Lib.hid (hk.cell (p := ⟨w.heap.size, 3, none⟩) nA3.out (by simp <;> omega))
    replace nB0 := Lib.hid (hk.cell (p := ⟨w.heap.size + 1, 0, none⟩) nB0.out (by simp <;> omega))
    replace nB1 := Lib.hid (hk.cell (p := ⟨w.heap.size + 1, 1, none⟩) nB1.out (by simp <;> omega))
    replace nB2 := Lib.hid (hk.cell (p := ⟨w.heap.size + 1, 2, none⟩) nB2.out (by simp <;> omega))
    replace nB3 := Lib.hid (hk.cell (p := ⟨w.heap.size + 1, 3, none⟩) nB3.out (by simp <;> omega))
    replace H1 := Lib.hid (H1.out.kept hk (fun hn y hy hm => by have h9 := F1.out hn y hy; simp at hm; omega))
    replace H2 := Lib.hid (H2.out.kept hk (fun hn y hy hm => by have h9 := F2.out hn y hy; simp at hm; omega))
    replace H3 := Lib.hid (H3.out.kept hk (fun hn y hy hm => by have h9 := F3.out hn y hy; simp at hm; omega))
    replace H4 := Lib.hid (H4.out.kept hk (fun hn y hy hm => by have h9 := F4.out hn y hy; simp at hm; omega))
    replace nR0 := Lib.hid e0
    replace nR1 := Lib.hid e1
    replace nR2 := Lib.hid e2
    replace nR3 := Lib.hid e3
    replace nR4 := Lib.hid e4
    replace KT := Lib.hid (KT.out.trans hk (fun x hx hlt => by simp at hx; omega))
    clear hk hfz hW e0 e1 e2 e3 e4
    have e0 := nR0.out
    have e1 := nR1.out
    have e2 := nR2.out
    have e3 := nR3.out
    have e4 := nR4.out
    refine bodyPost_ret (v := .agg #[.int .i64 3, .bool false, .slice none 0 0, .bool false, .slice none 0 0]) (by simp [results, Try.results17, go_sem, e0, e1, e2, e3, e4]) rfl ?_
    exact spanM_no KT.out

set_option maxHeartbeats 8000000 in
set_option maxRecDepth 20000 in
theorem sSquareSpan_any (P : Int) (p q : Bool) (a b : Option Addr) (n c m d : Nat) (xs ys : List Int) (w : World) (h1 : Sl w a n c xs) (h2 : Sl w b m d ys) :
    Calls Try.prog 19 #[.int .i64 P, .agg #[.bool p, .slice a n c, .bool q, .slice b m d]] w (SpanM w (sqS P p xs q ys)) := by
  have H1 := Lib.hid h1
  have H2 := Lib.hid h2
  clear h1 h2
  have F1 := Lib.hid H1.out.lt
  have F2 := Lib.hid H2.out.lt
  by_cases hP : isP P = true
  · by_cases hz : spanFault p xs q ys = 0
    · skip
      obtain ⟨t1, ht1⟩ : ∃ t, t = outZ false (sqLow p xs q ys) P.toNat := ⟨_, rfl⟩
      obtain ⟨t2, ht2⟩ : ∃ t, t = outZ true (sqHigh p xs q ys) P.toNat := ⟨_, rfl⟩
      obtain ⟨r, hr⟩ : ∃ r, r = fitS t1 t2 := ⟨_, rfl⟩
      rw [show sqS P p xs q ys = r from by unfold sqS; rw [askS_ok hP hz, ← ht1, ← ht2, hr]]
      have HZ := Lib.hid (show precS P (spanFault2 p xs q ys p xs q ys) = 0 by unfold precS; rw [if_pos hP]; rw [spanFault2_same]; exact hz)
      obtain ⟨ox1, ox2, ox3, ox4, ox5⟩ := spanFault_zero hz
      have OX := Lib.hid (show SpanOk p xs q ys from ⟨ox1, ox2, ox3, ox4, ox5⟩)
      have HP := Lib.hid hP
      have HT1 := Lib.hid ht1
      have HT2 := Lib.hid ht2
      have HR := Lib.hid hr
      clear ox1 ox2 ox3 ox4 ox5 hz hP ht1 ht2 hr
      go_enter Try.func19, Try.ntmps19
      go_wp2_with fail
      generalize hW : ((w.alloc (.cells #[.bool p, .slice a n c, .bool q, .slice b m d] 30)).alloc (.cells #[.int .i64 0, .bool false, .slice none 0 0, .bool false, .slice none 0 0] 32)) = ww0
      have hkk : Kept [] ((w.alloc (.cells #[.bool p, .slice a n c, .bool q, .slice b m d] 30)).alloc (.cells #[.int .i64 0, .bool false, .slice none 0 0, .bool false, .slice none 0 0] 32)) ww0 := by rw [hW]; exact Kept.refl _ _
      have zzA : w.heap.size + 1 + 1 = ww0.heap.size := by rw [← hW]; simp
      have nA0 := Lib.hid (hkk.peel.top (g := w.heap.size) (by simp) (by simp) 0 (v := .bool p) rfl).1
      have nA1 := Lib.hid (hkk.peel.top (g := w.heap.size) (by simp) (by simp) 1 (v := .slice a n c) rfl).1
      have nA2 := Lib.hid (hkk.peel.top (g := w.heap.size) (by simp) (by simp) 2 (v := .bool q) rfl).1
      have nA3 := Lib.hid (hkk.peel.top (g := w.heap.size) (by simp) (by simp) 3 (v := .slice b m d) rfl).1
      have nR0 := Lib.hid (hkk.top (g := w.heap.size + 1) (by simp) (by simp) 0 (v := .int .i64 0) rfl).1
      have fR0 := Lib.hid (hkk.top (g := w.heap.size + 1) (by simp) (by simp) 0 (v := .int .i64 0) rfl).2.1
      have nR1 := Lib.hid (hkk.top (g := w.heap.size + 1) (by simp) (by simp) 1 (v := .bool false) rfl).1
      have fR1 := Lib.hid (hkk.top (g := w.heap.size + 1) (by simp) (by simp) 1 (v := .bool false) rfl).2.1
      have nR2 := Lib.hid (hkk.top (g := w.heap.size + 1) (by simp) (by simp) 2 (v := .slice none 0 0) rfl).1
      have fR2 := Lib.hid (hkk.top (g := w.heap.size + 1) (by simp) (by simp) 2 (v := .slice none 0 0) rfl).2.1
      have nR3 := Lib.hid (hkk.top (g := w.heap.size + 1) (by simp) (by simp) 3 (v := .bool false) rfl).1
      have fR3 := Lib.hid (hkk.top (g := w.heap.size + 1) (by simp) (by simp) 3 (v := .bool false) rfl).2.1
      have nR4 := Lib.hid (hkk.top (g := w.heap.size + 1) (by simp) (by simp) 4 (v := .slice none 0 0) rfl).1
      have fR4 := Lib.hid (hkk.top (g := w.heap.size + 1) (by simp) (by simp) 4 (v := .slice none 0 0) rfl).2.1
      have hk := hkk.peel.peel
      clear hkk hW
      have z0 := hk.size
      have KT := Lib.hid hk
      clear hk
      replace H1 := Lib.hid (H1.out.kept0 KT.out)
      replace H2 := Lib.hid (H2.out.kept0 KT.out)
      refine (l3Asked_any P _ _ _ _ _ _ _ _ _ _ _ _ _ _ _ _ _ _ _ _ _ H1.out H2.out H1.out H2.out).mono ?_
      rintro e ww1 ⟨rfl, hk⟩
      rw [HZ.out]
      have z1 := hk.size
      replace fR0 := Lib.hid (hk.free' (p := ⟨w.heap.size + 1, 0, none⟩) nR0.out fR0.out (by simp))
      replace fR1 := Lib.hid (hk.free' (p := ⟨w.heap.size + 1, 1, none⟩) nR1.out fR1.out (by simp))
      replace fR2 := Lib.hid (hk.free' (p := ⟨w.heap.size + 1, 2, none⟩) nR2.out fR2.out (by simp))
      replace fR3 := Lib.hid (hk.free' (p := ⟨w.heap.size + 1, 3, none⟩) nR3.out fR3.out (by simp))
      replace fR4 := Lib.hid (hk.free' (p := ⟨w.heap.size + 1, 4, none⟩) nR4.out fR4.out (by simp))
      replace nA0 := Lib.hid (hk.cell (p := ⟨w.heap.size, 0, none⟩) nA0.out (by simp))
      replace nA1 := Lib.hid (hk.cell (p := ⟨w.heap.size, 1, none⟩) nA1.out (by simp))
      replace nA2 := Lib.hid (hk.cell (p := ⟨w.heap.size, 2, none⟩) nA2.out (by simp))
      replace nA3 := Lib.hid (hk.cell (p := ⟨w.heap.size, 3, none⟩) nA3.out (by simp))
      replace nR0 := Lib.hid (hk.cell (p := ⟨w.heap.size + 1, 0, none⟩) nR0.out (by simp))
      replace nR1 := Lib.hid (hk.cell (p := ⟨w.heap.size + 1, 1, none⟩) nR1.out (by simp))
      replace nR2 := Lib.hid (hk.cell (p := ⟨w.heap.size + 1, 2, none⟩) nR2.out (by simp))
      replace nR3 := Lib.hid (hk.cell (p := ⟨w.heap.size + 1, 3, none⟩) nR3.out (by simp))
      replace nR4 := Lib.hid (hk.cell (p := ⟨w.heap.size + 1, 4, none⟩) nR4.out (by simp))
      replace H1 := Lib.hid (H1.out.kept0 hk)
      replace H2 := Lib.hid (H2.out.kept0 hk)
      replace KT := Lib.hid (KT.out.trans0 hk)
      clear hk
      have tA0 := nA0.out
      have tA1 := nA1.out
      have tA2 := nA2.out
      have tA3 := nA3.out
      go_wp2_with fail
      clear tA0 tA1 tA2 tA3
      refine (l3Square_any P _ _ _ _ _ _ _ _ _ _ t1 t2 _ H1.out H2.out HP.out OX.out HT1.out HT2.out).mono ?_
      rintro e ww2 ⟨a1, c1, a2, c2, rfl, hs1, hs2, hf1, hf2, hk⟩
      have z2 := hk.size
      replace fR0 := Lib.hid (hk.free' (p := ⟨w.heap.size + 1, 0, none⟩) nR0.out fR0.out (by simp))
      replace fR1 := Lib.hid (hk.free' (p := ⟨w.heap.size + 1, 1, none⟩) nR1.out fR1.out (by simp))
      replace fR2 := Lib.hid (hk.free' (p := ⟨w.heap.size + 1, 2, none⟩) nR2.out fR2.out (by simp))
      replace fR3 := Lib.hid (hk.free' (p := ⟨w.heap.size + 1, 3, none⟩) nR3.out fR3.out (by simp))
      replace fR4 := Lib.hid (hk.free' (p := ⟨w.heap.size + 1, 4, none⟩) nR4.out fR4.out (by simp))
      replace nA0 := Lib.hid (hk.cell (p := ⟨w.heap.size, 0, none⟩) nA0.out (by simp))
      replace nA1 := Lib.hid (hk.cell (p := ⟨w.heap.size, 1, none⟩) nA1.out (by simp))
      replace nA2 := Lib.hid (hk.cell (p := ⟨w.heap.size, 2, none⟩) nA2.out (by simp))
      replace nA3 := Lib.hid (hk.cell (p := ⟨w.heap.size, 3, none⟩) nA3.out (by simp))
      replace nR0 := Lib.hid (hk.cell (p := ⟨w.heap.size + 1, 0, none⟩) nR0.out (by simp))
      replace nR1 := Lib.hid (hk.cell (p := ⟨w.heap.size + 1, 1, none⟩) nR1.out (by simp))
      replace nR2 := Lib.hid (hk.cell (p := ⟨w.heap.size + 1, 2, none⟩) nR2.out (by simp))
      replace nR3 := Lib.hid (hk.cell (p := ⟨w.heap.size + 1, 3, none⟩) nR3.out (by simp))
      replace nR4 := Lib.hid (hk.cell (p := ⟨w.heap.size + 1, 4, none⟩) nR4.out (by simp))
      replace H1 := Lib.hid (H1.out.kept0 hk)
      replace H2 := Lib.hid (H2.out.kept0 hk)
      replace KT := Lib.hid (KT.out.trans0 hk)
      clear hk
      have hs1 := Lib.hid hs1
      have hs2 := Lib.hid hs2
      have G1 := Lib.hid hf1
      have G2 := Lib.hid hf2
      clear hf1 hf2
      go_wp2_with fail
      refine (l3Whole_any _ _ _ _ _ _ _ _ _ hs1.out hs2.out).mono ?_
      rintro e ww3 ⟨a3, c3, b3, d3, rfl, hs3, hs4, he3, he4, hk⟩
      have g3 := fr_of_fitS G1.out he3
      have g4 := fr_of_fitS' G2.out he4
      rw [← HR.out] at hs3 hs4 g3 g4 ⊢
      clear he3 he4
      have z3 := hk.size
      replace fR0 := Lib.hid (hk.free' (p := ⟨w.heap.size + 1, 0, none⟩) nR0.out fR0.out (by simp))
      replace fR1 := Lib.hid (hk.free' (p := ⟨w.heap.size + 1, 1, none⟩) nR1.out fR1.out (by simp))
      replace fR2 := Lib.hid (hk.free' (p := ⟨w.heap.size + 1, 2, none⟩) nR2.out fR2.out (by simp))
      replace fR3 := Lib.hid (hk.free' (p := ⟨w.heap.size + 1, 3, none⟩) nR3.out fR3.out (by simp))
      replace fR4 := Lib.hid (hk.free' (p := ⟨w.heap.size + 1, 4, none⟩) nR4.out fR4.out (by simp))
      replace nA0 := Lib.hid (hk.cell (p := ⟨w.heap.size, 0, none⟩) nA0.out (by simp))
      replace nA1 := Lib.hid (hk.cell (p := ⟨w.heap.size, 1, none⟩) nA1.out (by simp))
      replace nA2 := Lib.hid (hk.cell (p := ⟨w.heap.size, 2, none⟩) nA2.out (by simp))
      replace nA3 := Lib.hid (hk.cell (p := ⟨w.heap.size, 3, none⟩) nA3.out (by simp))
      replace nR0 := Lib.hid (hk.cell (p := ⟨w.heap.size + 1, 0, none⟩) nR0.out (by simp))
      replace nR1 := Lib.hid (hk.cell (p := ⟨w.heap.size + 1, 1, none⟩) nR1.out (by simp))
      replace nR2 := Lib.hid (hk.cell (p := ⟨w.heap.size + 1, 2, none⟩) nR2.out (by simp))
      replace nR3 := Lib.hid (hk.cell (p := ⟨w.heap.size + 1, 3, none⟩) nR3.out (by simp))
      replace nR4 := Lib.hid (hk.cell (p := ⟨w.heap.size + 1, 4, none⟩) nR4.out (by simp))
      replace H1 := Lib.hid (H1.out.kept0 hk)
      replace H2 := Lib.hid (H2.out.kept0 hk)
      replace hs1 := Lib.hid (hs1.out.kept0 hk)
      replace hs2 := Lib.hid (hs2.out.kept0 hk)
      replace KT := Lib.hid (KT.out.trans0 hk)
      clear hk
      have hs3 := Lib.hid hs3
      have hs4 := Lib.hid hs4
      have G3 := Lib.hid (g3.mono (B' := w.heap.size + 1 + 1) (by omega))
      have G4 := Lib.hid (g4.mono (B' := w.heap.size + 1 + 1) (by omega))
      clear g3 g4
      clear hs1 hs2
      have tR0 := nR0.out
      have tR1 := nR1.out
      have tR2 := nR2.out
      have tR3 := nR3.out
      have tR4 := nR4.out
      have uR0 := fR0.out
      have uR1 := fR1.out
      have uR2 := fR2.out
      have uR3 := fR3.out
      have uR4 := fR4.out
      go_wp2_with fail
      clear tR0 tR1 tR2 tR3 tR4 uR0 uR1 uR2 uR3 uR4
      generalize hW : (((((ww3.setCell ⟨w.heap.size + 1, 0, none⟩ (.int .i64 r.code)).setCell ⟨w.heap.size + 1, 1, none⟩ (.bool (isNeg r.lo))).setCell ⟨w.heap.size + 1, 2, none⟩ (.slice a3 (mag r.lo).length c3)).setCell ⟨w.heap.size + 1, 3, none⟩ (.bool (isNeg r.hi))).setCell ⟨w.heap.size + 1, 4, none⟩ (.slice b3 (mag r.hi).length d3)) = ww4
      have hk : Kept [w.heap.size + 1] ww3 ww4 := by rw [← hW]; exact (((((Kept.refl _ _).setCell _ _ (by simp)).setCell _ _ (by simp)).setCell _ _ (by simp)).setCell _ _ (by simp)).setCell _ _ (by simp)
      have hfz : ∀ x, ww4.frozen? x = ww3.frozen? x := by rw [← hW]; intro x; simp only [World.frozen?_setCell]
      have e0 : ww4.cell? ⟨w.heap.size + 1, 0, none⟩ = some (.int .i64 r.code) := by rw [← hW]; rw [World.cell?_setCell_other _ _ _ _ (by simp), World.cell?_setCell_other _ _ _ _ (by simp), World.cell?_setCell_other _ _ _ _ (by simp), World.cell?_setCell_other _ _ _ _ (by simp)]; exact World.cell?_setCell_same _ _ _ (by exact nR0.out)
      have e1 : ww4.cell? ⟨w.heap.size + 1, 1, none⟩ = some (.bool (isNeg r.lo)) := by rw [← hW]; rw [World.cell?_setCell_other _ _ _ _ (by simp), World.cell?_setCell_other _ _ _ _ (by simp), World.cell?_setCell_other _ _ _ _ (by simp)]; exact World.cell?_setCell_same _ _ _ (by rw [World.cell?_setCell_other _ _ _ _ (by simp)]; exact nR1.out)
      have e2 : ww4.cell? ⟨w.heap.size + 1, 2, none⟩ = some (.slice a3 (mag r.lo).length c3) := by rw [← hW]; rw [World.cell?_setCell_other _ _ _ _ (by simp), World.cell?_setCell_other _ _ _ _ (by simp)]; exact World.cell?_setCell_same _ _ _ (by rw [World.cell?_setCell_other _ _ _ _ (by simp), World.cell?_setCell_other _ _ _ _ (by simp)]; exact nR2.out)
      have e3 : ww4.cell? ⟨w.heap.size + 1, 3, none⟩ = some (.bool (isNeg r.hi)) := by rw [← hW]; rw [World.cell?_setCell_other _ _ _ _ (by simp)]; exact World.cell?_setCell_same _ _ _ (by rw [World.cell?_setCell_other _ _ _ _ (by simp), World.cell?_setCell_other _ _ _ _ (by simp), World.cell?_setCell_other _ _ _ _ (by simp)]; exact nR3.out)
      have e4 : ww4.cell? ⟨w.heap.size + 1, 4, none⟩ = some (.slice b3 (mag r.hi).length d3) := by rw [← hW]; exact World.cell?_setCell_same _ _ _ (by rw [World.cell?_setCell_other _ _ _ _ (by simp), World.cell?_setCell_other _ _ _ _ (by simp), World.cell?_setCell_other _ _ _ _ (by simp), World.cell?_setCell_other _ _ _ _ (by simp)]; exact nR4.out)
      have z4 := hk.size
      replace fR0 := Lib.hid (show ww4.frozen? ⟨w.heap.size + 1, 0, none⟩ = false by rw [hfz]; exact fR0.out)
      replace fR1 := Lib.hid (show ww4.frozen? ⟨w.heap.size + 1, 1, none⟩ = false by rw [hfz]; exact fR1.out)
      replace fR2 := Lib.hid (show ww4.frozen? ⟨w.heap.size + 1, 2, none⟩ = false by rw [hfz]; exact fR2.out)
      replace fR3 := Lib.hid (show ww4.frozen? ⟨w.heap.size + 1, 3, none⟩ = false by rw [hfz]; exact fR3.out)
      replace fR4 := Lib.hid (show ww4.frozen? ⟨w.heap.size + 1, 4, none⟩ = false by rw [hfz]; exact fR4.out)
      replace nA0 := Lib.hid (hk.cell (p := ⟨w.heap.size, 0, none⟩) nA0.out (by simp <;> omega))
      replace nA1 := Lib.hid (hk.cell (p := ⟨w.heap.size, 1, none⟩) nA1.out (by simp <;> omega))
      replace nA2 := Lib.hid (hk.cell (p := ⟨w.heap.size, 2, none⟩) nA2.out (by simp <;> omega))
      replace nA3 := Lib.hid (hk.cell (p := ⟨w.heap.size, 3, none⟩) nA3.out (by simp <;> omega))
      replace H1 := Lib.hid (H1.out.kept hk (fun hn y hy hm => by have h9 := F1.out hn y hy; simp at hm; omega))
      replace H2 := Lib.hid (H2.out.kept hk (fun hn y hy hm => by have h9 := F2.out hn y hy; simp at hm; omega))
      replace hs3 := Lib.hid (hs3.out.kept hk (fun hn y hy hm => by have h9 := G3.out hn y hy; simp at hm; omega))
      replace hs4 := Lib.hid (hs4.out.kept hk (fun hn y hy hm => by have h9 := G4.out hn y hy; simp at hm; omega))
      replace nR0 := Lib.hid e0
      replace nR1 := Lib.hid e1
      replace nR2 := Lib.hid e2
      replace nR3 := Lib.hid e3
      replace nR4 := Lib.hid e4
      replace KT := Lib.hid (KT.out.trans hk (fun x hx hlt => by simp at hx; omega))
      clear hk hfz hW e0 e1 e2 e3 e4
      have e0 := nR0.out
      have e1 := nR1.out
      have e2 := nR2.out
      have e3 := nR3.out
      have e4 := nR4.out
      refine bodyPost_ret (v := .agg #[.int .i64 r.code, .bool (isNeg r.lo), .slice a3 (mag r.lo).length c3, .bool (isNeg r.hi), .slice b3 (mag r.hi).length d3]) (by simp [results, Try.results19, go_sem, e0, e1, e2, e3, e4]) rfl ?_
      exact ⟨a3, c3, b3, d3, rfl, hs3.out, hs4.out, G3.out.mono (by omega), G4.out.mono (by omega), KT.out⟩
    · skip
      rw [show sqS P p xs q ys = noSpan (spanFault p xs q ys) from askS_bad hP hz]
      obtain ⟨f, hf⟩ : ∃ f, f = spanFault p xs q ys := ⟨_, rfl⟩
      have HZ := Lib.hid (show precS P (spanFault2 p xs q ys p xs q ys) = f by unfold precS; rw [if_pos hP]; rw [spanFault2_same]; exact hf.symm)
      rw [← hf]
      have hne : (f == 0) = false := by rw [beq_eq_false_iff_ne, hf]; exact hz
      clear hf hz hP
      go_enter Try.func19, Try.ntmps19
      go_wp2_with fail
      generalize hW : ((w.alloc (.cells #[.bool p, .slice a n c, .bool q, .slice b m d] 30)).alloc (.cells #[.int .i64 0, .bool false, .slice none 0 0, .bool false, .slice none 0 0] 32)) = ww0
      have hkk : Kept [] ((w.alloc (.cells #[.bool p, .slice a n c, .bool q, .slice b m d] 30)).alloc (.cells #[.int .i64 0, .bool false, .slice none 0 0, .bool false, .slice none 0 0] 32)) ww0 := by rw [hW]; exact Kept.refl _ _
      have zzA : w.heap.size + 1 + 1 = ww0.heap.size := by rw [← hW]; simp
      have nA0 := Lib.hid (hkk.peel.top (g := w.heap.size) (by simp) (by simp) 0 (v := .bool p) rfl).1
      have nA1 := Lib.hid (hkk.peel.top (g := w.heap.size) (by simp) (by simp) 1 (v := .slice a n c) rfl).1
      have nA2 := Lib.hid (hkk.peel.top (g := w.heap.size) (by simp) (by simp) 2 (v := .bool q) rfl).1
      have nA3 := Lib.hid (hkk.peel.top (g := w.heap.size) (by simp) (by simp) 3 (v := .slice b m d) rfl).1
      have nR0 := Lib.hid (hkk.top (g := w.heap.size + 1) (by simp) (by simp) 0 (v := .int .i64 0) rfl).1
      have fR0 := Lib.hid (hkk.top (g := w.heap.size + 1) (by simp) (by simp) 0 (v := .int .i64 0) rfl).2.1
      have nR1 := Lib.hid (hkk.top (g := w.heap.size + 1) (by simp) (by simp) 1 (v := .bool false) rfl).1
      have fR1 := Lib.hid (hkk.top (g := w.heap.size + 1) (by simp) (by simp) 1 (v := .bool false) rfl).2.1
      have nR2 := Lib.hid (hkk.top (g := w.heap.size + 1) (by simp) (by simp) 2 (v := .slice none 0 0) rfl).1
      have fR2 := Lib.hid (hkk.top (g := w.heap.size + 1) (by simp) (by simp) 2 (v := .slice none 0 0) rfl).2.1
      have nR3 := Lib.hid (hkk.top (g := w.heap.size + 1) (by simp) (by simp) 3 (v := .bool false) rfl).1
      have fR3 := Lib.hid (hkk.top (g := w.heap.size + 1) (by simp) (by simp) 3 (v := .bool false) rfl).2.1
      have nR4 := Lib.hid (hkk.top (g := w.heap.size + 1) (by simp) (by simp) 4 (v := .slice none 0 0) rfl).1
      have fR4 := Lib.hid (hkk.top (g := w.heap.size + 1) (by simp) (by simp) 4 (v := .slice none 0 0) rfl).2.1
      have hk := hkk.peel.peel
      clear hkk hW
      have z0 := hk.size
      have KT := Lib.hid hk
      clear hk
      replace H1 := Lib.hid (H1.out.kept0 KT.out)
      replace H2 := Lib.hid (H2.out.kept0 KT.out)
      refine (l3Asked_any P _ _ _ _ _ _ _ _ _ _ _ _ _ _ _ _ _ _ _ _ _ H1.out H2.out H1.out H2.out).mono ?_
      rintro e ww1 ⟨rfl, hk⟩
      rw [HZ.out]
      have z1 := hk.size
      replace fR0 := Lib.hid (hk.free' (p := ⟨w.heap.size + 1, 0, none⟩) nR0.out fR0.out (by simp))
      replace fR1 := Lib.hid (hk.free' (p := ⟨w.heap.size + 1, 1, none⟩) nR1.out fR1.out (by simp))
      replace fR2 := Lib.hid (hk.free' (p := ⟨w.heap.size + 1, 2, none⟩) nR2.out fR2.out (by simp))
      replace fR3 := Lib.hid (hk.free' (p := ⟨w.heap.size + 1, 3, none⟩) nR3.out fR3.out (by simp))
      replace fR4 := Lib.hid (hk.free' (p := ⟨w.heap.size + 1, 4, none⟩) nR4.out fR4.out (by simp))
      replace nA0 := Lib.hid (hk.cell (p := ⟨w.heap.size, 0, none⟩) nA0.out (by simp))
      replace nA1 := Lib.hid (hk.cell (p := ⟨w.heap.size, 1, none⟩) nA1.out (by simp))
      replace nA2 := Lib.hid (hk.cell (p := ⟨w.heap.size, 2, none⟩) nA2.out (by simp))
      replace nA3 := Lib.hid (hk.cell (p := ⟨w.heap.size, 3, none⟩) nA3.out (by simp))
      replace nR0 := Lib.hid (hk.cell (p := ⟨w.heap.size + 1, 0, none⟩) nR0.out (by simp))
      replace nR1 := Lib.hid (hk.cell (p := ⟨w.heap.size + 1, 1, none⟩) nR1.out (by simp))
      replace nR2 := Lib.hid (hk.cell (p := ⟨w.heap.size + 1, 2, none⟩) nR2.out (by simp))
      replace nR3 := Lib.hid (hk.cell (p := ⟨w.heap.size + 1, 3, none⟩) nR3.out (by simp))
      replace nR4 := Lib.hid (hk.cell (p := ⟨w.heap.size + 1, 4, none⟩) nR4.out (by simp))
      replace H1 := Lib.hid (H1.out.kept0 hk)
      replace H2 := Lib.hid (H2.out.kept0 hk)
      replace KT := Lib.hid (KT.out.trans0 hk)
      clear hk
      have tA0 := nA0.out
      have tA1 := nA1.out
      have tA2 := nA2.out
      have tA3 := nA3.out
      have tR0 := nR0.out
      have tR1 := nR1.out
      have tR2 := nR2.out
      have tR3 := nR3.out
      have tR4 := nR4.out
      have uR0 := fR0.out
      have uR1 := fR1.out
      have uR2 := fR2.out
      have uR3 := fR3.out
      have uR4 := fR4.out
      go_wp2_with fail
      clear tA0 tA1 tA2 tA3 tR0 tR1 tR2 tR3 tR4 uR0 uR1 uR2 uR3 uR4
      generalize hW : (((((ww1.setCell ⟨w.heap.size + 1, 0, none⟩ (.int .i64 f)).setCell ⟨w.heap.size + 1, 1, none⟩ (.bool false)).setCell ⟨w.heap.size + 1, 2, none⟩ (.slice none 0 0)).setCell ⟨w.heap.size + 1, 3, none⟩ (.bool false)).setCell ⟨w.heap.size + 1, 4, none⟩ (.slice none 0 0)) = ww2
      have hk : Kept [w.heap.size + 1] ww1 ww2 := by rw [← hW]; exact (((((Kept.refl _ _).setCell _ _ (by simp)).setCell _ _ (by simp)).setCell _ _ (by simp)).setCell _ _ (by simp)).setCell _ _ (by simp)
      have hfz : ∀ x, ww2.frozen? x = ww1.frozen? x := by rw [← hW]; intro x; simp only [World.frozen?_setCell]
      have e0 : ww2.cell? ⟨w.heap.size + 1, 0, none⟩ = some (.int .i64 f) := by rw [← hW]; rw [World.cell?_setCell_other _ _ _ _ (by simp), World.cell?_setCell_other _ _ _ _ (by simp), World.cell?_setCell_other _ _ _ _ (by simp), World.cell?_setCell_other _ _ _ _ (by simp)]; exact World.cell?_setCell_same _ _ _ (by exact nR0.out)
      have e1 : ww2.cell? ⟨w.heap.size + 1, 1, none⟩ = some (.bool false) := by rw [← hW]; rw [World.cell?_setCell_other _ _ _ _ (by simp), World.cell?_setCell_other _ _ _ _ (by simp), World.cell?_setCell_other _ _ _ _ (by simp)]; exact World.cell?_setCell_same _ _ _ (by rw [World.cell?_setCell_other _ _ _ _ (by simp)]; exact nR1.out)
      have e2 : ww2.cell? ⟨w.heap.size + 1, 2, none⟩ = some (.slice none 0 0) := by rw [← hW]; rw [World.cell?_setCell_other _ _ _ _ (by simp), World.cell?_setCell_other _ _ _ _ (by simp)]; exact World.cell?_setCell_same _ _ _ (by rw [World.cell?_setCell_other _ _ _ _ (by simp), World.cell?_setCell_other _ _ _ _ (by simp)]; exact nR2.out)
      have e3 : ww2.cell? ⟨w.heap.size + 1, 3, none⟩ = some (.bool false) := by rw [← hW]; rw [World.cell?_setCell_other _ _ _ _ (by simp)]; exact World.cell?_setCell_same _ _ _ (by rw [World.cell?_setCell_other _ _ _ _ (by simp), World.cell?_setCell_other _ _ _ _ (by simp), World.cell?_setCell_other _ _ _ _ (by simp)]; exact nR3.out)
      have e4 : ww2.cell? ⟨w.heap.size + 1, 4, none⟩ = some (.slice none 0 0) := by rw [← hW]; exact World.cell?_setCell_same _ _ _ (by rw [World.cell?_setCell_other _ _ _ _ (by simp), World.cell?_setCell_other _ _ _ _ (by simp), World.cell?_setCell_other _ _ _ _ (by simp), World.cell?_setCell_other _ _ _ _ (by simp)]; exact nR4.out)
      have z2 := hk.size
      replace fR0 := Lib.hid (show ww2.frozen? ⟨w.heap.size + 1, 0, none⟩ = false by rw [hfz]; exact fR0.out)
      replace fR1 := Lib.hid (show ww2.frozen? ⟨w.heap.size + 1, 1, none⟩ = false by rw [hfz]; exact fR1.out)
      replace fR2 := Lib.hid (show ww2.frozen? ⟨w.heap.size + 1, 2, none⟩ = false by rw [hfz]; exact fR2.out)
      replace fR3 := Lib.hid (show ww2.frozen? ⟨w.heap.size + 1, 3, none⟩ = false by rw [hfz]; exact fR3.out)
      replace fR4 := Lib.hid (show ww2.frozen? ⟨w.heap.size + 1, 4, none⟩ = false by rw [hfz]; exact fR4.out)
      replace nA0 := Lib.hid (hk.cell (p := ⟨w.heap.size, 0, none⟩) nA0.out (by simp <;> omega))
      replace nA1 := Lib.hid (hk.cell (p := ⟨w.heap.size, 1, none⟩) nA1.out (by simp <;> omega))
      replace nA2 := Lib.hid (hk.cell (p := ⟨w.heap.size, 2, none⟩) nA2.out (by simp <;> omega))
      replace nA3 := Lib.hid (hk.cell (p := ⟨w.heap.size, 3, none⟩) nA3.out (by simp <;> omega))
      replace H1 := Lib.hid (H1.out.kept hk (fun hn y hy hm => by have h9 := F1.out hn y hy; simp at hm; omega))
      replace H2 := Lib.hid (H2.out.kept hk (fun hn y hy hm => by have h9 := F2.out hn y hy; simp at hm; omega))
      replace nR0 := Lib.hid e0
      replace nR1 := Lib.hid e1
      replace nR2 := Lib.hid e2
      replace nR3 := Lib.hid e3
      replace nR4 := Lib.hid e4
      replace KT := Lib.hid (KT.out.trans hk (fun x hx hlt => by simp at hx; omega))
      clear hk hfz hW e0 e1 e2 e3 e4
      have e0 := nR0.out
      have e1 := nR1.out
      have e2 := nR2.out
      have e3 := nR3.out
      have e4 := nR4.out
      refine bodyPost_ret (v := .agg #[.int .i64 f, .bool false, .slice none 0 0, .bool false, .slice none 0 0]) (by simp [results, Try.results19, go_sem, e0, e1, e2, e3, e4]) rfl ?_
      exact spanM_no KT.out
  · skip
    rw [show sqS P p xs q ys = noSpan 3 from askS_no hP]
    have HZ := Lib.hid (show precS P (spanFault2 p xs q ys p xs q ys) = 3 from if_neg hP)
    clear hP
    go_enter Try.func19, Try.ntmps19
    go_wp2_with fail
    generalize hW : ((w.alloc (.cells #[.bool p, .slice a n c, .bool q, .slice b m d] 30)).alloc (.cells #[.int .i64 0, .bool false, .slice none 0 0, .bool false, .slice none 0 0] 32)) = ww0
    have hkk : Kept [] ((w.alloc (.cells #[.bool p, .slice a n c, .bool q, .slice b m d] 30)).alloc (.cells #[.int .i64 0, .bool false, .slice none 0 0, .bool false, .slice none 0 0] 32)) ww0 := by rw [hW]; exact Kept.refl _ _
    have zzA : w.heap.size + 1 + 1 = ww0.heap.size := by rw [← hW]; simp
    have nA0 := Lib.hid (hkk.peel.top (g := w.heap.size) (by simp) (by simp) 0 (v := .bool p) rfl).1
    have nA1 := Lib.hid (hkk.peel.top (g := w.heap.size) (by simp) (by simp) 1 (v := .slice a n c) rfl).1
    have nA2 := Lib.hid (hkk.peel.top (g := w.heap.size) (by simp) (by simp) 2 (v := .bool q) rfl).1
    have nA3 := Lib.hid (hkk.peel.top (g := w.heap.size) (by simp) (by simp) 3 (v := .slice b m d) rfl).1
    have nR0 := Lib.hid (hkk.top (g := w.heap.size + 1) (by simp) (by simp) 0 (v := .int .i64 0) rfl).1
    have fR0 := Lib.hid (hkk.top (g := w.heap.size + 1) (by simp) (by simp) 0 (v := .int .i64 0) rfl).2.1
    have nR1 := Lib.hid (hkk.top (g := w.heap.size + 1) (by simp) (by simp) 1 (v := .bool false) rfl).1
    have fR1 := Lib.hid (hkk.top (g := w.heap.size + 1) (by simp) (by simp) 1 (v := .bool false) rfl).2.1
    have nR2 := Lib.hid (hkk.top (g := w.heap.size + 1) (by simp) (by simp) 2 (v := .slice none 0 0) rfl).1
    have fR2 := Lib.hid (hkk.top (g := w.heap.size + 1) (by simp) (by simp) 2 (v := .slice none 0 0) rfl).2.1
    have nR3 := Lib.hid (hkk.top (g := w.heap.size + 1) (by simp) (by simp) 3 (v := .bool false) rfl).1
    have fR3 := Lib.hid (hkk.top (g := w.heap.size + 1) (by simp) (by simp) 3 (v := .bool false) rfl).2.1
    have nR4 := Lib.hid (hkk.top (g := w.heap.size + 1) (by simp) (by simp) 4 (v := .slice none 0 0) rfl).1
    have fR4 := Lib.hid (hkk.top (g := w.heap.size + 1) (by simp) (by simp) 4 (v := .slice none 0 0) rfl).2.1
    have hk := hkk.peel.peel
    clear hkk hW
    have z0 := hk.size
    have KT := Lib.hid hk
    clear hk
    replace H1 := Lib.hid (H1.out.kept0 KT.out)
    replace H2 := Lib.hid (H2.out.kept0 KT.out)
    refine (l3Asked_any P _ _ _ _ _ _ _ _ _ _ _ _ _ _ _ _ _ _ _ _ _ H1.out H2.out H1.out H2.out).mono ?_
    rintro e ww1 ⟨rfl, hk⟩
    rw [HZ.out]
    have z1 := hk.size
    replace fR0 := Lib.hid (hk.free' (p := ⟨w.heap.size + 1, 0, none⟩) nR0.out fR0.out (by simp))
    replace fR1 := Lib.hid (hk.free' (p := ⟨w.heap.size + 1, 1, none⟩) nR1.out fR1.out (by simp))
    replace fR2 := Lib.hid (hk.free' (p := ⟨w.heap.size + 1, 2, none⟩) nR2.out fR2.out (by simp))
    replace fR3 := Lib.hid (hk.free' (p := ⟨w.heap.size + 1, 3, none⟩) nR3.out fR3.out (by simp))
    replace fR4 := Lib.hid (hk.free' (p := ⟨w.heap.size + 1, 4, none⟩) nR4.out fR4.out (by simp))
    replace nA0 := Lib.hid (hk.cell (p := ⟨w.heap.size, 0, none⟩) nA0.out (by simp))
    replace nA1 := Lib.hid (hk.cell (p := ⟨w.heap.size, 1, none⟩) nA1.out (by simp))
    replace nA2 := Lib.hid (hk.cell (p := ⟨w.heap.size, 2, none⟩) nA2.out (by simp))
    replace nA3 := Lib.hid (hk.cell (p := ⟨w.heap.size, 3, none⟩) nA3.out (by simp))
    replace nR0 := Lib.hid (hk.cell (p := ⟨w.heap.size + 1, 0, none⟩) nR0.out (by simp))
    replace nR1 := Lib.hid (hk.cell (p := ⟨w.heap.size + 1, 1, none⟩) nR1.out (by simp))
    replace nR2 := Lib.hid (hk.cell (p := ⟨w.heap.size + 1, 2, none⟩) nR2.out (by simp))
    replace nR3 := Lib.hid (hk.cell (p := ⟨w.heap.size + 1, 3, none⟩) nR3.out (by simp))
    replace nR4 := Lib.hid (hk.cell (p := ⟨w.heap.size + 1, 4, none⟩) nR4.out (by simp))
    replace H1 := Lib.hid (H1.out.kept0 hk)
    replace H2 := Lib.hid (H2.out.kept0 hk)
    replace KT := Lib.hid (KT.out.trans0 hk)
    clear hk
    have tA0 := nA0.out
    have tA1 := nA1.out
    have tA2 := nA2.out
    have tA3 := nA3.out
    have tR0 := nR0.out
    have tR1 := nR1.out
    have tR2 := nR2.out
    have tR3 := nR3.out
    have tR4 := nR4.out
    have uR0 := fR0.out
    have uR1 := fR1.out
    have uR2 := fR2.out
    have uR3 := fR3.out
    have uR4 := fR4.out
    go_wp2_with fail
    clear tA0 tA1 tA2 tA3 tR0 tR1 tR2 tR3 tR4 uR0 uR1 uR2 uR3 uR4
    generalize hW : (((((ww1.setCell ⟨w.heap.size + 1, 0, none⟩ (.int .i64 3)).setCell ⟨w.heap.size + 1, 1, none⟩ (.bool false)).setCell ⟨w.heap.size + 1, 2, none⟩ (.slice none 0 0)).setCell ⟨w.heap.size + 1, 3, none⟩ (.bool false)).setCell ⟨w.heap.size + 1, 4, none⟩ (.slice none 0 0)) = ww2
    have hk : Kept [w.heap.size + 1] ww1 ww2 := by rw [← hW]; exact (((((Kept.refl _ _).setCell _ _ (by simp)).setCell _ _ (by simp)).setCell _ _ (by simp)).setCell _ _ (by simp)).setCell _ _ (by simp)
    have hfz : ∀ x, ww2.frozen? x = ww1.frozen? x := by rw [← hW]; intro x; simp only [World.frozen?_setCell]
    have e0 : ww2.cell? ⟨w.heap.size + 1, 0, none⟩ = some (.int .i64 3) := by rw [← hW]; rw [World.cell?_setCell_other _ _ _ _ (by simp), World.cell?_setCell_other _ _ _ _ (by simp), World.cell?_setCell_other _ _ _ _ (by simp), World.cell?_setCell_other _ _ _ _ (by simp)]; exact World.cell?_setCell_same _ _ _ (by exact nR0.out)
    have e1 : ww2.cell? ⟨w.heap.size + 1, 1, none⟩ = some (.bool false) := by rw [← hW]; rw [World.cell?_setCell_other _ _ _ _ (by simp), World.cell?_setCell_other _ _ _ _ (by simp), World.cell?_setCell_other _ _ _ _ (by simp)]; exact World.cell?_setCell_same _ _ _ (by rw [World.cell?_setCell_other _ _ _ _ (by simp)]; exact nR1.out)
    have e2 : ww2.cell? ⟨w.heap.size + 1, 2, none⟩ = some (.slice none 0 0) := by rw [← hW]; rw [World.cell?_setCell_other _ _ _ _ (by simp), World.cell?_setCell_other _ _ _ _ (by simp)]; exact World.cell?_setCell_same _ _ _ (by rw [World.cell?_setCell_other _ _ _ _ (by simp), World.cell?_setCell_other _ _ _ _ (by simp)]; exact nR2.out)
    have e3 : ww2.cell? ⟨w.heap.size + 1, 3, none⟩ = some (.bool false) := by rw [← hW]; rw [World.cell?_setCell_other _ _ _ _ (by simp)]; exact World.cell?_setCell_same _ _ _ (by rw [World.cell?_setCell_other _ _ _ _ (by simp), World.cell?_setCell_other _ _ _ _ (by simp), World.cell?_setCell_other _ _ _ _ (by simp)]; exact nR3.out)
    have e4 : ww2.cell? ⟨w.heap.size + 1, 4, none⟩ = some (.slice none 0 0) := by rw [← hW]; exact World.cell?_setCell_same _ _ _ (by rw [World.cell?_setCell_other _ _ _ _ (by simp), World.cell?_setCell_other _ _ _ _ (by simp), World.cell?_setCell_other _ _ _ _ (by simp), World.cell?_setCell_other _ _ _ _ (by simp)]; exact nR4.out)
    have z2 := hk.size
    replace fR0 := Lib.hid (show ww2.frozen? ⟨w.heap.size + 1, 0, none⟩ = false by rw [hfz]; exact fR0.out)
    replace fR1 := Lib.hid (show ww2.frozen? ⟨w.heap.size + 1, 1, none⟩ = false by rw [hfz]; exact fR1.out)
    replace fR2 := Lib.hid (show ww2.frozen? ⟨w.heap.size + 1, 2, none⟩ = false by rw [hfz]; exact fR2.out)
    replace fR3 := Lib.hid (show ww2.frozen? ⟨w.heap.size + 1, 3, none⟩ = false by rw [hfz]; exact fR3.out)
    replace fR4 := Lib.hid (show ww2.frozen? ⟨w.heap.size + 1, 4, none⟩ = false by rw [hfz]; exact fR4.out)
    replace nA0 := Lib.hid (hk.cell (p := ⟨w.heap.size, 0, none⟩) nA0.out (by simp <;> omega))
    replace nA1 := Lib.hid (hk.cell (p := ⟨w.heap.size, 1, none⟩) nA1.out (by simp <;> omega))
    replace nA2 := Lib.hid (hk.cell (p := ⟨w.heap.size, 2, none⟩) nA2.out (by simp <;> omega))
    replace nA3 := Lib.hid (hk.cell (p := ⟨w.heap.size, 3, none⟩) nA3.out (by simp <;> omega))
    replace H1 := Lib.hid (H1.out.kept hk (fun hn y hy hm => by have h9 := F1.out hn y hy; simp at hm; omega))
    replace H2 := Lib.hid (H2.out.kept hk (fun hn y hy hm => by have h9 := F2.out hn y hy; simp at hm; omega))
    replace nR0 := Lib.hid e0
    replace nR1 := Lib.hid e1
    replace nR2 := Lib.hid e2
    replace nR3 := Lib.hid e3
    replace nR4 := Lib.hid e4
    replace KT := Lib.hid (KT.out.trans hk (fun x hx hlt => by simp at hx; omega))
    clear hk hfz hW e0 e1 e2 e3 e4
    have e0 := nR0.out
    have e1 := nR1.out
    have e2 := nR2.out
    have e3 := nR3.out
    have e4 := nR4.out
    refine bodyPost_ret (v := .agg #[.int .i64 3, .bool false, .slice none 0 0, .bool false, .slice none 0 0]) (by simp [results, Try.results19, go_sem, e0, e1, e2, e3, e4]) rfl ?_
    exact spanM_no KT.out

end Go.Proofs.Ytklgaclhpifdiaa
