/-
  Joined texts.
-/
import Derived.Deep.RegionHeld3
import Derived.Deep.DrawnRows
import Derived.Deep.DeepCutAuto
import Derived.Test.YtfafjijoeanbhaaGreatJ5
import Derived.Test.YtfafjijoeanbhaaGreatSpanG
import Derived.Test.YtfafjijoeanbhaaGreatSqA
namespace Go.Proofs.YtfafjijoeanbhaaGreat
open Go.RowKit

set_option maxRecDepth 20000 in
set_option maxHeartbeats 2000000 in
theorem isPrecision_same (P : Int) (w : World) : Calls Tryz.prog 46 #[.int .i64 P] w (fun e w' => e = .returned (.bool (isP P)) ∧ w' = w) := by
 unfold isP
 by_cases h1 : P = 48
 ·subst h1
  go_enter Tryz.func46, Tryz.ntmps46
  go_wp2
  go_ret
  exact ⟨rfl, rfl⟩
 ·by_cases h2 : P = 72
  ·subst h2
   go_enter Tryz.func46, Tryz.ntmps46
   go_wp2
   go_ret
   exact ⟨rfl, rfl⟩
  ·by_cases h3 : P = 96
   ·subst h3
    go_enter Tryz.func46, Tryz.ntmps46
    go_wp2
    go_ret
    exact ⟨rfl, rfl⟩
   ·have e1 : (P == 48) = false := by simpa using h1
    have e2 : (P == 72) = false := by simpa using h2
    have e3 : (P == 96) = false := by simpa using h3
    have HE := Lib.hid (show decide (P = 48 ∨ P = 72 ∨ P = 96) = false from decide_eq_false (by omega))
    clear h1 h2 h3
    go_enter Tryz.func46, Tryz.ntmps46
    go_wp2
    go_ret
    exact ⟨by rw [HE.out] <;> rfl, rfl⟩
/-- The code of a precision, or else that of a span. -/
def precS (P : Int) (f : Int) : Int := if isP P = true then f else 3
set_option maxHeartbeats 2000000 in
set_option maxRecDepth 20000 in
theorem precisionFault_one (P : Int) (g : Nat) (p q : Bool) (a b : Option Addr) (n c m d : Nat) (xs ys : List Int) (w : World) (hg : g = w.heap.size) (h1 : Sl w a n c xs) (h2 : Sl w b m d ys) :
  Calls Tryz.prog 83 #[.int .i64 P, .func (.func 84) #[] #[], .slice (some ⟨g, 0, none⟩) 1 1] (w.alloc (.cells #[.bool p, .slice a n c, .bool q, .slice b m d] 26)) (Ans w (.int .i64 (precS P (spanFault p xs q ys)))) := by
 have H1 := Lib.hid h1
 have H2 := Lib.hid h2
 clear h1 h2
 subst hg
 by_cases hP : isP P = true
 ·rw [show precS P (spanFault p xs q ys) = spanFault p xs q ys from if_pos hP]
  have HP := Lib.hid hP
  clear hP
  go_enter Tryz.func83, Tryz.ntmps83
  go_wp2_with fail
  refine (isPrecision_same _ _).mono ?_
  rintro e w1 ⟨rfl, rfl⟩
  rw [HP.out]
  go_wp2_with fail
  refine (firstSpanFault_one _ _ _ _ _ _ _ _ _ _ _ _ rfl H1.out H2.out).mono ?_
  rintro e w2 ⟨rfl, hk⟩
  have HK := Lib.hid hk
  clear hk
  go_wp2_with fail
  go_ret
  exact ⟨rfl, HK.out⟩
 ·rw [show precS P (spanFault p xs q ys) = 3 from if_neg hP]
  have HP := Lib.hid (show isP P = false by simpa using hP)
  clear hP
  go_enter Tryz.func83, Tryz.ntmps83
  go_wp2_with fail
  refine (isPrecision_same _ _).mono ?_
  rintro e w1 ⟨rfl, rfl⟩
  rw [HP.out]
  go_wp2_with fail
  go_ret
  exact ⟨rfl, (Kept.refl [] w).alloc _⟩
set_option maxHeartbeats 2000000 in
set_option maxRecDepth 20000 in
theorem precisionFault_two (P : Int) (g : Nat) (p q : Bool) (a b : Option Addr) (n c m d : Nat) (xs ys : List Int) (p' q' : Bool) (a' b' : Option Addr) (n' c' m' d' : Nat) (xs' ys' : List Int) (w : World) (hg : g = w.heap.size) (h1 : Sl w a n c xs) (h2 : Sl w b m d ys) (h3 : Sl w a' n' c' xs') (h4 : Sl w b' m' d' ys') :
  Calls Tryz.prog 83 #[.int .i64 P, .func (.func 84) #[] #[], .slice (some ⟨g, 0, none⟩) 2 2] (w.alloc (.cells #[.bool p, .slice a n c, .bool q, .slice b m d, .bool p', .slice a' n' c', .bool q', .slice b' m' d'] 26)) (Ans w (.int .i64 (precS P (spanFault2 p xs q ys p' xs' q' ys')))) := by
 have H1 := Lib.hid h1
 have H2 := Lib.hid h2
 have H3 := Lib.hid h3
 have H4 := Lib.hid h4
 clear h1 h2 h3 h4
 subst hg
 by_cases hP : isP P = true
 ·rw [show precS P (spanFault2 p xs q ys p' xs' q' ys') = spanFault2 p xs q ys p' xs' q' ys' from if_pos hP]
  have HP := Lib.hid hP
  clear hP
  go_enter Tryz.func83, Tryz.ntmps83
  go_wp2_with fail
  refine (isPrecision_same _ _).mono ?_
  rintro e w1 ⟨rfl, rfl⟩
  rw [HP.out]
  go_wp2_with fail
  refine (firstSpanFault_two _ _ _ _ _ _ _ _ _ _ _ _ _ _ _ _ _ _ _ _ _ _ rfl H1.out H2.out H3.out H4.out).mono ?_
  rintro e w2 ⟨rfl, hk⟩
  have HK := Lib.hid hk
  clear hk
  go_wp2_with fail
  go_ret
  exact ⟨rfl, HK.out⟩
 ·rw [show precS P (spanFault2 p xs q ys p' xs' q' ys') = 3 from if_neg hP]
  have HP := Lib.hid (show isP P = false by simpa using hP)
  clear hP
  go_enter Tryz.func83, Tryz.ntmps83
  go_wp2_with fail
  refine (isPrecision_same _ _).mono ?_
  rintro e w1 ⟨rfl, rfl⟩
  rw [HP.out]
  go_wp2_with fail
  go_ret
  exact ⟨rfl, (Kept.refl [] w).alloc _⟩
end Go.Proofs.YtfafjijoeanbhaaGreat
namespace Go.Proofs.YtfafjijoeanbhaaGreat
open Go.RowKit

/-- The answer where the precision is one and the spans have no fault. -/
def askS (P f : Int) (r : SV) : SV := if isP P = true then twoS f r else noSpan 3
theorem askS_ok {P f : Int} {r : SV} (hP : isP P = true) (hf : f = 0) : askS P f r = r := by unfold askS; rw [if_pos hP, twoS_zero hf]
theorem askS_bad {P f : Int} {r : SV} (hP : isP P = true) (hf : f ≠ 0) : askS P f r = noSpan f := by unfold askS; rw [if_pos hP, twoS_not hf]
theorem askS_no {P f : Int} {r : SV} (hP : ¬ isP P = true) : askS P f r = noSpan 3 := by unfold askS; rw [if_neg hP]
def mulLow (p : Bool) (xs : List Int) (q : Bool) (ys : List Int) (p' : Bool) (xs' : List Int) (q' : Bool) (ys' : List Int) : Int := min4 (sv p xs * sv p' xs') (sv p xs * sv q' ys') (sv q ys * sv p' xs') (sv q ys * sv q' ys')
def mulHigh (p : Bool) (xs : List Int) (q : Bool) (ys : List Int) (p' : Bool) (xs' : List Int) (q' : Bool) (ys' : List Int) : Int := max4 (sv p xs * sv p' xs') (sv p xs * sv q' ys') (sv q ys * sv p' xs') (sv q ys * sv q' ys')
def mulS (P : Int) (p : Bool) (xs : List Int) (q : Bool) (ys : List Int) (p' : Bool) (xs' : List Int) (q' : Bool) (ys' : List Int) : SV :=
 askS P (spanFault2 p xs q ys p' xs' q' ys') (fitS (outZ false (mulLow p xs q ys p' xs' q' ys') P.toNat) (outZ true (mulHigh p xs q ys p' xs' q' ys') P.toNat))
def sqS (P : Int) (p : Bool) (xs : List Int) (q : Bool) (ys : List Int) : SV :=
 askS P (spanFault p xs q ys) (fitS (outZ false (sqLow p xs q ys) P.toNat) (outZ true (sqHigh p xs q ys) P.toNat))
end Go.Proofs.YtfafjijoeanbhaaGreat
