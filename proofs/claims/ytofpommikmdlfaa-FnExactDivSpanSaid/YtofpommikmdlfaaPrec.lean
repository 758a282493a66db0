/-
  Contracts of precisionFault over one span and over two, and the model's l3Asked. Conditions: the limbs read as lists of numbers.
-/
import Derived.Deep.RegionHeld3
import Derived.Deep.DrawnRows
import Derived.Deep.DeepCutAuto
import Derived.Test.YtofpommikmdlfaaJ5
import Derived.Test.YtofpommikmdlfaaSpanG
namespace Go.Proofs.Ytofpommikmdlfaa
open Go.RowKit

set_option maxRecDepth 20000 in
set_option maxHeartbeats 2000000 in
theorem isPrecision_same (P : Int) (w : World) : Calls Try.prog 48 #[.int .i64 P] w (fun e w' => e = .returned (.bool (isP P)) ∧ w' = w) := by
  unfold isP
  by_cases h1 : P = 48
  · subst h1
    go_enter Try.func48, Try.ntmps48
    go_wp2
    go_ret
    exact ⟨rfl, rfl⟩
  · by_cases h2 : P = 72
    · subst h2
      go_enter Try.func48, Try.ntmps48
      go_wp2
      go_ret
      exact ⟨rfl, rfl⟩
    · by_cases h3 : P = 96
      · subst h3
        go_enter Try.func48, Try.ntmps48
        go_wp2
        go_ret
        exact ⟨rfl, rfl⟩
      · have e1 : (P == 48) = false := by simpa using h1
        have e2 : (P == 72) = false := by simpa using h2
        have e3 : (P == 96) = false := by simpa using h3
        have HE := Lib.hid (show decide (P = 48 ∨ P = 72 ∨ P = 96) = false from decide_eq_false (by omega))
        clear h1 h2 h3
        go_enter Try.func48, Try.ntmps48
        go_wp2
        go_ret
        exact ⟨by rw [HE.out] <;> rfl, rfl⟩
/-- The code of a precision, or else that of a span. -/
def precS (P : Int) (f : Int) : Int := if isP P = true then f else 3
set_option maxHeartbeats 2000000 in
set_option maxRecDepth 20000 in
theorem precisionFault_one (P : Int) (g : Nat) (p q : Bool) (a b : Option Addr) (n c m d : Nat) (xs ys : List Int) (w : World) (hg : g = w.heap.size) (h1 : Sl w a n c xs) (h2 : Sl w b m d ys) :
    Calls Try.prog 22 #[.int .i64 P, .func (.func 23) #[] #[], .slice (some ⟨g, 0, none⟩) 1 1] (w.alloc (.cells #[.bool p, .slice a n c, .bool q, .slice b m d] 30)) (Ans w (.int .i64 (precS P (spanFault p xs q ys)))) := by
  have H1 := Lib.hid h1
  have H2 := Lib.hid h2
  clear h1 h2
  subst hg
  by_cases hP : isP P = true
  · rw [show precS P (spanFault p xs q ys) = spanFault p xs q ys from if_pos hP]
    have HP := Lib.hid hP
    clear hP
    go_enter Try.func22, Try.ntmps22
    go_wp2_with fail
    refine (isPrecision_same _ _).mono ?_
    rintro e w1 ⟨rfl, rfl⟩
    rw [HP.out]
    go_wp2_with fail
    refine (firstSpanFault_one _ _ _ _ _ _ _ _ _ _ _ _ rfl H1.out H2.out).mono ?_
    rintro e w2 ⟨rfl, hk⟩
    have HK := Lib.hid hk
    clear hk
    go_wp2_with fail
    go_ret
    exact ⟨rfl, HK.out⟩
  · rw [show precS P (spanFault p xs q ys) = 3 from if_neg hP]
    have HP := Lib.hid (show isP P = false by simpa using hP)
    clear hP
    go_enter Try.func22, Try.ntmps22
    go_wp2_with fail
    refine (isPrecision_same _ _).mono ?_
    rintro e w1 ⟨rfl, rfl⟩
    rw [HP.out]
    go_wp2_with fail
    go_ret
    exact ⟨rfl, (Kept.refl [] w).alloc _⟩
set_option maxHeartbeats 2000000 in
set_option maxRecDepth 20000 in
theorem precisionFault_two (P : Int) (g : Nat) (p q : Bool) (a b : Option Addr) (n c m d : Nat) (xs ys : List Int) (p' q' : Bool) (a' b' : Option Addr) (n' c' m' d' : Nat) (xs' ys' : List Int) (w : World) (hg : g = w.heap.size) (h1 : Sl w a n c xs) (h2 : Sl w b m d ys) (h3 : Sl w a' n' c' xs') (h4 : Sl w b' m' d' ys') :
    Calls Try.prog 22 #[.int .i64 P, .func (.func 23) #[] #[], .slice (some ⟨g, 0, none⟩) 2 2] (w.alloc (.cells #[.bool p, .slice a n c, .bool q, .slice b m d, .bool p', .slice a' n' c', .bool q', .slice b' m' d'] 30)) (Ans w (.int .i64 (precS P (spanFault2 p xs q ys p' xs' q' ys')))) := by
  have H1 := Lib.hid h1
  have H2 := Lib.hid h2
  have H3 := Lib.hid h3
  have H4 := Lib.hid h4
  clear h1 h2 h3 h4
  subst hg
  by_cases hP : isP P = true
  · rw [show precS P (spanFault2 p xs q ys p' xs' q' ys') = spanFault2 p xs q ys p' xs' q' ys' from if_pos hP]
    have HP := Lib.hid hP
    clear hP
    go_enter Try.func22, Try.ntmps22
    go_wp2_with fail
    refine (isPrecision_same _ _).mono ?_
    rintro e w1 ⟨rfl, rfl⟩
    rw [HP.out]
    go_wp2_with fail
    refine (firstSpanFault_two _ _ _ _ _ _ _ _ _ _ _ _ _ _ _ _ _ _ _ _ _ _ rfl H1.out H2.out H3.out H4.out).mono ?_
    rintro e w2 ⟨rfl, hk⟩
    have HK := Lib.hid hk
    clear hk
    go_wp2_with fail
    go_ret
    exact ⟨rfl, HK.out⟩
  · rw [show precS P (spanFault2 p xs q ys p' xs' q' ys') = 3 from if_neg hP]
    have HP := Lib.hid (show isP P = false by simpa using hP)
    clear hP
    go_enter Try.func22, Try.ntmps22
    go_wp2_with fail
    refine (isPrecision_same _ _).mono ?_
    rintro e w1 ⟨rfl, rfl⟩
    rw [HP.out]
    go_wp2_with fail
    go_ret
    exact ⟨rfl, (Kept.refl [] w).alloc _⟩
set_option maxHeartbeats 4000000 in
set_option maxRecDepth 20000 in
theorem l3Asked_any (P : Int) (p q : Bool) (a b : Option Addr) (n c m d : Nat) (xs ys : List Int) (p' q' : Bool) (a' b' : Option Addr) (n' c' m' d' : Nat) (xs' ys' : List Int) (w : World) (h1 : Sl w a n c xs) (h2 : Sl w b m d ys) (h3 : Sl w a' n' c' xs') (h4 : Sl w b' m' d' ys') :
    Calls Try.prog 17 #[.int .i64 P, .agg #[.bool p, .slice a n c, .bool q, .slice b m d], .agg #[.bool p', .slice a' n' c', .bool q', .slice b' m' d']] w (Ans w (.int .i64 (precS P (spanFault2 p xs q ys p' xs' q' ys')))) := by
  have H1 := Lib.hid h1
  have H2 := Lib.hid h2
  have H3 := Lib.hid h3
  have H4 := Lib.hid h4
  clear h1 h2 h3 h4
  by_cases hP : isP P = true
  · skip
    rw [show precS P (spanFault2 p xs q ys p' xs' q' ys') = spanFault2 p xs q ys p' xs' q' ys' from if_pos hP]
    have HP := Lib.hid hP
    clear hP
    go_enter Try.func17, Try.ntmps17
    go_wp2_with fail
    generalize hW : ((w.alloc (.cells #[.bool p, .slice a n c, .bool q, .slice b m d] 30)).alloc (.cells #[.bool p', .slice a' n' c', .bool q', .slice b' m' d'] 30)) = ww0
    have hkk : Kept [] ((w.alloc (.cells #[.bool p, .slice a n c, .bool q, .slice b m d] 30)).alloc (.cells #[.bool p', .slice a' n' c', .bool q', .slice b' m' d'] 30)) ww0 := by rw [hW]; exact Kept.refl _ _
    have zzA : w.heap.size + 1 + 1 = ww0.heap.size := by rw [← hW]; simp
    obtain ⟨⟨nA0, nA1, nA2, nA3⟩, _⟩ := tp4 hkk.peel (g := w.heap.size) (by simp) (by simp)
    obtain ⟨⟨nB0, nB1, nB2, nB3⟩, _⟩ := tp4 hkk (g := w.heap.size + 1) (by simp) (by simp)
    have hk := hkk.peel.peel
    clear hkk hW
    have z0 := hk.size
    have KT := Lib.hid hk
    clear hk
    replace H1 := Lib.hid (H1.out.kept0 KT.out)
    replace H2 := Lib.hid (H2.out.kept0 KT.out)
    replace H3 := Lib.hid (H3.out.kept0 KT.out)
    replace H4 := Lib.hid (H4.out.kept0 KT.out)
    refine (l3Prec_any _ _).mono ?_
    rintro e ww1 ⟨rfl, hk⟩
    rw [HP.out]
    have z1 := hk.size
    replace nA0 := kc hk nA0
    replace nA1 := kc hk nA1
    replace nA2 := kc hk nA2
    replace nA3 := kc hk nA3
    replace nB0 := kc hk nB0
    replace nB1 := kc hk nB1
    replace nB2 := kc hk nB2
    replace nB3 := kc hk nB3
    replace H1 := Lib.hid (H1.out.kept0 hk)
    replace H2 := Lib.hid (H2.out.kept0 hk)
    replace H3 := Lib.hid (H3.out.kept0 hk)
    replace H4 := Lib.hid (H4.out.kept0 hk)
    replace KT := Lib.hid (KT.out.trans0 hk)
    clear hk
    have tA0 := nA0.out
    have tA1 := nA1.out
    have tA2 := nA2.out
    have tA3 := nA3.out
    have tB0 := nB0.out
    have tB1 := nB1.out
    have tB2 := nB2.out
    have tB3 := nB3.out
    go_wp2_with fail
    clear tA0 tA1 tA2 tA3 tB0 tB1 tB2 tB3
    refine (l3Two_any _ _ _ _ _ _ _ _ _ _ _ _ _ _ _ _ _ _ _ _ _ H1.out H2.out H3.out H4.out).mono ?_
    rintro e ww2 ⟨rfl, hk⟩
    have z2 := hk.size
    replace nA0 := kc hk nA0
    replace nA1 := kc hk nA1
    replace nA2 := kc hk nA2
    replace nA3 := kc hk nA3
    replace nB0 := kc hk nB0
    replace nB1 := kc hk nB1
    replace nB2 := kc hk nB2
    replace nB3 := kc hk nB3
    replace H1 := Lib.hid (H1.out.kept0 hk)
    replace H2 := Lib.hid (H2.out.kept0 hk)
    replace H3 := Lib.hid (H3.out.kept0 hk)
    replace H4 := Lib.hid (H4.out.kept0 hk)
    replace KT := Lib.hid (KT.out.trans0 hk)
    clear hk
    go_wp2_with fail
    go_ret
    exact ⟨rfl, KT.out⟩
  · skip
    rw [show precS P (spanFault2 p xs q ys p' xs' q' ys') = 3 from if_neg hP]
    have HP := Lib.hid (show isP P = false by simpa using hP)
    clear hP
    go_enter Try.func17, Try.ntmps17
    go_wp2_with fail
    generalize hW : ((w.alloc (.cells #[.bool p, .slice a n c, .bool q, .slice b m d] 30)).alloc (.cells #[.bool p', .slice a' n' c', .bool q', .slice b' m' d'] 30)) = ww0
    have hkk : Kept [] ((w.alloc (.cells #[.bool p, .slice a n c, .bool q, .slice b m d] 30)).alloc (.cells #[.bool p', .slice a' n' c', .bool q', .slice b' m' d'] 30)) ww0 := by rw [hW]; exact Kept.refl _ _
    have zzA : w.heap.size + 1 + 1 = ww0.heap.size := by rw [← hW]; simp
    obtain ⟨⟨nA0, nA1, nA2, nA3⟩, _⟩ := tp4 hkk.peel (g := w.heap.size) (by simp) (by simp)
    obtain ⟨⟨nB0, nB1, nB2, nB3⟩, _⟩ := tp4 hkk (g := w.heap.size + 1) (by simp) (by simp)
    have hk := hkk.peel.peel
    clear hkk hW
    have z0 := hk.size
    have KT := Lib.hid hk
    clear hk
    replace H1 := Lib.hid (H1.out.kept0 KT.out)
    replace H2 := Lib.hid (H2.out.kept0 KT.out)
    replace H3 := Lib.hid (H3.out.kept0 KT.out)
    replace H4 := Lib.hid (H4.out.kept0 KT.out)
    refine (l3Prec_any _ _).mono ?_
    rintro e ww1 ⟨rfl, hk⟩
    rw [HP.out]
    have z1 := hk.size
    replace nA0 := kc hk nA0
    replace nA1 := kc hk nA1
    replace nA2 := kc hk nA2
    replace nA3 := kc hk nA3
    replace nB0 := kc hk nB0
    replace nB1 := kc hk nB1
    replace nB2 := kc hk nB2
    replace nB3 := kc hk nB3
    replace H1 := Lib.hid (H1.out.kept0 hk)
    replace H2 := Lib.hid (H2.out.kept0 hk)
    replace H3 := Lib.hid (H3.out.kept0 hk)
    replace H4 := Lib.hid (H4.out.kept0 hk)
    replace KT := Lib.hid (KT.out.trans0 hk)
    clear hk
    go_wp2_with fail
    go_ret
    exact ⟨rfl, KT.out⟩

end Go.Proofs.Ytofpommikmdlfaa
