/-
  Joined texts.
-/
import Derived.Deep.RegionHeld3
import Derived.Deep.DrawnRows
import Derived.Deep.DeepCutAuto
import Derived.Test.YtklgaclhpifdiaaGreatArcl4Arc
import Derived.Test.YtklgaclhpifdiaaGreatArcNear
import Derived.Test.YtklgaclhpifdiaaGreatSumT
import Derived.Test.YtklgaclhpifdiaaGreatArcFn
import Derived.Test.YtklgaclhpifdiaaGreatTermsB
namespace Go.Proofs.YtklgaclhpifdiaaGreat
open Go.RowKit

attribute [local go_sem ↓] field_big field_span field_end0 field_end1
/-- What ArcSeries answers. -/
def arcSS (P : Int) (p : Bool) (xs : List Int) (q : Bool) (ys : List Int) : SV :=
  if farC P 1 p xs q ys = 0 then ⟨0, (arc2 P.toNat ⟨sv p xs, sv q ys⟩).lo, (arc2 P.toNat ⟨sv p xs, sv q ys⟩).hi⟩ else noSpan (farC P 1 p xs q ys)
theorem arcSS_bad {P : Int} {p q : Bool} {xs ys : List Int} (h : farC P 1 p xs q ys ≠ 0) : arcSS P p xs q ys = noSpan (farC P 1 p xs q ys) := if_neg h
theorem arcSS_ok {k : Nat} {x1 x2 : Int} (h : farC (k : Int) 1 (isNeg x1) (mag x1) (isNeg x2) (mag x2) = 0) :
    arcSS (k : Int) (isNeg x1) (mag x1) (isNeg x2) (mag x2) = ⟨0, (arc2 k ⟨x1, x2⟩).lo, (arc2 k ⟨x1, x2⟩).hi⟩ := by
  unfold arcSS; rw [if_pos h, sv_mag, sv_mag]; rfl
theorem farC_pre {P n : Int} {p q : Bool} {xs ys : List Int} (h : farC P n p xs q ys = 0) : precS P (spanFault p xs q ys) = 0 := by
  unfold farC at h
  by_cases h0 : precS P (spanFault p xs q ys) = 0
  · exact h0
  · rw [if_neg h0] at h; exact h
theorem far_in {k : Nat} {n x1 x2 : Int} (fx : x1 ≤ x2) (hp : precS (k : Int) (spanFault (isNeg x1) (mag x1) (isNeg x2) (mag x2)) = 0) (h : farC (k : Int) n (isNeg x1) (mag x1) (isNeg x2) (mag x2) = 0) : In2 (n * p2 k) ⟨x1, x2⟩ := by
  rw [farC_ok hp] at h
  have h1 : away2 ⟨x1, x2⟩ ≤ n * p2 k := by
    by_cases hh : n * p2 k < away2 ⟨x1, x2⟩
    · rw [if_pos hh] at h; omega
    · omega
  obtain ⟨m, hm⟩ : ∃ m, m = n * p2 k := ⟨_, rfl⟩
  rw [← hm] at h1 ⊢
  unfold away2 maxZ abZ at h1
  unfold In2
  dsimp only at h1 ⊢
  (repeat' split at h1) <;> omega
theorem arcSS_short (P : Int) (p : Bool) (xs : List Int) (q : Bool) (ys : List Int) : Short (arcSS P p xs q ys) := by
  by_cases hz : farC P 1 p xs q ys = 0
  · obtain ⟨hP, hf0⟩ := precS_zero (farC_pre hz)
    obtain ⟨k, rfl, hk96, _⟩ := isP_nat hP
    obtain ⟨x1, x2, rfl, rfl, rfl, rfl, fx⟩ := ok_letters (spanFault_zero hf0)
    rw [arcSS_ok hz]
    have h1 := far_in fx.1 (farC_pre hz) hz
    rw [Int.one_mul] at h1
    have h2 := (arc2_in h1 hk96).fitU hk96 (by omega)
    exact ⟨h2.2.1, h2.2.2⟩
  · rw [arcSS_bad hz]; exact noSpan_short _

set_option maxHeartbeats 4000000 in
set_option maxRecDepth 20000 in
theorem sArcSeries_any (P : Int) (p q : Bool) (a b : Option Addr) (n c m d : Nat) (xs ys : List Int) (w : World) (h1 : Sl w a n c xs) (h2 : Sl w b m d ys) :
    Calls Tryz.prog 15 #[.int .i64 P, .agg #[.bool p, .slice a n c, .bool q, .slice b m d]] w (SpanM w (arcSS P p xs q ys)) := by
  by_cases hz : farC P 1 p xs q ys = 0
  · skip
    obtain ⟨hP, hf0⟩ := precS_zero (farC_pre hz)
    obtain ⟨k, rfl, hk96, hk16⟩ := isP_nat hP
    obtain ⟨x1, x2, rfl, rfl, rfl, rfl, fx⟩ := ok_letters (spanFault_zero hf0)
    have ea := h1.1
    have eb := h2.1
    subst ea eb
    have hin := far_in fx.1 (farC_pre hz) hz
    rw [Int.one_mul] at hin
    obtain ⟨o1, o2, ho⟩ : ∃ o1 o2 : Int, (⟨o1, o2⟩ : Z2) = arc2 k ⟨x1, x2⟩ := ⟨_, _, rfl⟩
    have fo : Fit2 ⟨o1, o2⟩ := by rw [ho]; exact (arc2_in hin hk96).fitU hk96 (by omega)
    rw [arcSS_ok hz, ← ho]
    have H1 := Lib.hid h1
    have H2 := Lib.hid h2
    have F1 := Lib.hid h1.lt
    have F2 := Lib.hid h2.lt
    have HF := Lib.hid hz
    have HP := Lib.hid hP
    have HIN := Lib.hid hin
    have HO := Lib.hid ho
    clear h1 h2 hz hP hf0 hin ho fx fo
    go_enter Tryz.func15, Tryz.ntmps15
    go_wp2_with fail
    generalize hW : ((w.alloc (.cells #[.bool (isNeg x1), .slice a (mag x1).length c, .bool (isNeg x2), .slice b (mag x2).length d] 26)).alloc (.cells #[.int .i64 0, .bool false, .slice none 0 0, .bool false, .slice none 0 0] 28)) = ww0
    have hkk : Kept [] ((w.alloc (.cells #[.bool (isNeg x1), .slice a (mag x1).length c, .bool (isNeg x2), .slice b (mag x2).length d] 26)).alloc (.cells #[.int .i64 0, .bool false, .slice none 0 0, .bool false, .slice none 0 0] 28)) ww0 := by rw [hW]; exact Kept.refl _ _
    have zzA : w.heap.size + 1 + 1 = ww0.heap.size := by rw [← hW]; simp
    have nA0 := Lib.hid (hkk.peel.top (g := w.heap.size) (by simp) (by simp) 0 (v := .bool (isNeg x1)) rfl).1
    have nA1 := Lib.hid (hkk.peel.top (g := w.heap.size) (by simp) (by simp) 1 (v := .slice a (mag x1).length c) rfl).1
    have nA2 := Lib.hid (hkk.peel.top (g := w.heap.size) (by simp) (by simp) 2 (v := .bool (isNeg x2)) rfl).1
    have nA3 := Lib.hid (hkk.peel.top (g := w.heap.size) (by simp) (by simp) 3 (v := .slice b (mag x2).length d) rfl).1
    have nR0 := Lib.hid (hkk.top (g := w.heap.size + 1) (by simp) (by simp) 0 (v := .int .i64 0) rfl).1
    have fR0 := Lib.hid (hkk.top (g := w.heap.size + 1) (by simp) (by simp) 0 (v := .int .i64 0) rfl).2.1
    have nR1 := Lib.hid (hkk.top (g := w.heap.size + 1) (by simp) (by simp) 1 (v := .bool false) rfl).1
    have fR1 := Lib.hid (hkk.top (g := w.heap.size + 1) (by simp) (by simp) 1 (v := .bool false) rfl).2.1
    have nR2 := Lib.hid (hkk.top (g := w.heap.size + 1) (by simp) (by simp) 2 (v := .slice none 0 0) rfl).1
    have fR2 := Lib.hid (hkk.top (g := w.heap.size + 1) (by simp) (by simp) 2 (v := .slice none 0 0) rfl).2.1
    have nR3 := Lib.hid (hkk.top (g := w.heap.size + 1) (by simp) (by simp) 3 (v := .bool false) rfl).1
    have fR3 := Lib.hid (hkk.top (g := w.heap.size + 1) (by simp) (by simp) 3 (v := .bool false) rfl).2.1
    have nR4 := Lib.hid (hkk.top (g := w.heap.size + 1) (by simp) (by simp) 4 (v := .slice none 0 0) rfl).1
    have fR4 := Lib.hid (hkk.top (g := w.heap.size + 1) (by simp) (by simp) 4 (v := .slice none 0 0) rfl).2.1
    have hk := hkk.peel.peel
    clear hkk hW
    have z0 := hk.size
    have KT := Lib.hid hk
    clear hk
    replace H1 := Lib.hid (H1.out.kept0 KT.out)
    replace H2 := Lib.hid (H2.out.kept0 KT.out)
    have tA0 := nA0.out
    have tA1 := nA1.out
    have tA2 := nA2.out
    have tA3 := nA3.out
    go_wp2_with fail
    clear tA0 tA1 tA2 tA3
    refine (l4Asked_any (k : Int) 1 _ _ _ _ _ _ _ _ _ _ _ H1.out H2.out (by omega) (by omega)).mono ?_
    intro e v1 hh; obtain ⟨hh, hk1⟩ := hh; subst hh
    have hk := hk1
    have z1 := hk.size
    replace fR0 := kf hk nR0 fR0
    replace fR1 := kf hk nR1 fR1
    replace fR2 := kf hk nR2 fR2
    replace fR3 := kf hk nR3 fR3
    replace fR4 := kf hk nR4 fR4
    replace nA0 := kc hk nA0
    replace nA1 := kc hk nA1
    replace nA2 := kc hk nA2
    replace nA3 := kc hk nA3
    replace nR0 := kc hk nR0
    replace nR1 := kc hk nR1
    replace nR2 := kc hk nR2
    replace nR3 := kc hk nR3
    replace nR4 := kc hk nR4
    replace H1 := Lib.hid (H1.out.kept0 hk)
    replace H2 := Lib.hid (H2.out.kept0 hk)
    replace KT := Lib.hid (KT.out.trans0 hk)
    clear hk
    rw [HF.out]
    have tA0 := nA0.out
    have tA1 := nA1.out
    have tA2 := nA2.out
    have tA3 := nA3.out
    go_wp2_with fail
    clear tA0 tA1 tA2 tA3
    refine (l4Arc_zz k x1 x2 _ _ _ _ o1 o2 _ H1.out H2.out HP.out HIN.out HO.out).mono ?_
    intro e v2 hh; unfold SpanV at hh; obtain ⟨b2, hh⟩ := hh; obtain ⟨c2, hh⟩ := hh; obtain ⟨d2, hh⟩ := hh; obtain ⟨m2, hh, hs2, ht2, hf2, hg2, hk2⟩ := hh; subst hh
    have S1 := Lib.hid hs2
    have GS1 := Lib.hid (hf2.mono (B' := v1.heap.size) (by simp))
    have US1 := Lib.hid S1.out.lt
    have S2 := Lib.hid ht2
    have GS2 := Lib.hid (hg2.mono (B' := v1.heap.size) (by simp))
    have US2 := Lib.hid S2.out.lt
    have hk := hk2
    have z2 := hk.size
    replace fR0 := kf hk nR0 fR0
    replace fR1 := kf hk nR1 fR1
    replace fR2 := kf hk nR2 fR2
    replace fR3 := kf hk nR3 fR3
    replace fR4 := kf hk nR4 fR4
    replace nA0 := kc hk nA0
    replace nA1 := kc hk nA1
    replace nA2 := kc hk nA2
    replace nA3 := kc hk nA3
    replace nR0 := kc hk nR0
    replace nR1 := kc hk nR1
    replace nR2 := kc hk nR2
    replace nR3 := kc hk nR3
    replace nR4 := kc hk nR4
    replace H1 := Lib.hid (H1.out.kept0 hk)
    replace H2 := Lib.hid (H2.out.kept0 hk)
    replace KT := Lib.hid (KT.out.trans0 hk)
    clear hk
    have tR0 := nR0.out
    have tR1 := nR1.out
    have tR2 := nR2.out
    have tR3 := nR3.out
    have tR4 := nR4.out
    have uR0 := fR0.out
    have uR1 := fR1.out
    have uR2 := fR2.out
    have uR3 := fR3.out
    have uR4 := fR4.out
    go_wp2_with fail
    clear tR0 tR1 tR2 tR3 tR4 uR0 uR1 uR2 uR3 uR4
    generalize hW : (((((v2.setCell ⟨w.heap.size + 1, 0, none⟩ (.int .i64 0)).setCell ⟨w.heap.size + 1, 1, none⟩ (.bool (isNeg o1))).setCell ⟨w.heap.size + 1, 2, none⟩ (.slice b2 (mag o1).length c2)).setCell ⟨w.heap.size + 1, 3, none⟩ (.bool (isNeg o2))).setCell ⟨w.heap.size + 1, 4, none⟩ (.slice d2 (mag o2).length m2)) = ww3
    have hk : Kept [w.heap.size + 1] v2 ww3 := by rw [← hW]; exact (((((Kept.refl _ _).setCell _ _ (by simp)).setCell _ _ (by simp)).setCell _ _ (by simp)).setCell _ _ (by simp)).setCell _ _ (by simp)
    have hfz : ∀ x, ww3.frozen? x = v2.frozen? x := by rw [← hW]; intro x; simp only [World.frozen?_setCell]
    obtain ⟨e0, e1, e2, e3, e4⟩ := st5 hW.symm nR0.out nR1.out nR2.out nR3.out nR4.out
    have z3 := hk.size
    replace fR0 := kz hfz fR0
    replace fR1 := kz hfz fR1
    replace fR2 := kz hfz fR2
    replace fR3 := kz hfz fR3
    replace fR4 := kz hfz fR4
    replace nA0 := kd hk nA0 (by simp <;> omega)
    replace nA1 := kd hk nA1 (by simp <;> omega)
    replace nA2 := kd hk nA2 (by simp <;> omega)
    replace nA3 := kd hk nA3 (by simp <;> omega)
    replace H1 := Lib.hid (H1.out.kept hk (fun hn y hy hm => by have h9 := F1.out hn y hy; simp at hm; omega))
    replace H2 := Lib.hid (H2.out.kept hk (fun hn y hy hm => by have h9 := F2.out hn y hy; simp at hm; omega))
    replace S1 := Lib.hid (S1.out.kept hk (fun hn y hy hm => by have h9 := GS1.out hn y hy; simp at hm; omega))
    replace S2 := Lib.hid (S2.out.kept hk (fun hn y hy hm => by have h9 := GS2.out hn y hy; simp at hm; omega))
    replace nR0 := Lib.hid e0
    replace nR1 := Lib.hid e1
    replace nR2 := Lib.hid e2
    replace nR3 := Lib.hid e3
    replace nR4 := Lib.hid e4
    replace KT := Lib.hid (KT.out.trans hk (fun x hx hlt => by simp at hx; omega))
    clear hk hfz hW e0 e1 e2 e3 e4
    have e0 := nR0.out
    have e1 := nR1.out
    have e2 := nR2.out
    have e3 := nR3.out
    have e4 := nR4.out
    refine bodyPost_ret (v := .agg #[.int .i64 0, .bool (isNeg o1), .slice b2 (mag o1).length c2, .bool (isNeg o2), .slice d2 (mag o2).length m2]) (by simp [results, Tryz.results15, go_sem, e0, e1, e2, e3, e4]) rfl ?_
    exact ⟨_, _, _, _, rfl, S1.out, S2.out, GS1.out.mono (by omega), GS2.out.mono (by omega), KT.out⟩
  · skip
    rw [arcSS_bad hz]
    obtain ⟨f, hf⟩ : ∃ f, f = farC P 1 p xs q ys := ⟨_, rfl⟩
    rw [← hf] at hz ⊢
    have hne : (f == 0) = false := by rw [beq_eq_false_iff_ne]; exact hz
    have ea := h1.1
    have eb := h2.1
    have H1 := Lib.hid h1
    have H2 := Lib.hid h2
    have F1 := Lib.hid h1.lt
    have F2 := Lib.hid h2.lt
    have HF := Lib.hid hf
    clear h1 h2 hf hz ea eb
    go_enter Tryz.func15, Tryz.ntmps15
    go_wp2_with fail
    generalize hW : ((w.alloc (.cells #[.bool p, .slice a n c, .bool q, .slice b m d] 26)).alloc (.cells #[.int .i64 0, .bool false, .slice none 0 0, .bool false, .slice none 0 0] 28)) = ww0
    have hkk : Kept [] ((w.alloc (.cells #[.bool p, .slice a n c, .bool q, .slice b m d] 26)).alloc (.cells #[.int .i64 0, .bool false, .slice none 0 0, .bool false, .slice none 0 0] 28)) ww0 := by rw [hW]; exact Kept.refl _ _
    have zzA : w.heap.size + 1 + 1 = ww0.heap.size := by rw [← hW]; simp
    have nA0 := Lib.hid (hkk.peel.top (g := w.heap.size) (by simp) (by simp) 0 (v := .bool p) rfl).1
    have nA1 := Lib.hid (hkk.peel.top (g := w.heap.size) (by simp) (by simp) 1 (v := .slice a n c) rfl).1
    have nA2 := Lib.hid (hkk.peel.top (g := w.heap.size) (by simp) (by simp) 2 (v := .bool q) rfl).1
    have nA3 := Lib.hid (hkk.peel.top (g := w.heap.size) (by simp) (by simp) 3 (v := .slice b m d) rfl).1
    have nR0 := Lib.hid (hkk.top (g := w.heap.size + 1) (by simp) (by simp) 0 (v := .int .i64 0) rfl).1
    have fR0 := Lib.hid (hkk.top (g := w.heap.size + 1) (by simp) (by simp) 0 (v := .int .i64 0) rfl).2.1
    have nR1 := Lib.hid (hkk.top (g := w.heap.size + 1) (by simp) (by simp) 1 (v := .bool false) rfl).1
    have fR1 := Lib.hid (hkk.top (g := w.heap.size + 1) (by simp) (by simp) 1 (v := .bool false) rfl).2.1
    have nR2 := Lib.hid (hkk.top (g := w.heap.size + 1) (by simp) (by simp) 2 (v := .slice none 0 0) rfl).1
    have fR2 := Lib.hid (hkk.top (g := w.heap.size + 1) (by simp) (by simp) 2 (v := .slice none 0 0) rfl).2.1
    have nR3 := Lib.hid (hkk.top (g := w.heap.size + 1) (by simp) (by simp) 3 (v := .bool false) rfl).1
    have fR3 := Lib.hid (hkk.top (g := w.heap.size + 1) (by simp) (by simp) 3 (v := .bool false) rfl).2.1
    have nR4 := Lib.hid (hkk.top (g := w.heap.size + 1) (by simp) (by simp) 4 (v := .slice none 0 0) rfl).1
    have fR4 := Lib.hid (hkk.top (g := w.heap.size + 1) (by simp) (by simp) 4 (v := .slice none 0 0) rfl).2.1
    have hk := hkk.peel.peel
    clear hkk hW
    have z0 := hk.size
    have KT := Lib.hid hk
    clear hk
    replace H1 := Lib.hid (H1.out.kept0 KT.out)
    replace H2 := Lib.hid (H2.out.kept0 KT.out)
    have tA0 := nA0.out
    have tA1 := nA1.out
    have tA2 := nA2.out
    have tA3 := nA3.out
    go_wp2_with fail
    clear tA0 tA1 tA2 tA3
    refine (l4Asked_any P 1 _ _ _ _ _ _ _ _ _ _ _ H1.out H2.out (by omega) (by omega)).mono ?_
    intro e v1 hh; obtain ⟨hh, hk1⟩ := hh; subst hh
    have hk := hk1
    have z1 := hk.size
    replace fR0 := kf hk nR0 fR0
    replace fR1 := kf hk nR1 fR1
    replace fR2 := kf hk nR2 fR2
    replace fR3 := kf hk nR3 fR3
    replace fR4 := kf hk nR4 fR4
    replace nA0 := kc hk nA0
    replace nA1 := kc hk nA1
    replace nA2 := kc hk nA2
    replace nA3 := kc hk nA3
    replace nR0 := kc hk nR0
    replace nR1 := kc hk nR1
    replace nR2 := kc hk nR2
    replace nR3 := kc hk nR3
    replace nR4 := kc hk nR4
    replace H1 := Lib.hid (H1.out.kept0 hk)
    replace H2 := Lib.hid (H2.out.kept0 hk)
    replace KT := Lib.hid (KT.out.trans0 hk)
    clear hk
    rw [← HF.out]
    have tR0 := nR0.out
    have tR1 := nR1.out
    have tR2 := nR2.out
    have tR3 := nR3.out
    have tR4 := nR4.out
    have uR0 := fR0.out
    have uR1 := fR1.out
    have uR2 := fR2.out
    have uR3 := fR3.out
    have uR4 := fR4.out
    go_wp2_with fail
    clear tR0 tR1 tR2 tR3 tR4 uR0 uR1 uR2 uR3 uR4
    generalize hW : (((((v1.setCell ⟨w.heap.size + 1, 0, none⟩ (.int .i64 f)).setCell ⟨w.heap.size + 1, 1, none⟩ (.bool false)).setCell ⟨w.heap.size + 1, 2, none⟩ (.slice none 0 0)).setCell ⟨w.heap.size + 1, 3, none⟩ (.bool false)).setCell ⟨w.heap.size + 1, 4, none⟩ (.slice none 0 0)) = ww2
    have hk : Kept [w.heap.size + 1] v1 ww2 := by rw [← hW]; exact (((((Kept.refl _ _).setCell _ _ (by simp)).setCell _ _ (by simp)).setCell _ _ (by simp)).setCell _ _ (by simp)).setCell _ _ (by simp)
    have hfz : ∀ x, ww2.frozen? x = v1.frozen? x := by rw [← hW]; intro x; simp only [World.frozen?_setCell]
    obtain ⟨e0, e1, e2, e3, e4⟩ := st5 hW.symm nR0.out nR1.out nR2.out nR3.out nR4.out
    have z2 := hk.size
    replace fR0 := kz hfz fR0
    replace fR1 := kz hfz fR1
    replace fR2 := kz hfz fR2
    replace fR3 := kz hfz fR3
    replace fR4 := kz hfz fR4
    replace nA0 := kd hk nA0 (by simp <;> omega)
    replace nA1 := kd hk nA1 (by simp <;> omega)
    replace nA2 := kd hk nA2 (by simp <;> omega)
    replace nA3 := kd hk nA3 (by simp <;> omega)
    replace H1 := Lib.hid (H1.out.kept hk (fun hn y hy hm => by have h9 := F1.out hn y hy; simp at hm; omega))
    replace H2 := Lib.hid (H2.out.kept hk (fun hn y hy hm => by have h9 := F2.out hn y hy; simp at hm; omega))
    replace nR0 := Lib.hid e0
    replace nR1 := Lib.hid e1
    replace nR2 := Lib.hid e2
    replace nR3 := Lib.hid e3
    replace nR4 := Lib.hid e4
    replace KT := Lib.hid (KT.out.trans hk (fun x hx hlt => by simp at hx; omega))
    clear hk hfz hW e0 e1 e2 e3 e4
    have e0 := nR0.out
    have e1 := nR1.out
    have e2 := nR2.out
    have e3 := nR3.out
    have e4 := nR4.out
    refine bodyPost_ret (v := .agg #[.int .i64 f, .bool false, .slice none 0 0, .bool false, .slice none 0 0]) (by simp [results, Tryz.results15, go_sem, e0, e1, e2, e3, e4]) rfl ?_
    exact spanM_no KT.out

end Go.Proofs.YtklgaclhpifdiaaGreat
namespace Go.Proofs.YtklgaclhpifdiaaGreat
open Go.RowKit

attribute [local go_sem ↓] field_big field_span field_end0 field_end1
theorem ArcCap.kept {k : Nat} {s1 s2 : Int} {gp gq : Nat} {a b : Option Addr} {c d : Nat} {w A B : World} {L : List Nat} (hw : ArcCap k s1 s2 gp gq a b c d w) (h : ArcCap k s1 s2 gp gq a b c d A) (hk : Kept L A B) (hL : ∀ x, x ∈ L → w.heap.size ≤ x) : ArcCap k s1 s2 gp gq a b c d B := by
  obtain ⟨u0, u1, _, _, _, t3, t4⟩ := hw
  have l0 := World.block_lt_of_cell? w _ u0
  have l1 := World.block_lt_of_cell? w _ u1
  dsimp only at l0 l1
  obtain ⟨v0, v1, v2, v3, v4, r3, r4⟩ := h
  have n0 : gp ∉ L := fun hm => by have := hL _ hm; omega
  have n1 : gq ∉ L := fun hm => by have := hL _ hm; omega
  exact ⟨hk.cell v0 n0, hk.cell v1 n1, hk.cell v2 n1, hk.cell v3 n1, hk.cell v4 n1, r3.kept hk (fun hn y hy hm => by have h8 := hL _ hm; have h9 := t3.lt hn y hy; omega), r4.kept hk (fun hn y hy hm => by have h8 := hL _ hm; have h9 := t4.lt hn y hy; omega)⟩
set_option maxHeartbeats 4000000 in
set_option maxRecDepth 20000 in
theorem arcSum_zz (k c0 : Nat) (x1 x2 q1 q2 o1 o2 : Int) (gA gN gF gp gq : Nat) (a b a' b' : Option Addr) (c d c' d' : Nat) (w : World)
    (hA0 : w.cell? ⟨gA, 0, none⟩ = some (.bool (isNeg x1))) (hA1 : w.cell? ⟨gA, 1, none⟩ = some (.slice a (mag x1).length c)) (hA2 : w.cell? ⟨gA, 2, none⟩ = some (.bool (isNeg x2))) (hA3 : w.cell? ⟨gA, 3, none⟩ = some (.slice b (mag x2).length d)) (h1 : Sl w a (mag x1).length c (mag x1)) (h2 : Sl w b (mag x2).length d (mag x2))
    (hNc : w.cell? ⟨gN, 0, none⟩ = some (.int .i64 (c0 : Int))) (hF : w.cell? ⟨gF, 0, none⟩ = some (.func (.func 43) #[] #[.pointer (some ⟨gp, 0, none⟩), .pointer (some ⟨gq, 0, none⟩)])) (hcap : ArcCap k q1 q2 gp gq a' b' c' d' w)
    (hP : isP (k : Int) = true) (hin : In2 (p2 k) ⟨x1, x2⟩) (hq : (⟨q1, q2⟩ : Z2) = sq2 k ⟨x1, x2⟩) (hc0 : c0 = k / 4) (fo : Fit2 ⟨o1, o2⟩) (ho : (⟨o1, o2⟩ : Z2) = arc2 k ⟨x1, x2⟩) :
    Calls Tryz.prog 45 #[.agg #[.bool (isNeg x1), .slice a (mag x1).length c, .bool (isNeg x2), .slice b (mag x2).length d], .func (.func 91) #[] #[.pointer (some ⟨gA, 0, none⟩), .pointer (some ⟨gN, 0, none⟩), .pointer (some ⟨gF, 0, none⟩)], .func (.func 46) #[] #[]] w (SpanR w ⟨0, o1, o2⟩) := by
  have hk96 : k ≤ 96 := by rcases isP_cases hP with h | h | h <;> omega
  have fq : Fit2 ⟨q1, q2⟩ := by have h := sq2_one hin; rw [← hq, ← Int.one_mul (p2 k)] at h; exact h.fitU hk96 (by omega)
  have ho' : (⟨o1, o2⟩ : Z2) = add2 (arcS k ⟨x1, x2⟩ c0) (swing2 (arcT k ⟨x1, x2⟩ c0)) := by rw [ho]; unfold arc2; rw [hc0]
  exact sumOfTerms_zz (arcT k ⟨x1, x2⟩) (fun j => part2 (2 * ((j : Nat) : Int) + 1) (arcT k ⟨x1, x2⟩ j)) (arcS k ⟨x1, x2⟩) c0 (by omega) gA gN gF 43 46 #[.pointer (some ⟨gp, 0, none⟩), .pointer (some ⟨gq, 0, none⟩)] (ArcCap k q1 q2 gp gq a' b' c' d') w a b a b c d c d o1 o2 hA0 hA1 hA2 hA3 h1 h2 h1 h2 hNc hF
    (enters_of Tryz.func43 (by kernel_rfl) rfl) (enters_of Tryz.func46 (by kernel_rfl) rfl) hcap (fun A B L hA hk hL => hcap.kept hA hk hL)
    (fun j W ta tb tc td _ hc s1 s2 => arcNext_zz k ((j : Int) + 1) q1 q2 gp gq a' b' c' d' (arcT k ⟨x1, x2⟩ j).lo (arcT k ⟨x1, x2⟩ j).hi ta tb tc td (arcT k ⟨x1, x2⟩ (j + 1)).lo (arcT k ⟨x1, x2⟩ (j + 1)).hi W s1 s2 hc hP (fitT hin hk96 j) fq (fitT hin hk96 (j + 1)) (by show arcT k ⟨x1, x2⟩ (j + 1) = mul2 k (arcT k ⟨x1, x2⟩ j) ⟨q1, q2⟩; rw [hq]; rfl))
    (fun j W ta tb tc td hj s1 s2 => arcAdd_zz j (arcT k ⟨x1, x2⟩ (j + 1)).lo (arcT k ⟨x1, x2⟩ (j + 1)).hi ta tb tc td _ _ W s1 s2 (by omega) (fitT hin hk96 (j + 1)).2.1 (fitT hin hk96 (j + 1)).2.2 rfl)
    rfl (fun j _ => arcS_succ k _ j) (fun j hj => fitSum hin hk96 j (by omega)) (fun j _ => fitP hin hk96 j) (fun j _ => fitT hin hk96 j) (fitSw hin hk96 c0) fo ho'

set_option maxHeartbeats 8000000 in
set_option maxRecDepth 20000 in
theorem ArcSeries_any (P : Int) (p q : Bool) (a b : Option Addr) (n c m d : Nat) (xs ys : List Int) (w : World) (h1 : Sl w a n c xs) (h2 : Sl w b m d ys) :
    Calls Tryz.prog 17 #[.int .i64 P, .agg #[.bool p, .slice a n c, .bool q, .slice b m d]] w (SpanR w (arcSS P p xs q ys)) := by
  by_cases hz : farC P 1 p xs q ys = 0
  · skip
    obtain ⟨hP, hf0⟩ := precS_zero (farC_pre hz)
    obtain ⟨k, rfl, hk96, hk16⟩ := isP_nat hP
    obtain ⟨x1, x2, rfl, rfl, rfl, rfl, fx⟩ := ok_letters (spanFault_zero hf0)
    have ea := h1.1
    have eb := h2.1
    subst ea eb
    have hin := far_in fx.1 (farC_pre hz) hz
    rw [Int.one_mul] at hin
    obtain ⟨o1, o2, ho⟩ : ∃ o1 o2 : Int, (⟨o1, o2⟩ : Z2) = arc2 k ⟨x1, x2⟩ := ⟨_, _, rfl⟩
    have fo : Fit2 ⟨o1, o2⟩ := by rw [ho]; exact (arc2_in hin hk96).fitU hk96 (by omega)
    rw [arcSS_ok hz, ← ho]
    obtain ⟨q1, q2, hq⟩ : ∃ q1 q2 : Int, (⟨q1, q2⟩ : Z2) = sq2 k ⟨x1, x2⟩ := ⟨_, _, rfl⟩
    have fq : Fit2 ⟨q1, q2⟩ := by have h := sq2_one hin; rw [← hq, ← Int.one_mul (p2 k)] at h; exact h.fitU hk96 (by omega)
    obtain ⟨c0, hc0⟩ : ∃ c0 : Nat, c0 = k / 4 := ⟨_, rfl⟩
    have hc1 : (k : Int) / 4 = (c0 : Int) := by omega
    have hk0 : (0 : Int) ≤ (k : Int) := by omega
    have H1 := Lib.hid h1
    have H2 := Lib.hid h2
    have F1 := Lib.hid h1.lt
    have F2 := Lib.hid h2.lt
    have HF := Lib.hid hz
    have HP := Lib.hid hP
    have HIN := Lib.hid hin
    have HO := Lib.hid ho
    have FX := Lib.hid fx
    have FO := Lib.hid fo
    have HQ := Lib.hid hq
    have FQ := Lib.hid fq
    have HC := Lib.hid hc1
    have HC0 := Lib.hid hc0
    clear h1 h2 hz hP hf0 hin ho fx fo hq fq hc1 hc0
    go_enter Tryz.func17, Tryz.ntmps17
    go_wp2_with fail
    generalize hW : (((w.alloc (.cells #[.int .i64 (k : Int)] 2)).alloc (.cells #[.bool (isNeg x1), .slice a (mag x1).length c, .bool (isNeg x2), .slice b (mag x2).length d] 26)).alloc (.cells #[.int .i64 0, .bool false, .slice none 0 0, .bool false, .slice none 0 0] 28)) = ww0
    have hkk : Kept [] (((w.alloc (.cells #[.int .i64 (k : Int)] 2)).alloc (.cells #[.bool (isNeg x1), .slice a (mag x1).length c, .bool (isNeg x2), .slice b (mag x2).length d] 26)).alloc (.cells #[.int .i64 0, .bool false, .slice none 0 0, .bool false, .slice none 0 0] 28)) ww0 := by rw [hW]; exact Kept.refl _ _
    have zzA : w.heap.size + 1 + 1 + 1 = ww0.heap.size := by rw [← hW]; simp
    have nP0 := Lib.hid (hkk.peel.peel.top (g := w.heap.size) (by simp) (by simp) 0 (v := .int .i64 (k : Int)) rfl).1
    have nA0 := Lib.hid (hkk.peel.top (g := w.heap.size + 1) (by simp) (by simp) 0 (v := .bool (isNeg x1)) rfl).1
    have nA1 := Lib.hid (hkk.peel.top (g := w.heap.size + 1) (by simp) (by simp) 1 (v := .slice a (mag x1).length c) rfl).1
    have nA2 := Lib.hid (hkk.peel.top (g := w.heap.size + 1) (by simp) (by simp) 2 (v := .bool (isNeg x2)) rfl).1
    have nA3 := Lib.hid (hkk.peel.top (g := w.heap.size + 1) (by simp) (by simp) 3 (v := .slice b (mag x2).length d) rfl).1
    have nR0 := Lib.hid (hkk.top (g := w.heap.size + 1 + 1) (by simp) (by simp) 0 (v := .int .i64 0) rfl).1
    have fR0 := Lib.hid (hkk.top (g := w.heap.size + 1 + 1) (by simp) (by simp) 0 (v := .int .i64 0) rfl).2.1
    have nR1 := Lib.hid (hkk.top (g := w.heap.size + 1 + 1) (by simp) (by simp) 1 (v := .bool false) rfl).1
    have fR1 := Lib.hid (hkk.top (g := w.heap.size + 1 + 1) (by simp) (by simp) 1 (v := .bool false) rfl).2.1
    have nR2 := Lib.hid (hkk.top (g := w.heap.size + 1 + 1) (by simp) (by simp) 2 (v := .slice none 0 0) rfl).1
    have fR2 := Lib.hid (hkk.top (g := w.heap.size + 1 + 1) (by simp) (by simp) 2 (v := .slice none 0 0) rfl).2.1
    have nR3 := Lib.hid (hkk.top (g := w.heap.size + 1 + 1) (by simp) (by simp) 3 (v := .bool false) rfl).1
    have fR3 := Lib.hid (hkk.top (g := w.heap.size + 1 + 1) (by simp) (by simp) 3 (v := .bool false) rfl).2.1
    have nR4 := Lib.hid (hkk.top (g := w.heap.size + 1 + 1) (by simp) (by simp) 4 (v := .slice none 0 0) rfl).1
    have fR4 := Lib.hid (hkk.top (g := w.heap.size + 1 + 1) (by simp) (by simp) 4 (v := .slice none 0 0) rfl).2.1
    have hk := hkk.peel.peel.peel
    clear hkk hW
    have z0 := hk.size
    have KT := Lib.hid hk
    clear hk
    replace H1 := Lib.hid (H1.out.kept0 KT.out)
    replace H2 := Lib.hid (H2.out.kept0 KT.out)
    have tP0 := nP0.out
    have tA0 := nA0.out
    have tA1 := nA1.out
    have tA2 := nA2.out
    have tA3 := nA3.out
    go_wp2_with fail
    clear tP0 tA0 tA1 tA2 tA3
    refine (farFault_any (k : Int) 1 _ _ _ _ _ _ _ _ _ _ _ H1.out H2.out (by omega) (by omega)).mono ?_
    intro e v1 hh; obtain ⟨hh, hk1⟩ := hh; subst hh
    have hk := hk1
    have z1 := hk.size
    replace fR0 := kf hk nR0 fR0
    replace fR1 := kf hk nR1 fR1
    replace fR2 := kf hk nR2 fR2
    replace fR3 := kf hk nR3 fR3
    replace fR4 := kf hk nR4 fR4
    replace nP0 := kc hk nP0
    replace nA0 := kc hk nA0
    replace nA1 := kc hk nA1
    replace nA2 := kc hk nA2
    replace nA3 := kc hk nA3
    replace nR0 := kc hk nR0
    replace nR1 := kc hk nR1
    replace nR2 := kc hk nR2
    replace nR3 := kc hk nR3
    replace nR4 := kc hk nR4
    replace H1 := Lib.hid (H1.out.kept0 hk)
    replace H2 := Lib.hid (H2.out.kept0 hk)
    replace KT := Lib.hid (KT.out.trans0 hk)
    clear hk
    rw [HF.out]
    have tP0 := nP0.out
    have tA0 := nA0.out
    have tA1 := nA1.out
    have tA2 := nA2.out
    have tA3 := nA3.out
    go_wp2_with fail
    clear tP0 tA0 tA1 tA2 tA3
    refine (SquareSpan_zz k x1 x2 _ _ _ _ q1 q2 _ H1.out H2.out HP.out FX.out FQ.out HQ.out).mono ?_
    intro e v2 hh; unfold SpanRZ at hh; obtain ⟨b2, hh⟩ := hh; obtain ⟨c2, hh⟩ := hh; obtain ⟨d2, hh⟩ := hh; obtain ⟨m2, hh, hs2, ht2, hf2, hg2, hk2⟩ := hh; subst hh
    have S1 := Lib.hid hs2
    have GS1 := Lib.hid (hf2.mono (B' := v1.heap.size) (by simp))
    have US1 := Lib.hid S1.out.lt
    have S2 := Lib.hid ht2
    have GS2 := Lib.hid (hg2.mono (B' := v1.heap.size) (by simp))
    have US2 := Lib.hid S2.out.lt
    have hk := hk2
    have z2 := hk.size
    replace fR0 := kf hk nR0 fR0
    replace fR1 := kf hk nR1 fR1
    replace fR2 := kf hk nR2 fR2
    replace fR3 := kf hk nR3 fR3
    replace fR4 := kf hk nR4 fR4
    replace nP0 := kc hk nP0
    replace nA0 := kc hk nA0
    replace nA1 := kc hk nA1
    replace nA2 := kc hk nA2
    replace nA3 := kc hk nA3
    replace nR0 := kc hk nR0
    replace nR1 := kc hk nR1
    replace nR2 := kc hk nR2
    replace nR3 := kc hk nR3
    replace nR4 := kc hk nR4
    replace H1 := Lib.hid (H1.out.kept0 hk)
    replace H2 := Lib.hid (H2.out.kept0 hk)
    replace KT := Lib.hid (KT.out.trans0 hk)
    clear hk
    go_upto_region 5 with fail
    generalize hW : (v2.alloc (.cells #[.bool (isNeg q1), .slice b2 (mag q1).length c2, .bool (isNeg q2), .slice d2 (mag q2).length m2] 26)) = ww3
    have hk : Kept [] v2 ww3 := by rw [← hW]; exact (Kept.refl [] _).alloc _
    have zzQ : v2.heap.size + 1 = ww3.heap.size := by rw [← hW]; simp
    have nQ0 := Lib.hid (show ww3.cell? ⟨v2.heap.size, 0, none⟩ = some (.bool (isNeg q1)) by rw [← hW, World.cell?_alloc_new]; rfl)
    have fQ0 := Lib.hid (show ww3.frozen? ⟨v2.heap.size, 0, none⟩ = false by rw [← hW]; exact frozen_of_row _ _ _ _ _ (heap_alloc_new _ _))
    have nQ1 := Lib.hid (show ww3.cell? ⟨v2.heap.size, 1, none⟩ = some (.slice b2 (mag q1).length c2) by rw [← hW, World.cell?_alloc_new]; rfl)
    have fQ1 := Lib.hid (show ww3.frozen? ⟨v2.heap.size, 1, none⟩ = false by rw [← hW]; exact frozen_of_row _ _ _ _ _ (heap_alloc_new _ _))
    have nQ2 := Lib.hid (show ww3.cell? ⟨v2.heap.size, 2, none⟩ = some (.bool (isNeg q2)) by rw [← hW, World.cell?_alloc_new]; rfl)
    have fQ2 := Lib.hid (show ww3.frozen? ⟨v2.heap.size, 2, none⟩ = false by rw [← hW]; exact frozen_of_row _ _ _ _ _ (heap_alloc_new _ _))
    have nQ3 := Lib.hid (show ww3.cell? ⟨v2.heap.size, 3, none⟩ = some (.slice d2 (mag q2).length m2) by rw [← hW, World.cell?_alloc_new]; rfl)
    have fQ3 := Lib.hid (show ww3.frozen? ⟨v2.heap.size, 3, none⟩ = false by rw [← hW]; exact frozen_of_row _ _ _ _ _ (heap_alloc_new _ _))
    clear hW
    have z3 := hk.size
    replace fR0 := kf hk nR0 fR0
    replace fR1 := kf hk nR1 fR1
    replace fR2 := kf hk nR2 fR2
    replace fR3 := kf hk nR3 fR3
    replace fR4 := kf hk nR4 fR4
    replace nP0 := kc hk nP0
    replace nA0 := kc hk nA0
    replace nA1 := kc hk nA1
    replace nA2 := kc hk nA2
    replace nA3 := kc hk nA3
    replace nR0 := kc hk nR0
    replace nR1 := kc hk nR1
    replace nR2 := kc hk nR2
    replace nR3 := kc hk nR3
    replace nR4 := kc hk nR4
    replace H1 := Lib.hid (H1.out.kept0 hk)
    replace H2 := Lib.hid (H2.out.kept0 hk)
    replace S1 := Lib.hid (S1.out.kept0 hk)
    replace S2 := Lib.hid (S2.out.kept0 hk)
    replace KT := Lib.hid (KT.out.trans0 hk)
    clear hk
    have tP0 := nP0.out
    have tA0 := nA0.out
    have tA1 := nA1.out
    have tA2 := nA2.out
    have tA3 := nA3.out
    go_wp2_with fail
    clear tP0 tA0 tA1 tA2 tA3
    refine (termsBehind_any (isNeg x1) (isNeg x2) a b (mag x1).length c (mag x2).length d _ 43 _ _).mono ?_
    intro e v3 hh; obtain ⟨hh, y0, y1, y2, y3, y4, y5, hsz, hk⟩ := hh; subst hh
    rw [HC.out] at y4
    have Y0 := Lib.hid y0
    have Y1 := Lib.hid y1
    have Y2 := Lib.hid y2
    have Y3 := Lib.hid y3
    have Y4 := Lib.hid y4
    have Y5 := Lib.hid y5
    clear y0 y1 y2 y3 y4 y5 hsz
    have z4 := hk.size
    replace fR0 := kf hk nR0 fR0
    replace fR1 := kf hk nR1 fR1
    replace fR2 := kf hk nR2 fR2
    replace fR3 := kf hk nR3 fR3
    replace fR4 := kf hk nR4 fR4
    replace fQ0 := kf hk nQ0 fQ0
    replace fQ1 := kf hk nQ1 fQ1
    replace fQ2 := kf hk nQ2 fQ2
    replace fQ3 := kf hk nQ3 fQ3
    replace nP0 := kc hk nP0
    replace nA0 := kc hk nA0
    replace nA1 := kc hk nA1
    replace nA2 := kc hk nA2
    replace nA3 := kc hk nA3
    replace nR0 := kc hk nR0
    replace nR1 := kc hk nR1
    replace nR2 := kc hk nR2
    replace nR3 := kc hk nR3
    replace nR4 := kc hk nR4
    replace H1 := Lib.hid (H1.out.kept0 hk)
    replace H2 := Lib.hid (H2.out.kept0 hk)
    replace S1 := Lib.hid (S1.out.kept0 hk)
    replace S2 := Lib.hid (S2.out.kept0 hk)
    replace nQ0 := kc hk nQ0
    replace nQ1 := kc hk nQ1
    replace nQ2 := kc hk nQ2
    replace nQ3 := kc hk nQ3
    replace KT := Lib.hid (KT.out.trans0 hk)
    clear hk
    have tA0 := nA0.out
    have tA1 := nA1.out
    have tA2 := nA2.out
    have tA3 := nA3.out
    go_wp2_with fail
    clear tA0 tA1 tA2 tA3
    refine (arcSum_zz k c0 x1 x2 q1 q2 o1 o2 _ _ _ _ _ a b _ _ c d _ _ _ Y0.out Y1.out Y2.out Y3.out H1.out H2.out Y4.out Y5.out ⟨nP0.out, nQ0.out, nQ1.out, nQ2.out, nQ3.out, S1.out, S2.out⟩ HP.out HIN.out HQ.out HC0.out FO.out HO.out).mono ?_
    intro e v4 hh; unfold SpanR at hh; obtain ⟨b9, hh⟩ := hh; obtain ⟨c9, hh⟩ := hh; obtain ⟨d9, hh⟩ := hh; obtain ⟨m9, hh, hs3, hs4, hf3, hf4, hne, hk⟩ := hh; dsimp only at hh hs3 hs4 hf3 hf4 hne; subst hh
    have G3 := Lib.hid (hf3.mono (B' := w.heap.size + 1 + 1 + 1) (by omega)); have G4 := Lib.hid (hf4.mono (B' := w.heap.size + 1 + 1 + 1) (by omega)); have S3 := Lib.hid hs3; have S4 := Lib.hid hs4; have HNE := Lib.hid hne; clear hs3 hs4 hf3 hf4 hne Y0 Y1 Y2 Y3 Y4 Y5
    have z5 := hk.size
    replace fR0 := kf hk nR0 fR0
    replace fR1 := kf hk nR1 fR1
    replace fR2 := kf hk nR2 fR2
    replace fR3 := kf hk nR3 fR3
    replace fR4 := kf hk nR4 fR4
    replace fQ0 := kf hk nQ0 fQ0
    replace fQ1 := kf hk nQ1 fQ1
    replace fQ2 := kf hk nQ2 fQ2
    replace fQ3 := kf hk nQ3 fQ3
    replace nP0 := kc hk nP0
    replace nA0 := kc hk nA0
    replace nA1 := kc hk nA1
    replace nA2 := kc hk nA2
    replace nA3 := kc hk nA3
    replace nR0 := kc hk nR0
    replace nR1 := kc hk nR1
    replace nR2 := kc hk nR2
    replace nR3 := kc hk nR3
    replace nR4 := kc hk nR4
    replace H1 := Lib.hid (H1.out.kept0 hk)
    replace H2 := Lib.hid (H2.out.kept0 hk)
    replace S1 := Lib.hid (S1.out.kept0 hk)
    replace S2 := Lib.hid (S2.out.kept0 hk)
    replace nQ0 := kc hk nQ0
    replace nQ1 := kc hk nQ1
    replace nQ2 := kc hk nQ2
    replace nQ3 := kc hk nQ3
    replace KT := Lib.hid (KT.out.trans0 hk)
    clear hk
    have tR0 := nR0.out
    have tR1 := nR1.out
    have tR2 := nR2.out
    have tR3 := nR3.out
    have tR4 := nR4.out
    have uR0 := fR0.out
    have uR1 := fR1.out
    have uR2 := fR2.out
    have uR3 := fR3.out
    have uR4 := fR4.out
    go_wp2_with fail
    clear tR0 tR1 tR2 tR3 tR4 uR0 uR1 uR2 uR3 uR4
    generalize hW : (((((v4.setCell ⟨w.heap.size + 1 + 1, 0, none⟩ (.int .i64 0)).setCell ⟨w.heap.size + 1 + 1, 1, none⟩ (.bool (isNeg o1))).setCell ⟨w.heap.size + 1 + 1, 2, none⟩ (.slice b9 (mag o1).length c9)).setCell ⟨w.heap.size + 1 + 1, 3, none⟩ (.bool (isNeg o2))).setCell ⟨w.heap.size + 1 + 1, 4, none⟩ (.slice d9 (mag o2).length m9)) = ww6
    have hk : Kept [w.heap.size + 1 + 1] v4 ww6 := by rw [← hW]; exact (((((Kept.refl _ _).setCell _ _ (by simp)).setCell _ _ (by simp)).setCell _ _ (by simp)).setCell _ _ (by simp)).setCell _ _ (by simp)
    have hfz : ∀ x, ww6.frozen? x = v4.frozen? x := by rw [← hW]; intro x; simp only [World.frozen?_setCell]
    obtain ⟨e0, e1, e2, e3, e4⟩ := st5 hW.symm nR0.out nR1.out nR2.out nR3.out nR4.out
    have z6 := hk.size
    replace fR0 := kz hfz fR0
    replace fR1 := kz hfz fR1
    replace fR2 := kz hfz fR2
    replace fR3 := kz hfz fR3
    replace fR4 := kz hfz fR4
    replace fQ0 := kz hfz fQ0
    replace fQ1 := kz hfz fQ1
    replace fQ2 := kz hfz fQ2
    replace fQ3 := kz hfz fQ3
    replace nP0 := kd hk nP0 (by simp <;> omega)
    replace nA0 := kd hk nA0 (by simp <;> omega)
    replace nA1 := kd hk nA1 (by simp <;> omega)
    replace nA2 := kd hk nA2 (by simp <;> omega)
    replace nA3 := kd hk nA3 (by simp <;> omega)
    replace H1 := Lib.hid (H1.out.kept hk (fun hn y hy hm => by have h9 := F1.out hn y hy; simp at hm; omega))
    replace H2 := Lib.hid (H2.out.kept hk (fun hn y hy hm => by have h9 := F2.out hn y hy; simp at hm; omega))
    replace S1 := Lib.hid (S1.out.kept hk (fun hn y hy hm => by have h9 := GS1.out hn y hy; simp at hm; omega))
    replace S2 := Lib.hid (S2.out.kept hk (fun hn y hy hm => by have h9 := GS2.out hn y hy; simp at hm; omega))
    replace nQ0 := kd hk nQ0 (by simp <;> omega)
    replace nQ1 := kd hk nQ1 (by simp <;> omega)
    replace nQ2 := kd hk nQ2 (by simp <;> omega)
    replace nQ3 := kd hk nQ3 (by simp <;> omega)
    replace S3 := Lib.hid (S3.out.kept hk (fun hn y hy hm => by have h9 := G3.out hn y hy; simp at hm; omega))
    replace S4 := Lib.hid (S4.out.kept hk (fun hn y hy hm => by have h9 := G4.out hn y hy; simp at hm; omega))
    replace nR0 := Lib.hid e0
    replace nR1 := Lib.hid e1
    replace nR2 := Lib.hid e2
    replace nR3 := Lib.hid e3
    replace nR4 := Lib.hid e4
    replace KT := Lib.hid (KT.out.trans hk (fun x hx hlt => by simp at hx; omega))
    clear hk hfz hW e0 e1 e2 e3 e4
    have e0 := nR0.out
    have e1 := nR1.out
    have e2 := nR2.out
    have e3 := nR3.out
    have e4 := nR4.out
    refine bodyPost_ret (v := .agg #[.int .i64 0, .bool (isNeg o1), .slice b9 (mag o1).length c9, .bool (isNeg o2), .slice d9 (mag o2).length m9]) (by simp [results, Tryz.results17, go_sem, e0, e1, e2, e3, e4]) rfl ?_
    exact ⟨_, _, _, _, rfl, S3.out, S4.out, G3.out.mono (by omega), G4.out.mono (by omega), HNE.out, KT.out⟩
  · skip
    rw [arcSS_bad hz]
    obtain ⟨f, hf⟩ : ∃ f, f = farC P 1 p xs q ys := ⟨_, rfl⟩
    rw [← hf] at hz ⊢
    have hne : (f == 0) = false := by rw [beq_eq_false_iff_ne]; exact hz
    have ea := h1.1
    have eb := h2.1
    have H1 := Lib.hid h1
    have H2 := Lib.hid h2
    have F1 := Lib.hid h1.lt
    have F2 := Lib.hid h2.lt
    have HF := Lib.hid hf
    clear h1 h2 hf hz ea eb
    go_enter Tryz.func17, Tryz.ntmps17
    go_wp2_with fail
    generalize hW : (((w.alloc (.cells #[.int .i64 P] 2)).alloc (.cells #[.bool p, .slice a n c, .bool q, .slice b m d] 26)).alloc (.cells #[.int .i64 0, .bool false, .slice none 0 0, .bool false, .slice none 0 0] 28)) = ww0
    have hkk : Kept [] (((w.alloc (.cells #[.int .i64 P] 2)).alloc (.cells #[.bool p, .slice a n c, .bool q, .slice b m d] 26)).alloc (.cells #[.int .i64 0, .bool false, .slice none 0 0, .bool false, .slice none 0 0] 28)) ww0 := by rw [hW]; exact Kept.refl _ _
    have zzA : w.heap.size + 1 + 1 + 1 = ww0.heap.size := by rw [← hW]; simp
    have nP0 := Lib.hid (hkk.peel.peel.top (g := w.heap.size) (by simp) (by simp) 0 (v := .int .i64 P) rfl).1
    have nA0 := Lib.hid (hkk.peel.top (g := w.heap.size + 1) (by simp) (by simp) 0 (v := .bool p) rfl).1
    have nA1 := Lib.hid (hkk.peel.top (g := w.heap.size + 1) (by simp) (by simp) 1 (v := .slice a n c) rfl).1
    have nA2 := Lib.hid (hkk.peel.top (g := w.heap.size + 1) (by simp) (by simp) 2 (v := .bool q) rfl).1
    have nA3 := Lib.hid (hkk.peel.top (g := w.heap.size + 1) (by simp) (by simp) 3 (v := .slice b m d) rfl).1
    have nR0 := Lib.hid (hkk.top (g := w.heap.size + 1 + 1) (by simp) (by simp) 0 (v := .int .i64 0) rfl).1
    have fR0 := Lib.hid (hkk.top (g := w.heap.size + 1 + 1) (by simp) (by simp) 0 (v := .int .i64 0) rfl).2.1
    have nR1 := Lib.hid (hkk.top (g := w.heap.size + 1 + 1) (by simp) (by simp) 1 (v := .bool false) rfl).1
    have fR1 := Lib.hid (hkk.top (g := w.heap.size + 1 + 1) (by simp) (by simp) 1 (v := .bool false) rfl).2.1
    have nR2 := Lib.hid (hkk.top (g := w.heap.size + 1 + 1) (by simp) (by simp) 2 (v := .slice none 0 0) rfl).1
    have fR2 := Lib.hid (hkk.top (g := w.heap.size + 1 + 1) (by simp) (by simp) 2 (v := .slice none 0 0) rfl).2.1
    have nR3 := Lib.hid (hkk.top (g := w.heap.size + 1 + 1) (by simp) (by simp) 3 (v := .bool false) rfl).1
    have fR3 := Lib.hid (hkk.top (g := w.heap.size + 1 + 1) (by simp) (by simp) 3 (v := .bool false) rfl).2.1
    have nR4 := Lib.hid (hkk.top (g := w.heap.size + 1 + 1) (by simp) (by simp) 4 (v := .slice none 0 0) rfl).1
    have fR4 := Lib.hid (hkk.top (g := w.heap.size + 1 + 1) (by simp) (by simp) 4 (v := .slice none 0 0) rfl).2.1
    have hk := hkk.peel.peel.peel
    clear hkk hW
    have z0 := hk.size
    have KT := Lib.hid hk
    clear hk
    replace H1 := Lib.hid (H1.out.kept0 KT.out)
    replace H2 := Lib.hid (H2.out.kept0 KT.out)
    have tP0 := nP0.out
    have tA0 := nA0.out
    have tA1 := nA1.out
    have tA2 := nA2.out
    have tA3 := nA3.out
    go_wp2_with fail
    clear tP0 tA0 tA1 tA2 tA3
    refine (farFault_any P 1 _ _ _ _ _ _ _ _ _ _ _ H1.out H2.out (by omega) (by omega)).mono ?_
    intro e v1 hh; obtain ⟨hh, hk1⟩ := hh; subst hh
    have hk := hk1
    have z1 := hk.size
    replace fR0 := kf hk nR0 fR0
    replace fR1 := kf hk nR1 fR1
    replace fR2 := kf hk nR2 fR2
    replace fR3 := kf hk nR3 fR3
    replace fR4 := kf hk nR4 fR4
    replace nP0 := kc hk nP0
    replace nA0 := kc hk nA0
    replace nA1 := kc hk nA1
    replace nA2 := kc hk nA2
    replace nA3 := kc hk nA3
    replace nR0 := kc hk nR0
    replace nR1 := kc hk nR1
    replace nR2 := kc hk nR2
    replace nR3 := kc hk nR3
    replace nR4 := kc hk nR4
    replace H1 := Lib.hid (H1.out.kept0 hk)
    replace H2 := Lib.hid (H2.out.kept0 hk)
    replace KT := Lib.hid (KT.out.trans0 hk)
    clear hk
    rw [← HF.out]
    have tR0 := nR0.out
    have tR1 := nR1.out
    have tR2 := nR2.out
    have tR3 := nR3.out
    have tR4 := nR4.out
    have uR0 := fR0.out
    have uR1 := fR1.out
    have uR2 := fR2.out
    have uR3 := fR3.out
    have uR4 := fR4.out
    go_wp2_with fail
    clear tR0 tR1 tR2 tR3 tR4 uR0 uR1 uR2 uR3 uR4
    generalize hW : (((((v1.setCell ⟨w.heap.size + 1 + 1, 0, none⟩ (.int .i64 f)).setCell ⟨w.heap.size + 1 + 1, 1, none⟩ (.bool false)).setCell ⟨w.heap.size + 1 + 1, 2, none⟩ (.slice none 0 0)).setCell ⟨w.heap.size + 1 + 1, 3, none⟩ (.bool false)).setCell ⟨w.heap.size + 1 + 1, 4, none⟩ (.slice none 0 0)) = ww2
    have hk : Kept [w.heap.size + 1 + 1] v1 ww2 := by rw [← hW]; exact (((((Kept.refl _ _).setCell _ _ (by simp)).setCell _ _ (by simp)).setCell _ _ (by simp)).setCell _ _ (by simp)).setCell _ _ (by simp)
    have hfz : ∀ x, ww2.frozen? x = v1.frozen? x := by rw [← hW]; intro x; simp only [World.frozen?_setCell]
    obtain ⟨e0, e1, e2, e3, e4⟩ := st5 hW.symm nR0.out nR1.out nR2.out nR3.out nR4.out
    have z2 := hk.size
    replace fR0 := kz hfz fR0
    replace fR1 := kz hfz fR1
    replace fR2 := kz hfz fR2
    replace fR3 := kz hfz fR3
    replace fR4 := kz hfz fR4
    replace nP0 := kd hk nP0 (by simp <;> omega)
    replace nA0 := kd hk nA0 (by simp <;> omega)
    replace nA1 := kd hk nA1 (by simp <;> omega)
    replace nA2 := kd hk nA2 (by simp <;> omega)
    replace nA3 := kd hk nA3 (by simp <;> omega)
    replace H1 := Lib.hid (H1.out.kept hk (fun hn y hy hm => by have h9 := F1.out hn y hy; simp at hm; omega))
    replace H2 := Lib.hid (H2.out.kept hk (fun hn y hy hm => by have h9 := F2.out hn y hy; simp at hm; omega))
    replace nR0 := Lib.hid e0
    replace nR1 := Lib.hid e1
    replace nR2 := Lib.hid e2
    replace nR3 := Lib.hid e3
    replace nR4 := Lib.hid e4
    replace KT := Lib.hid (KT.out.trans hk (fun x hx hlt => by simp at hx; omega))
    clear hk hfz hW e0 e1 e2 e3 e4
    have e0 := nR0.out
    have e1 := nR1.out
    have e2 := nR2.out
    have e3 := nR3.out
    have e4 := nR4.out
    refine bodyPost_ret (v := .agg #[.int .i64 f, .bool false, .slice none 0 0, .bool false, .slice none 0 0]) (by simp [results, Tryz.results17, go_sem, e0, e1, e2, e3, e4]) rfl ?_
    exact spanR_no KT.out

end Go.Proofs.YtklgaclhpifdiaaGreat
