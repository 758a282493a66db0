/-
 Contract of the model's CosSpan. Conditions: the limbs read as lists of numbers.
-/
import Derived.Deep.RegionHeld3
import Derived.Deep.DrawnRows
import Derived.Deep.DeepCutAuto
import Derived.Test.YtfafjijoeanbhaaGreatWavel4Cos
import Derived.Test.YtfafjijoeanbhaaGreatPlainG
namespace Go.Proofs.YtfafjijoeanbhaaGreat
open Go.RowKit

attribute [local go_sem ↓] field_big field_span field_end0 field_end1
set_option maxHeartbeats 4000000 in
set_option maxRecDepth 20000 in
theorem sCosSpan_any (P : Int) (p q : Bool) (a b : Option Addr) (n c m d : Nat) (xs ys : List Int) (w : World) (h1 : Sl w a n c xs) (h2 : Sl w b m d ys) :
  Calls Tryz.prog 38 #[.int .i64 P, .agg #[.bool p, .slice a n c, .bool q, .slice b m d]] w (SpanM w (waveSS true P p xs q ys)) := by
 by_cases hz : farC P 7 p xs q ys = 0
 ·skip
  obtain ⟨hP, hf0⟩ := precS_zero (farC_pre hz)
  obtain ⟨k, rfl, hk96, hk16⟩ := isP_nat hP
  obtain ⟨x1, x2, rfl, rfl, rfl, rfl, fx⟩ := ok_letters (spanFault_zero hf0)
  have ea := h1.1
  have eb := h2.1
  subst ea eb
  have hin := far_in fx.1 (farC_pre hz) hz
  obtain ⟨o1, o2, ho⟩ : ∃ o1 o2 : Int, (⟨o1, o2⟩ : Z2) = wavF true k x1 x2 := ⟨_, _, rfl⟩
  have fo : Fit2 ⟨o1, o2⟩ := by rw [ho]; exact wavF_fit hin hk96
  rw [waveSS_ok hz, ← ho]
  have H1 := Lib.hid h1
  have H2 := Lib.hid h2
  have F1 := Lib.hid h1.lt
  have F2 := Lib.hid h2.lt
  have HF := Lib.hid hz
  have HP := Lib.hid hP
  have HIN := Lib.hid hin
  have HO := Lib.hid ho
  clear h1 h2 hz hP hf0 hin ho fx fo
  go_enter Tryz.func38, Tryz.ntmps38
  go_wp2_with fail
  generalize hW : ((w.alloc (.cells #[.bool (isNeg x1), .slice a (mag x1).length c, .bool (isNeg x2), .slice b (mag x2).length d] 26)).alloc (.cells #[.int .i64 0, .bool false, .slice none 0 0, .bool false, .slice none 0 0] 28)) = ww0
  have hkk : Kept [] ((w.alloc (.cells #[.bool (isNeg x1), .slice a (mag x1).length c, .bool (isNeg x2), .slice b (mag x2).length d] 26)).alloc (.cells #[.int .i64 0, .bool false, .slice none 0 0, .bool false, .slice none 0 0] 28)) ww0 := by rw [hW]; exact Kept.refl _ _
  have zzA : w.heap.size + 1 + 1 = ww0.heap.size := by rw [← hW]; simp
  obtain ⟨⟨nA0, nA1, nA2, nA3⟩, _⟩ := tp4 hkk.peel (g := w.heap.size) (by simp) (by simp)
  obtain ⟨⟨nR0, nR1, nR2, nR3, nR4⟩, fR0, fR1, fR2, fR3, fR4⟩ := tp5 hkk (g := w.heap.size + 1) (by simp) (by simp)
  have hk := hkk.peel.peel
  clear hkk hW
  have z0 := hk.size
  have kq1 := Lib.hid hk
  have KT := kq1
  clear hk
  replace H1 := Lib.hid (H1.out.kept0 KT.out)
  replace H2 := Lib.hid (H2.out.kept0 KT.out)
  have tA0 := nA0.out
  have tA1 := nA1.out
  have tA2 := nA2.out
  have tA3 := nA3.out
  go_wp2_with fail
  clear tA0 tA1 tA2 tA3
  refine (l4Asked_any (k : Int) 7 _ _ _ _ _ _ _ _ _ _ _ H1.out H2.out (by omega) (by omega)).mono ?_
  intro e v1 hh; obtain ⟨hh, hk1⟩ := hh; subst hh
  have hk := hk1
  have z1 := hk.size
  have kq2 := Lib.hid hk
  clear hk
  rw [HF.out]
  replace nA0 := kc kq2.out nA0
  have tA0 := nA0.out
  replace nA1 := kc kq2.out nA1
  have tA1 := nA1.out
  replace nA2 := kc kq2.out nA2
  have tA2 := nA2.out
  replace nA3 := kc kq2.out nA3
  have tA3 := nA3.out
  go_wp2_with fail
  clear tA0 tA1 tA2 tA3
  replace H1 := Lib.hid (H1.out.kept0 kq2.out)
  replace H2 := Lib.hid (H2.out.kept0 kq2.out)
  refine (l4Wave_cos k x1 x2 _ _ _ _ o1 o2 _ H1.out H2.out HP.out HIN.out HO.out).mono ?_
  intro e v2 hh; unfold SpanV at hh; obtain ⟨b2, hh⟩ := hh; obtain ⟨c2, hh⟩ := hh; obtain ⟨d2, hh⟩ := hh; obtain ⟨m2, hh, hs2, ht2, hf2, hg2, hk2⟩ := hh; subst hh
  have S1 := Lib.hid hs2
  have GS1 := Lib.hid (hf2.mono (B' := v1.heap.size) (by simp))
  have US1 := Lib.hid S1.out.lt
  have S2 := Lib.hid ht2
  have GS2 := Lib.hid (hg2.mono (B' := v1.heap.size) (by simp))
  have US2 := Lib.hid S2.out.lt
  have hk := hk2
  have z2 := hk.size
  have kq3 := Lib.hid hk
  clear hk
  have kj1 := Lib.hid (kq2.out.trans0 kq3.out)
  replace fR0 := kf kj1.out nR0 fR0
  replace nR0 := kc kj1.out nR0
  have tR0 := nR0.out
  replace fR1 := kf kj1.out nR1 fR1
  replace nR1 := kc kj1.out nR1
  have tR1 := nR1.out
  replace fR2 := kf kj1.out nR2 fR2
  replace nR2 := kc kj1.out nR2
  have tR2 := nR2.out
  replace fR3 := kf kj1.out nR3 fR3
  replace nR3 := kc kj1.out nR3
  have tR3 := nR3.out
  replace fR4 := kf kj1.out nR4 fR4
  replace nR4 := kc kj1.out nR4
  have tR4 := nR4.out
  have uR0 := fR0.out
  have uR1 := fR1.out
  have uR2 := fR2.out
  have uR3 := fR3.out
  have uR4 := fR4.out
  go_wp2_with fail
  clear tR0 tR1 tR2 tR3 tR4 uR0 uR1 uR2 uR3 uR4
  generalize hW : (((((v2.setCell ⟨w.heap.size + 1, 0, none⟩ (.int .i64 0)).setCell ⟨w.heap.size + 1, 1, none⟩ (.bool (isNeg o1))).setCell ⟨w.heap.size + 1, 2, none⟩ (.slice b2 (mag o1).length c2)).setCell ⟨w.heap.size + 1, 3, none⟩ (.bool (isNeg o2))).setCell ⟨w.heap.size + 1, 4, none⟩ (.slice d2 (mag o2).length m2)) = ww3
  have hk : Kept [w.heap.size + 1] v2 ww3 := by rw [← hW]; exact (((((Kept.refl _ _).setCell _ _ (by simp)).setCell _ _ (by simp)).setCell _ _ (by simp)).setCell _ _ (by simp)).setCell _ _ (by simp)
  have hfz : ∀ x, ww3.frozen? x = v2.frozen? x := by rw [← hW]; intro x; simp only [World.frozen?_setCell]
  obtain ⟨e0, e1, e2, e3, e4⟩ := st5 hW.symm nR0.out nR1.out nR2.out nR3.out nR4.out
  have z3 := hk.size
  have kq4 := Lib.hid hk
  have hz4 := Lib.hid hfz
  replace fR0 := kz hfz fR0
  replace fR1 := kz hfz fR1
  replace fR2 := kz hfz fR2
  replace fR3 := kz hfz fR3
  replace fR4 := kz hfz fR4
  replace nR0 := Lib.hid e0
  replace nR1 := Lib.hid e1
  replace nR2 := Lib.hid e2
  replace nR3 := Lib.hid e3
  replace nR4 := Lib.hid e4
  clear hk hfz hW e0 e1 e2 e3 e4
  have e0 := nR0.out
  have e1 := nR1.out
  have e2 := nR2.out
  have e3 := nR3.out
  have e4 := nR4.out
  refine bodyPost_ret (v := .agg #[.int .i64 0, .bool (isNeg o1), .slice b2 (mag o1).length c2, .bool (isNeg o2), .slice d2 (mag o2).length m2]) (by simp [results, Tryz.results38, go_sem, e0, e1, e2, e3, e4]) rfl ?_
  replace KT := Lib.hid (KT.out.trans0 kj1.out)
  replace KT := Lib.hid (KT.out.trans kq4.out (fun x hx hlt => by simp at hx; omega))
  replace S1 := Lib.hid (S1.out.kept kq4.out (fun hn y hy hm => by have h9 := GS1.out hn y hy; simp at hm; omega))
  replace S2 := Lib.hid (S2.out.kept kq4.out (fun hn y hy hm => by have h9 := GS2.out hn y hy; simp at hm; omega))
  exact ⟨_, _, _, _, rfl, S1.out, S2.out, GS1.out.mono (by omega), GS2.out.mono (by omega), KT.out⟩
 ·skip
  rw [waveSS_bad hz]
  obtain ⟨f, hf⟩ : ∃ f, f = farC P 7 p xs q ys := ⟨_, rfl⟩
  rw [← hf] at hz ⊢
  have hne : (f == 0) = false := by rw [beq_eq_false_iff_ne]; exact hz
  have ea := h1.1
  have eb := h2.1
  have H1 := Lib.hid h1
  have H2 := Lib.hid h2
  have F1 := Lib.hid h1.lt
  have F2 := Lib.hid h2.lt
  have HF := Lib.hid hf
  clear h1 h2 hf hz ea eb
  go_enter Tryz.func38, Tryz.ntmps38
  go_wp2_with fail
  generalize hW : ((w.alloc (.cells #[.bool p, .slice a n c, .bool q, .slice b m d] 26)).alloc (.cells #[.int .i64 0, .bool false, .slice none 0 0, .bool false, .slice none 0 0] 28)) = ww0
  have hkk : Kept [] ((w.alloc (.cells #[.bool p, .slice a n c, .bool q, .slice b m d] 26)).alloc (.cells #[.int .i64 0, .bool false, .slice none 0 0, .bool false, .slice none 0 0] 28)) ww0 := by rw [hW]; exact Kept.refl _ _
  have zzA : w.heap.size + 1 + 1 = ww0.heap.size := by rw [← hW]; simp
  obtain ⟨⟨nA0, nA1, nA2, nA3⟩, _⟩ := tp4 hkk.peel (g := w.heap.size) (by simp) (by simp)
  obtain ⟨⟨nR0, nR1, nR2, nR3, nR4⟩, fR0, fR1, fR2, fR3, fR4⟩ := tp5 hkk (g := w.heap.size + 1) (by simp) (by simp)
  have hk := hkk.peel.peel
  clear hkk hW
  have z0 := hk.size
  have kq1 := Lib.hid hk
  have KT := kq1
  clear hk
  replace H1 := Lib.hid (H1.out.kept0 KT.out)
  replace H2 := Lib.hid (H2.out.kept0 KT.out)
  have tA0 := nA0.out
  have tA1 := nA1.out
  have tA2 := nA2.out
  have tA3 := nA3.out
  go_wp2_with fail
  clear tA0 tA1 tA2 tA3
  refine (l4Asked_any P 7 _ _ _ _ _ _ _ _ _ _ _ H1.out H2.out (by omega) (by omega)).mono ?_
  intro e v1 hh; obtain ⟨hh, hk1⟩ := hh; subst hh
  have hk := hk1
  have z1 := hk.size
  have kq2 := Lib.hid hk
  clear hk
  rw [← HF.out]
  replace fR0 := kf kq2.out nR0 fR0
  replace nR0 := kc kq2.out nR0
  have tR0 := nR0.out
  replace fR1 := kf kq2.out nR1 fR1
  replace nR1 := kc kq2.out nR1
  have tR1 := nR1.out
  replace fR2 := kf kq2.out nR2 fR2
  replace nR2 := kc kq2.out nR2
  have tR2 := nR2.out
  replace fR3 := kf kq2.out nR3 fR3
  replace nR3 := kc kq2.out nR3
  have tR3 := nR3.out
  replace fR4 := kf kq2.out nR4 fR4
  replace nR4 := kc kq2.out nR4
  have tR4 := nR4.out
  have uR0 := fR0.out
  have uR1 := fR1.out
  have uR2 := fR2.out
  have uR3 := fR3.out
  have uR4 := fR4.out
  go_wp2_with fail
  clear tR0 tR1 tR2 tR3 tR4 uR0 uR1 uR2 uR3 uR4
  generalize hW : (((((v1.setCell ⟨w.heap.size + 1, 0, none⟩ (.int .i64 f)).setCell ⟨w.heap.size + 1, 1, none⟩ (.bool false)).setCell ⟨w.heap.size + 1, 2, none⟩ (.slice none 0 0)).setCell ⟨w.heap.size + 1, 3, none⟩ (.bool false)).setCell ⟨w.heap.size + 1, 4, none⟩ (.slice none 0 0)) = ww2
  have hk : Kept [w.heap.size + 1] v1 ww2 := by rw [← hW]; exact (((((Kept.refl _ _).setCell _ _ (by simp)).setCell _ _ (by simp)).setCell _ _ (by simp)).setCell _ _ (by simp)).setCell _ _ (by simp)
  have hfz : ∀ x, ww2.frozen? x = v1.frozen? x := by rw [← hW]; intro x; simp only [World.frozen?_setCell]
  obtain ⟨e0, e1, e2, e3, e4⟩ := st5 hW.symm nR0.out nR1.out nR2.out nR3.out nR4.out
  have z2 := hk.size
  have kq3 := Lib.hid hk
  have hz3 := Lib.hid hfz
  replace fR0 := kz hfz fR0
  replace fR1 := kz hfz fR1
  replace fR2 := kz hfz fR2
  replace fR3 := kz hfz fR3
  replace fR4 := kz hfz fR4
  replace nR0 := Lib.hid e0
  replace nR1 := Lib.hid e1
  replace nR2 := Lib.hid e2
  replace nR3 := Lib.hid e3
  replace nR4 := Lib.hid e4
  clear hk hfz hW e0 e1 e2 e3 e4
  have e0 := nR0.out
  have e1 := nR1.out
  have e2 := nR2.out
  have e3 := nR3.out
  have e4 := nR4.out
  refine bodyPost_ret (v := .agg #[.int .i64 f, .bool false, .slice none 0 0, .bool false, .slice none 0 0]) (by simp [results, Tryz.results38, go_sem, e0, e1, e2, e3, e4]) rfl ?_
  replace KT := Lib.hid (KT.out.trans0 kq2.out)
  replace KT := Lib.hid (KT.out.trans kq3.out (fun x hx hlt => by simp at hx; omega))
  exact spanM_no KT.out

end Go.Proofs.YtfafjijoeanbhaaGreat
