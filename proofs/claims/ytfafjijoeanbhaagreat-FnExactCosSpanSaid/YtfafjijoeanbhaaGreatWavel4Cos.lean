/-
 Contract of the model's l4Wave at a cosine. Conditions: the precision is one; the ends are seven at most.
-/
import Derived.Deep.RegionHeld3
import Derived.Deep.DrawnRows
import Derived.Deep.DeepCutAuto
import Derived.Test.YtfafjijoeanbhaaGreatArcl4Arc
import Derived.Test.YtfafjijoeanbhaaGreatPlainF
import Derived.Test.YtfafjijoeanbhaaGreatZedP
namespace Go.Proofs.YtfafjijoeanbhaaGreat
open Go.RowKit

attribute [local go_sem ↓] field_big field_span field_end0 field_end1
set_option maxHeartbeats 16000000 in
set_option maxRecDepth 20000 in
theorem l4Wave_cos (k : Nat) (x1 x2 : Int) (a b : Option Addr) (c d : Nat) (o1 o2 : Int) (w : World) (h1 : Sl w a (mag x1).length c (mag x1)) (h2 : Sl w b (mag x2).length d (mag x2)) (hP : isP (k : Int) = true) (hin : In2 (7 * p2 k) ⟨x1, x2⟩) (hz : (⟨o1, o2⟩ : Z2) = wave2 k ⟨x1, x2⟩ ⟨p2 k, p2 k⟩ (-1)) :
  Calls Tryz.prog 77 #[.int .i64 (k : Int), .agg #[.bool (isNeg x1), .slice a (mag x1).length c, .bool (isNeg x2), .slice b (mag x2).length d], .bool true] w (SpanV w o1 o2) := by
 have hk96 : k ≤ 96 := by rcases isP_cases hP with h | h | h <;> omega
 obtain ⟨q1, q2, hq⟩ : ∃ q1 q2 : Int, (⟨q1, q2⟩ : Z2) = sq2 k ⟨x1, x1⟩ := ⟨_, _, rfl⟩
 have hin1 : In2 (7 * p2 k) ⟨x1, x1⟩ := ⟨hin.1, Int.le_refl _, by have := hin.2.1; have := hin.2.2; dsimp only at *; omega⟩
 have hq49 : In2 (49 * p2 k) ⟨q1, q2⟩ := by rw [hq]; exact sq_seven hin1
 have fx : Fit2 ⟨x1, x2⟩ := hin.fitU hk96 (by omega)
 have fy : Fit2 ⟨x1, x1⟩ := hin1.fitU hk96 (by omega)
 have fq : Fit2 ⟨q1, q2⟩ := hq49.fitU hk96 (by omega)
 obtain ⟨e1, he⟩ : ∃ u, u = p2 k := ⟨_, rfl⟩
 have he7 : In2 (7 * p2 k) ⟨e1, e1⟩ := by have hp := p2_pos k; exact ⟨by show -(7 * p2 k) ≤ e1; omega, Int.le_refl _, by show e1 ≤ 7 * p2 k; omega⟩
 obtain ⟨c0, hc0⟩ : ∃ c0 : Nat, c0 = 40 := ⟨_, rfl⟩
 have H1 := Lib.hid h1
 have H2 := Lib.hid h2
 have F1 := Lib.hid h1.lt
 have F2 := Lib.hid h2.lt
 have HQ := Lib.hid hq
 have HP := Lib.hid hP
 have HIN := Lib.hid hin
 have HIN1 := Lib.hid hin1
 have HQ49 := Lib.hid hq49
 have FX := Lib.hid fx
 have FY := Lib.hid fy
 have FQ := Lib.hid fq
 have HZ := Lib.hid hz
 have HC0 := Lib.hid hc0
 have HE := Lib.hid he
 have HE7 := Lib.hid he7
 clear h1 h2 hq hP hin hin1 hq49 fx fy fq hz hc0 he he7
 go_enter Tryz.func77, Tryz.ntmps77
 go_upto_region 1 with fail
 generalize hW : ((w.alloc (.cells #[.bool (isNeg x1), .slice a (mag x1).length c, .bool (isNeg x2), .slice b (mag x2).length d] 26)).alloc (.cells #[.bool false, .slice none 0 0, .bool false, .slice none 0 0] 26)) = ww0
 have hkk : Kept [] ((w.alloc (.cells #[.bool (isNeg x1), .slice a (mag x1).length c, .bool (isNeg x2), .slice b (mag x2).length d] 26)).alloc (.cells #[.bool false, .slice none 0 0, .bool false, .slice none 0 0] 26)) ww0 := by rw [hW]; exact Kept.refl _ _
 have zzA : w.heap.size + 1 + 1 = ww0.heap.size := by rw [← hW]; simp
 obtain ⟨⟨nA0, nA1, nA2, nA3⟩, _⟩ := tp4 hkk.peel (g := w.heap.size) (by simp) (by simp)
 obtain ⟨⟨nR0, nR1, nR2, nR3⟩, fR0, fR1, fR2, fR3⟩ := tp4 hkk (g := w.heap.size + 1) (by simp) (by simp)
 have hk := hkk.peel.peel
 clear hkk hW
 have z0 := hk.size
 have kq1 := Lib.hid hk
 have KT := kq1
 clear hk
 replace H1 := Lib.hid (H1.out.kept0 KT.out)
 replace H2 := Lib.hid (H2.out.kept0 KT.out)
 have tA0 := nA0.out
 have tA1 := nA1.out
 have tA2 := nA2.out
 have tA3 := nA3.out
 go_wp2_with fail
 clear tA0 tA1 tA2 tA3
 refine (l4Only_any x1 _ _ _).mono ?_
 intro e v1 hh; obtain ⟨hh, hk1⟩ := hh; subst hh
 have hk := hk1
 have z1 := hk.size
 have kq2 := Lib.hid hk
 clear hk
 go_upto_region 2 with fail
 generalize hW : (v1.alloc (.cells #[.bool (isNeg x1), .slice a (mag x1).length c, .bool (isNeg x1), .slice a (mag x1).length c] 26)) = ww2
 have hk : Kept [] v1 ww2 := by rw [← hW]; exact (Kept.refl [] _).alloc _
 have zzY : v1.heap.size + 1 = ww2.heap.size := by rw [← hW]; simp
 have nY0 := Lib.hid (show ww2.cell? ⟨v1.heap.size, 0, none⟩ = some (.bool (isNeg x1)) by rw [← hW, World.cell?_alloc_new]; rfl)
 have fY0 := Lib.hid (show ww2.frozen? ⟨v1.heap.size, 0, none⟩ = false by rw [← hW]; exact frozen_of_row _ _ _ _ _ (heap_alloc_new _ _))
 have nY1 := Lib.hid (show ww2.cell? ⟨v1.heap.size, 1, none⟩ = some (.slice a (mag x1).length c) by rw [← hW, World.cell?_alloc_new]; rfl)
 have fY1 := Lib.hid (show ww2.frozen? ⟨v1.heap.size, 1, none⟩ = false by rw [← hW]; exact frozen_of_row _ _ _ _ _ (heap_alloc_new _ _))
 have nY2 := Lib.hid (show ww2.cell? ⟨v1.heap.size, 2, none⟩ = some (.bool (isNeg x1)) by rw [← hW, World.cell?_alloc_new]; rfl)
 have fY2 := Lib.hid (show ww2.frozen? ⟨v1.heap.size, 2, none⟩ = false by rw [← hW]; exact frozen_of_row _ _ _ _ _ (heap_alloc_new _ _))
 have nY3 := Lib.hid (show ww2.cell? ⟨v1.heap.size, 3, none⟩ = some (.slice a (mag x1).length c) by rw [← hW, World.cell?_alloc_new]; rfl)
 have fY3 := Lib.hid (show ww2.frozen? ⟨v1.heap.size, 3, none⟩ = false by rw [← hW]; exact frozen_of_row _ _ _ _ _ (heap_alloc_new _ _))
 clear hW
 have z2 := hk.size
 have kq3 := Lib.hid hk
 clear hk
 have tY0 := nY0.out
 have tY1 := nY1.out
 have tY2 := nY2.out
 have tY3 := nY3.out
 go_wp2_with fail
 clear tY0 tY1 tY2 tY3
 have kj1 := Lib.hid (kq2.out.trans0 kq3.out)
 replace H1 := Lib.hid (H1.out.kept0 kj1.out)
 refine (l3Square_zz k x1 x1 _ _ _ _ q1 q2 _ H1.out H1.out HP.out FY.out HQ.out).mono ?_
 intro e v2 hh; unfold SpanV at hh; obtain ⟨b2, hh⟩ := hh; obtain ⟨c2, hh⟩ := hh; obtain ⟨d2, hh⟩ := hh; obtain ⟨m2, hh, hs2, ht2, hf2, hg2, hk2⟩ := hh; subst hh
 have S1 := Lib.hid hs2
 have GS1 := Lib.hid (hf2.mono (B' := ww2.heap.size) (by simp))
 have US1 := Lib.hid S1.out.lt
 have S2 := Lib.hid ht2
 have GS2 := Lib.hid (hg2.mono (B' := ww2.heap.size) (by simp))
 have US2 := Lib.hid S2.out.lt
 have hk := hk2
 have z3 := hk.size
 have kq4 := Lib.hid hk
 clear hk
 go_upto_region 3 with fail
 generalize hW : (v2.alloc (.cells #[.bool (isNeg q1), .slice b2 (mag q1).length c2, .bool (isNeg q2), .slice d2 (mag q2).length m2] 26)) = ww4
 have hk : Kept [] v2 ww4 := by rw [← hW]; exact (Kept.refl [] _).alloc _
 have zzQ : v2.heap.size + 1 = ww4.heap.size := by rw [← hW]; simp
 have nQ0 := Lib.hid (show ww4.cell? ⟨v2.heap.size, 0, none⟩ = some (.bool (isNeg q1)) by rw [← hW, World.cell?_alloc_new]; rfl)
 have fQ0 := Lib.hid (show ww4.frozen? ⟨v2.heap.size, 0, none⟩ = false by rw [← hW]; exact frozen_of_row _ _ _ _ _ (heap_alloc_new _ _))
 have nQ1 := Lib.hid (show ww4.cell? ⟨v2.heap.size, 1, none⟩ = some (.slice b2 (mag q1).length c2) by rw [← hW, World.cell?_alloc_new]; rfl)
 have fQ1 := Lib.hid (show ww4.frozen? ⟨v2.heap.size, 1, none⟩ = false by rw [← hW]; exact frozen_of_row _ _ _ _ _ (heap_alloc_new _ _))
 have nQ2 := Lib.hid (show ww4.cell? ⟨v2.heap.size, 2, none⟩ = some (.bool (isNeg q2)) by rw [← hW, World.cell?_alloc_new]; rfl)
 have fQ2 := Lib.hid (show ww4.frozen? ⟨v2.heap.size, 2, none⟩ = false by rw [← hW]; exact frozen_of_row _ _ _ _ _ (heap_alloc_new _ _))
 have nQ3 := Lib.hid (show ww4.cell? ⟨v2.heap.size, 3, none⟩ = some (.slice d2 (mag q2).length m2) by rw [← hW, World.cell?_alloc_new]; rfl)
 have fQ3 := Lib.hid (show ww4.frozen? ⟨v2.heap.size, 3, none⟩ = false by rw [← hW]; exact frozen_of_row _ _ _ _ _ (heap_alloc_new _ _))
 clear hW
 have z4 := hk.size
 have kq5 := Lib.hid hk
 clear hk
 have kj2 := Lib.hid (kq4.out.trans0 kq5.out)
 replace fY0 := kf kj2.out nY0 fY0
 replace nY0 := kc kj2.out nY0
 have tY0 := nY0.out
 replace fY1 := kf kj2.out nY1 fY1
 replace nY1 := kc kj2.out nY1
 have tY1 := nY1.out
 replace fY2 := kf kj2.out nY2 fY2
 replace nY2 := kc kj2.out nY2
 have tY2 := nY2.out
 replace fY3 := kf kj2.out nY3 fY3
 replace nY3 := kc kj2.out nY3
 have tY3 := nY3.out
 go_upto_region 5 with fail
 generalize hW : (ww4.alloc (.cells #[.bool (isNeg x1), .slice a (mag x1).length c, .bool (isNeg x1), .slice a (mag x1).length c] 26)) = ww5
 have hk : Kept [] ww4 ww5 := by rw [← hW]; exact (Kept.refl [] _).alloc _
 have zzT : ww4.heap.size + 1 = ww5.heap.size := by rw [← hW]; simp
 have nT0 := Lib.hid (show ww5.cell? ⟨ww4.heap.size, 0, none⟩ = some (.bool (isNeg x1)) by rw [← hW, World.cell?_alloc_new]; rfl)
 have fT0 := Lib.hid (show ww5.frozen? ⟨ww4.heap.size, 0, none⟩ = false by rw [← hW]; exact frozen_of_row _ _ _ _ _ (heap_alloc_new _ _))
 have nT1 := Lib.hid (show ww5.cell? ⟨ww4.heap.size, 1, none⟩ = some (.slice a (mag x1).length c) by rw [← hW, World.cell?_alloc_new]; rfl)
 have fT1 := Lib.hid (show ww5.frozen? ⟨ww4.heap.size, 1, none⟩ = false by rw [← hW]; exact frozen_of_row _ _ _ _ _ (heap_alloc_new _ _))
 have nT2 := Lib.hid (show ww5.cell? ⟨ww4.heap.size, 2, none⟩ = some (.bool (isNeg x1)) by rw [← hW, World.cell?_alloc_new]; rfl)
 have fT2 := Lib.hid (show ww5.frozen? ⟨ww4.heap.size, 2, none⟩ = false by rw [← hW]; exact frozen_of_row _ _ _ _ _ (heap_alloc_new _ _))
 have nT3 := Lib.hid (show ww5.cell? ⟨ww4.heap.size, 3, none⟩ = some (.slice a (mag x1).length c) by rw [← hW, World.cell?_alloc_new]; rfl)
 have fT3 := Lib.hid (show ww5.frozen? ⟨ww4.heap.size, 3, none⟩ = false by rw [← hW]; exact frozen_of_row _ _ _ _ _ (heap_alloc_new _ _))
 clear hW
 have z5 := hk.size
 have kq6 := Lib.hid hk
 clear hk
 clear tY0 tY1 tY2 tY3
 go_wp2_with fail
 refine (l4One_any k e1 _ hk96 HE.out).mono ?_
 intro e v3 hh; unfold SpanV at hh; obtain ⟨b3, hh⟩ := hh; obtain ⟨c3, hh⟩ := hh; obtain ⟨d3, hh⟩ := hh; obtain ⟨m3, hh, hs3, ht3, hf3, hg3, hk3⟩ := hh; subst hh
 have E1 := Lib.hid hs3
 have GE1 := Lib.hid (hf3.mono (B' := ww5.heap.size) (by simp))
 have UE1 := Lib.hid E1.out.lt
 have E2 := Lib.hid ht3
 have GE2 := Lib.hid (hg3.mono (B' := ww5.heap.size) (by simp))
 have UE2 := Lib.hid E2.out.lt
 have hk := hk3
 have z6 := hk.size
 have kq7 := Lib.hid hk
 clear hk
 replace fT0 := kf kq7.out nT0 fT0
 replace nT0 := kc kq7.out nT0
 have tT0 := nT0.out
 replace fT1 := kf kq7.out nT1 fT1
 replace nT1 := kc kq7.out nT1
 have tT1 := nT1.out
 replace fT2 := kf kq7.out nT2 fT2
 replace nT2 := kc kq7.out nT2
 have tT2 := nT2.out
 replace fT3 := kf kq7.out nT3 fT3
 replace nT3 := kc kq7.out nT3
 have tT3 := nT3.out
 have uT0 := fT0.out
 have uT1 := fT1.out
 have uT2 := fT2.out
 have uT3 := fT3.out
 go_upto_region 6 with fail
 clear tT0 tT1 tT2 tT3 uT0 uT1 uT2 uT3
 generalize hW : ((((v3.setCell ⟨ww4.heap.size, 0, none⟩ (.bool (isNeg e1))).setCell ⟨ww4.heap.size, 1, none⟩ (.slice b3 (mag e1).length c3)).setCell ⟨ww4.heap.size, 2, none⟩ (.bool (isNeg e1))).setCell ⟨ww4.heap.size, 3, none⟩ (.slice d3 (mag e1).length m3)) = ww7
 have hk : Kept [ww4.heap.size] v3 ww7 := by rw [← hW]; exact ((((Kept.refl _ _).setCell _ _ (by simp)).setCell _ _ (by simp)).setCell _ _ (by simp)).setCell _ _ (by simp)
 have hfz : ∀ x, ww7.frozen? x = v3.frozen? x := by rw [← hW]; intro x; simp only [World.frozen?_setCell]
 obtain ⟨e0, e1, e2, e3⟩ := st4 hW.symm nT0.out nT1.out nT2.out nT3.out
 have z7 := hk.size
 have kq8 := Lib.hid hk
 have hz8 := Lib.hid hfz
 replace fT0 := kz hfz fT0
 replace fT1 := kz hfz fT1
 replace fT2 := kz hfz fT2
 replace fT3 := kz hfz fT3
 replace nT0 := Lib.hid e0
 replace nT1 := Lib.hid e1
 replace nT2 := Lib.hid e2
 replace nT3 := Lib.hid e3
 clear hk hfz hW e0 e1 e2 e3
 have tT0 := nT0.out
 have tT1 := nT1.out
 have tT2 := nT2.out
 have tT3 := nT3.out
 go_upto_region 7 with fail
 generalize hW : (ww7.alloc (.cells #[.bool (isNeg e1), .slice b3 (mag e1).length c3, .bool (isNeg e1), .slice d3 (mag e1).length m3] 26)) = ww8
 have hk : Kept [] ww7 ww8 := by rw [← hW]; exact (Kept.refl [] _).alloc _
 have zzS : ww7.heap.size + 1 = ww8.heap.size := by rw [← hW]; simp
 have nS0 := Lib.hid (show ww8.cell? ⟨ww7.heap.size, 0, none⟩ = some (.bool (isNeg e1)) by rw [← hW, World.cell?_alloc_new]; rfl)
 have fS0 := Lib.hid (show ww8.frozen? ⟨ww7.heap.size, 0, none⟩ = false by rw [← hW]; exact frozen_of_row _ _ _ _ _ (heap_alloc_new _ _))
 have nS1 := Lib.hid (show ww8.cell? ⟨ww7.heap.size, 1, none⟩ = some (.slice b3 (mag e1).length c3) by rw [← hW, World.cell?_alloc_new]; rfl)
 have fS1 := Lib.hid (show ww8.frozen? ⟨ww7.heap.size, 1, none⟩ = false by rw [← hW]; exact frozen_of_row _ _ _ _ _ (heap_alloc_new _ _))
 have nS2 := Lib.hid (show ww8.cell? ⟨ww7.heap.size, 2, none⟩ = some (.bool (isNeg e1)) by rw [← hW, World.cell?_alloc_new]; rfl)
 have fS2 := Lib.hid (show ww8.frozen? ⟨ww7.heap.size, 2, none⟩ = false by rw [← hW]; exact frozen_of_row _ _ _ _ _ (heap_alloc_new _ _))
 have nS3 := Lib.hid (show ww8.cell? ⟨ww7.heap.size, 3, none⟩ = some (.slice d3 (mag e1).length m3) by rw [← hW, World.cell?_alloc_new]; rfl)
 have fS3 := Lib.hid (show ww8.frozen? ⟨ww7.heap.size, 3, none⟩ = false by rw [← hW]; exact frozen_of_row _ _ _ _ _ (heap_alloc_new _ _))
 clear hW
 have z8 := hk.size
 have kq9 := Lib.hid hk
 clear hk
 clear tT0 tT1 tT2 tT3
 go_wp2_with fail
 have QE1 := Lib.hid (show Off [w.heap.size + 1, ww4.heap.size, ww7.heap.size] _ _ from fun hn x hx hm => by have h9 := GE1.out hn x hx; have h8 := UE1.out hn x hx; simp at hm; omega)
 have QE2 := Lib.hid (show Off [w.heap.size + 1, ww4.heap.size, ww7.heap.size] _ _ from fun hn x hx hm => by have h9 := GE2.out hn x hx; have h8 := UE2.out hn x hx; simp at hm; omega)
 have kj3 := Lib.hid ((((kj1.out.trans0 kq4.out).trans0 kq5.out).trans0 kq6.out).trans0 kq7.out)
 replace KT := Lib.hid (KT.out.trans0 kj3.out)
 replace KT := Lib.hid (KT.out.trans kq8.out (fun x hx hlt => by simp at hx; omega))
 replace KT := Lib.hid (KT.out.trans0 kq9.out)
 have hKU := KT
 replace nA0 := kc kj3.out nA0
 replace nA0 := kd kq8.out nA0 (by simp <;> omega)
 replace nA0 := kc kq9.out nA0
 replace nA1 := kc kj3.out nA1
 replace nA1 := kd kq8.out nA1 (by simp <;> omega)
 replace nA1 := kc kq9.out nA1
 replace nA2 := kc kj3.out nA2
 replace nA2 := kd kq8.out nA2 (by simp <;> omega)
 replace nA2 := kc kq9.out nA2
 replace nA3 := kc kj3.out nA3
 replace nA3 := kd kq8.out nA3 (by simp <;> omega)
 replace nA3 := kc kq9.out nA3
 replace fR0 := kf kj3.out nR0 fR0
 replace nR0 := kc kj3.out nR0
 replace fR0 := kz hz8.out fR0
 replace nR0 := kd kq8.out nR0 (by simp <;> omega)
 replace fR0 := kf kq9.out nR0 fR0
 replace nR0 := kc kq9.out nR0
 replace fR1 := kf kj3.out nR1 fR1
 replace nR1 := kc kj3.out nR1
 replace fR1 := kz hz8.out fR1
 replace nR1 := kd kq8.out nR1 (by simp <;> omega)
 replace fR1 := kf kq9.out nR1 fR1
 replace nR1 := kc kq9.out nR1
 replace fR2 := kf kj3.out nR2 fR2
 replace nR2 := kc kj3.out nR2
 replace fR2 := kz hz8.out fR2
 replace nR2 := kd kq8.out nR2 (by simp <;> omega)
 replace fR2 := kf kq9.out nR2 fR2
 replace nR2 := kc kq9.out nR2
 replace fR3 := kf kj3.out nR3 fR3
 replace nR3 := kc kj3.out nR3
 replace fR3 := kz hz8.out fR3
 replace nR3 := kd kq8.out nR3 (by simp <;> omega)
 replace fR3 := kf kq9.out nR3 fR3
 replace nR3 := kc kq9.out nR3
 replace H2 := Lib.hid (H2.out.kept0 kj3.out)
 replace H2 := Lib.hid (H2.out.kept kq8.out (fun hn y hy hm => by have h9 := F2.out hn y hy; simp at hm; omega))
 replace H2 := Lib.hid (H2.out.kept0 kq9.out)
 have kj4 := Lib.hid ((kj2.out.trans0 kq6.out).trans0 kq7.out)
 replace H1 := Lib.hid (H1.out.kept0 kj4.out)
 replace H1 := Lib.hid (H1.out.kept kq8.out (fun hn y hy hm => by have h9 := F1.out hn y hy; simp at hm; omega))
 replace H1 := Lib.hid (H1.out.kept0 kq9.out)
 have kj5 := Lib.hid ((kq5.out.trans0 kq6.out).trans0 kq7.out)
 replace S1 := Lib.hid (S1.out.kept0 kj5.out)
 replace S1 := Lib.hid (S1.out.kept kq8.out (fun hn y hy hm => by have h9 := US1.out hn y hy; simp at hm; omega))
 replace S1 := Lib.hid (S1.out.kept0 kq9.out)
 replace S2 := Lib.hid (S2.out.kept0 kj5.out)
 replace S2 := Lib.hid (S2.out.kept kq8.out (fun hn y hy hm => by have h9 := US2.out hn y hy; simp at hm; omega))
 replace S2 := Lib.hid (S2.out.kept0 kq9.out)
 have kj6 := Lib.hid (kq6.out.trans0 kq7.out)
 replace fY0 := kf kj6.out nY0 fY0
 replace nY0 := kc kj6.out nY0
 replace fY0 := kz hz8.out fY0
 replace nY0 := kd kq8.out nY0 (by simp <;> omega)
 replace fY0 := kf kq9.out nY0 fY0
 replace nY0 := kc kq9.out nY0
 replace fY1 := kf kj6.out nY1 fY1
 replace nY1 := kc kj6.out nY1
 replace fY1 := kz hz8.out fY1
 replace nY1 := kd kq8.out nY1 (by simp <;> omega)
 replace fY1 := kf kq9.out nY1 fY1
 replace nY1 := kc kq9.out nY1
 replace fY2 := kf kj6.out nY2 fY2
 replace nY2 := kc kj6.out nY2
 replace fY2 := kz hz8.out fY2
 replace nY2 := kd kq8.out nY2 (by simp <;> omega)
 replace fY2 := kf kq9.out nY2 fY2
 replace nY2 := kc kq9.out nY2
 replace fY3 := kf kj6.out nY3 fY3
 replace nY3 := kc kj6.out nY3
 replace fY3 := kz hz8.out fY3
 replace nY3 := kd kq8.out nY3 (by simp <;> omega)
 replace fY3 := kf kq9.out nY3 fY3
 replace nY3 := kc kq9.out nY3
 replace fQ0 := kf kj6.out nQ0 fQ0
 replace nQ0 := kc kj6.out nQ0
 replace fQ0 := kz hz8.out fQ0
 replace nQ0 := kd kq8.out nQ0 (by simp <;> omega)
 replace fQ0 := kf kq9.out nQ0 fQ0
 replace nQ0 := kc kq9.out nQ0
 replace fQ1 := kf kj6.out nQ1 fQ1
 replace nQ1 := kc kj6.out nQ1
 replace fQ1 := kz hz8.out fQ1
 replace nQ1 := kd kq8.out nQ1 (by simp <;> omega)
 replace fQ1 := kf kq9.out nQ1 fQ1
 replace nQ1 := kc kq9.out nQ1
 replace fQ2 := kf kj6.out nQ2 fQ2
 replace nQ2 := kc kj6.out nQ2
 replace fQ2 := kz hz8.out fQ2
 replace nQ2 := kd kq8.out nQ2 (by simp <;> omega)
 replace fQ2 := kf kq9.out nQ2 fQ2
 replace nQ2 := kc kq9.out nQ2
 replace fQ3 := kf kj6.out nQ3 fQ3
 replace nQ3 := kc kj6.out nQ3
 replace fQ3 := kz hz8.out fQ3
 replace nQ3 := kd kq8.out nQ3 (by simp <;> omega)
 replace fQ3 := kf kq9.out nQ3 fQ3
 replace nQ3 := kc kq9.out nQ3
 replace E1 := Lib.hid (E1.out.kept kq8.out (fun hn y hy hm => by have h9 := GE1.out hn y hy; simp at hm; omega))
 replace E1 := Lib.hid (E1.out.kept0 kq9.out)
 replace E2 := Lib.hid (E2.out.kept kq8.out (fun hn y hy hm => by have h9 := GE2.out hn y hy; simp at hm; omega))
 replace E2 := Lib.hid (E2.out.kept0 kq9.out)
 replace fT0 := kf kq9.out nT0 fT0
 replace nT0 := kc kq9.out nT0
 replace fT1 := kf kq9.out nT1 fT1
 replace nT1 := kc kq9.out nT1
 replace fT2 := kf kq9.out nT2 fT2
 replace nT2 := kc kq9.out nT2
 replace fT3 := kf kq9.out nT3 fT3
 replace nT3 := kc kq9.out nT3
 go_loopw [11] (fun i wr => ∃ (j : Nat) (t1 t2 s1 s2 : Int), j ≤ c0 ∧ i = .int .i64 ((j : Int) + 1) ∧ Hid ((⟨t1, t2⟩ : Z2) = waveT k (⟨e1, e1⟩ : Z2) ⟨q1, q2⟩ (-1) j) ∧ Hid ((⟨s1, s2⟩ : Z2) = waveS k (⟨e1, e1⟩ : Z2) ⟨q1, q2⟩ (-1) j) ∧ Hid (SpAt [w.heap.size + 1, ww4.heap.size, ww7.heap.size] wr (ww4.heap.size) t1 t2) ∧ Hid (SpAt [w.heap.size + 1, ww4.heap.size, ww7.heap.size] wr (ww7.heap.size) s1 s2) ∧ Hid (Kept [ww4.heap.size, ww7.heap.size] ww8 wr)) (fun i _ => c0 + 1 - (intOf i).toNat)
 case atStart => exact ⟨0, e1, e1, e1, e1, by omega, rfl, rfl, rfl, ⟨_, _, _, _, nT0.out, nT1.out, nT2.out, nT3.out, fT0.out, fT1.out, fT2.out, fT3.out, E1.out, E2.out, QE1.out, QE2.out⟩, ⟨_, _, _, _, nS0.out, nS1.out, nS2.out, nS3.out, fS0.out, fS1.out, fS2.out, fS3.out, E1.out, E2.out, QE1.out, QE2.out⟩, Kept.refl _ _⟩
 case round =>
  obtain ⟨j, t1, t2, s1, s2, hj, rfl, HT, HS, HBT, HBS, HK⟩ := hrel
  have hzz := HK.out.size
  have mQ0 := Lib.hid (HK.out.cell (p := ⟨v2.heap.size, 0, none⟩) nQ0.out (by simp; omega))
  have mQ1 := Lib.hid (HK.out.cell (p := ⟨v2.heap.size, 1, none⟩) nQ1.out (by simp; omega))
  have mQ2 := Lib.hid (HK.out.cell (p := ⟨v2.heap.size, 2, none⟩) nQ2.out (by simp; omega))
  have mQ3 := Lib.hid (HK.out.cell (p := ⟨v2.heap.size, 3, none⟩) nQ3.out (by simp; omega))
  have mR0 := Lib.hid (HK.out.cell (p := ⟨w.heap.size + 1, 0, none⟩) nR0.out (by simp; omega))
  have mR1 := Lib.hid (HK.out.cell (p := ⟨w.heap.size + 1, 1, none⟩) nR1.out (by simp; omega))
  have mR2 := Lib.hid (HK.out.cell (p := ⟨w.heap.size + 1, 2, none⟩) nR2.out (by simp; omega))
  have mR3 := Lib.hid (HK.out.cell (p := ⟨w.heap.size + 1, 3, none⟩) nR3.out (by simp; omega))
  have mA0 := Lib.hid (HK.out.cell (p := ⟨w.heap.size, 0, none⟩) nA0.out (by simp; omega))
  have mA1 := Lib.hid (HK.out.cell (p := ⟨w.heap.size, 1, none⟩) nA1.out (by simp; omega))
  have mA2 := Lib.hid (HK.out.cell (p := ⟨w.heap.size, 2, none⟩) nA2.out (by simp; omega))
  have mA3 := Lib.hid (HK.out.cell (p := ⟨w.heap.size, 3, none⟩) nA3.out (by simp; omega))
  have wR0 := Lib.hid (HK.out.free' (p := ⟨w.heap.size + 1, 0, none⟩) nR0.out fR0.out (by simp; omega))
  have wR1 := Lib.hid (HK.out.free' (p := ⟨w.heap.size + 1, 1, none⟩) nR1.out fR1.out (by simp; omega))
  have wR2 := Lib.hid (HK.out.free' (p := ⟨w.heap.size + 1, 2, none⟩) nR2.out fR2.out (by simp; omega))
  have wR3 := Lib.hid (HK.out.free' (p := ⟨w.heap.size + 1, 3, none⟩) nR3.out fR3.out (by simp; omega))
  have VS1 := Lib.hid (S1.out.kept HK.out (fun hn y hy hm => by have h9 := US1.out hn y hy; simp at hm; omega))
  have VS2 := Lib.hid (S2.out.kept HK.out (fun hn y hy hm => by have h9 := US2.out hn y hy; simp at hm; omega))
  have VH1 := Lib.hid (H1.out.kept HK.out (fun hn y hy hm => by have h9 := F1.out hn y hy; simp at hm; omega))
  have VH2 := Lib.hid (H2.out.kept HK.out (fun hn y hy hm => by have h9 := F2.out hn y hy; simp at hm; omega))
  clear nT0 fT0 nT1 fT1 nT2 fT2 nT3 fT3 nS0 fS0 nS1 fS1 nS2 fS2 nS3 fS3 KT QE1 QE2 E1 E2
  replace nQ0 := mQ0
  clear mQ0
  replace nQ1 := mQ1
  clear mQ1
  replace nQ2 := mQ2
  clear mQ2
  replace nQ3 := mQ3
  clear mQ3
  replace nR0 := mR0
  clear mR0
  replace nR1 := mR1
  clear mR1
  replace nR2 := mR2
  clear mR2
  replace nR3 := mR3
  clear mR3
  replace nA0 := mA0
  clear mA0
  replace nA1 := mA1
  clear mA1
  replace nA2 := mA2
  clear mA2
  replace nA3 := mA3
  clear mA3
  replace fR0 := wR0
  clear wR0
  replace fR1 := wR1
  clear wR1
  replace fR2 := wR2
  clear wR2
  replace fR3 := wR3
  clear wR3
  replace S1 := VS1
  clear VS1
  replace S2 := VS2
  clear VS2
  replace H1 := VH1
  clear VH1
  replace H2 := VH2
  clear VH2
  obtain ⟨aT, hb9⟩ := HBT.out
  obtain ⟨cT, hb9⟩ := hb9
  obtain ⟨bT, hb9⟩ := hb9
  obtain ⟨dT, e0, e1, e2, e3, g0, g1, g2, g3, hs9, ht9, q1, q2⟩ := hb9
  have nT0 := Lib.hid e0
  have fT0 := Lib.hid g0
  have nT1 := Lib.hid e1
  have fT1 := Lib.hid g1
  have nT2 := Lib.hid e2
  have fT2 := Lib.hid g2
  have nT3 := Lib.hid e3
  have fT3 := Lib.hid g3
  have T1 := Lib.hid hs9
  have T2 := Lib.hid ht9
  have QT1 := Lib.hid q1
  have QT2 := Lib.hid q2
  clear e0 e1 e2 e3 g0 g1 g2 g3 hs9 ht9 q1 q2 HBT
  obtain ⟨aS, hb9⟩ := HBS.out
  obtain ⟨cS, hb9⟩ := hb9
  obtain ⟨bS, hb9⟩ := hb9
  obtain ⟨dS, e0, e1, e2, e3, g0, g1, g2, g3, hs9, ht9, q1, q2⟩ := hb9
  have nS0 := Lib.hid e0
  have fS0 := Lib.hid g0
  have nS1 := Lib.hid e1
  have fS1 := Lib.hid g1
  have nS2 := Lib.hid e2
  have fS2 := Lib.hid g2
  have nS3 := Lib.hid e3
  have fS3 := Lib.hid g3
  have S91 := Lib.hid hs9
  have S92 := Lib.hid ht9
  have QS91 := Lib.hid q1
  have QS92 := Lib.hid q2
  clear e0 e1 e2 e3 g0 g1 g2 g3 hs9 ht9 q1 q2 HBS
  have FT : Hid (Fit2 ⟨t1, t2⟩) := by have h := waveT_fit hsCos HE7.out HQ49.out hk96 j (by have h9 := HC0.out; omega); rw [← HT.out] at h; exact Lib.hid h
  have FS : Hid (Fit2 ⟨s1, s2⟩) := by have h := waveS_fit hsCos HE7.out HQ49.out hk96 j (by have h9 := HC0.out; omega); rw [← HS.out] at h; exact Lib.hid h
  have hw1 : IntKind.i64.wrap ((j : Int) + 1 + 1) = (j : Int) + 1 + 1 := IntWalk.i64_in _ (by have h9 := HC0.out; omega)
  by_cases hlt : j < c0
  ·skip
   have KT := HK
   have hc9 := HC0.out
   have hle : (j : Int) + 1 ≤ 40 := by omega
   have hj1 : j + 1 ≤ c0 := by omega
   have hb := waveN_le (j := j) (by omega)
   obtain ⟨n, hn⟩ : ∃ n, n = 2 * ((j : Int) + 1) * (2 * ((j : Int) + 1) - 1) := ⟨_, rfl⟩
   have hnn : waveN (-1) (j + 1) = n := by rw [hn]; unfold waveN; congr 1
   have hn1' : 1 ≤ n := by rw [← hnn]; exact waveN_one hsCos j
   obtain ⟨u1, u2, hu⟩ : ∃ u1 u2 : Int, (⟨u1, u2⟩ : Z2) = mul2 k ⟨t1, t2⟩ ⟨q1, q2⟩ := ⟨_, _, rfl⟩
   have FU : Hid (Fit2 ⟨u1, u2⟩) := by have h := waveM_fit hsCos HE7.out HQ49.out hk96 j (by omega); rw [← HT.out, ← hu] at h; exact Lib.hid h
   obtain ⟨p1, p2_, hp⟩ : ∃ p1 p2_ : Int, (⟨p1, p2_⟩ : Z2) = part2 n ⟨u1, u2⟩ := ⟨_, _, rfl⟩
   have hpt : (⟨p1, p2_⟩ : Z2) = waveT k (⟨e1, e1⟩ : Z2) ⟨q1, q2⟩ (-1) (j + 1) := by rw [hp, hu, HT.out, waveT_succ, hnn]
   have FP : Hid (Fit2 ⟨p1, p2_⟩) := by have h := waveT_fit hsCos HE7.out HQ49.out hk96 (j + 1) (by omega); rw [← hpt] at h; exact Lib.hid h
   obtain ⟨r1, r2, hr⟩ : ∃ r1 r2 : Int, (⟨r1, r2⟩ : Z2) = put2 ⟨s1, s2⟩ ⟨p1, p2_⟩ (j + 1) := ⟨_, _, rfl⟩
   have hrs : (⟨r1, r2⟩ : Z2) = waveS k (⟨e1, e1⟩ : Z2) ⟨q1, q2⟩ (-1) (j + 1) := by rw [hr, hpt, HS.out]; rfl
   have hn1 : IntKind.i64.wrap (2 * ((j : Int) + 1)) = 2 * ((j : Int) + 1) := IntWalk.i64_in _ (by omega)
   have hn2 : IntKind.i64.wrap (2 * ((j : Int) + 1) - 1) = 2 * ((j : Int) + 1) - 1 := IntWalk.i64_in _ (by omega)
   have hn3 : IntKind.i64.wrap (2 * ((j : Int) + 1) * (2 * ((j : Int) + 1) - 1)) = n := by rw [← hn]; exact IntWalk.i64_in _ (by omega)
   have hn5 : IntKind.i64.wrap (2 * ((j : Int) + 1) + 1) = 2 * ((j : Int) + 1) + 1 := IntWalk.i64_in _ (by omega)
   have hn6 : IntKind.i64.wrap (2 * ((j : Int) + 1) * (2 * ((j : Int) + 1) + 1)) = 2 * ((j : Int) + 1) * (2 * ((j : Int) + 1) + 1) := IntWalk.i64_in _ (by omega)
   have hb2 : n ≤ 7000 := by omega
   have HPT := Lib.hid hpt
   have HPP := Lib.hid hp
   have HRR := Lib.hid hr
   have HRS := Lib.hid hrs
   have HUM := Lib.hid hu
   have HN1 := Lib.hid hn1
   have HN2 := Lib.hid hn2
   have HN3 := Lib.hid hn3
   have HW1 := Lib.hid hw1
   have HN5 := Lib.hid hn5
   have HN6 := Lib.hid hn6
   clear hpt hu hp hr hrs hn1 hn2 hn3 hw1 hlt hn hnn hb hn5 hn6 hc9
   have lu1 := FU.out.2.1; have lu2 := FU.out.2.2
   have hn1 := HN1.out; have hn2 := HN2.out; have hn3 := HN3.out; have hn5 := HN5.out; have hn6 := HN6.out
   have tT0 := nT0.out
   have tT1 := nT1.out
   have tT2 := nT2.out
   have tT3 := nT3.out
   have tQ0 := nQ0.out
   have tQ1 := nQ1.out
   have tQ2 := nQ2.out
   have tQ3 := nQ3.out
   go_wp2_with fail
   clear tT0 tT1 tT2 tT3 tQ0 tQ1 tQ2 tQ3
   refine (l3Mul_zz k t1 t2 _ _ _ _ q1 q2 _ _ _ _ u1 u2 _ T1.out T2.out S1.out S2.out HP.out FT.out FQ.out HUM.out).mono ?_
   intro e v4 hh; unfold SpanV at hh; obtain ⟨b4, hh⟩ := hh; obtain ⟨c4, hh⟩ := hh; obtain ⟨d4, hh⟩ := hh; obtain ⟨m4, hh, hs4, ht4, hf4, hg4, hk4⟩ := hh; subst hh
   have M1 := Lib.hid hs4
   have GM1 := Lib.hid (hf4.mono (B' := wr.heap.size) (by simp))
   have UM1 := Lib.hid M1.out.lt
   have M2 := Lib.hid ht4
   have GM2 := Lib.hid (hg4.mono (B' := wr.heap.size) (by simp))
   have UM2 := Lib.hid M2.out.lt
   have hk := hk4
   have z9 := hk.size
   have kq1 := Lib.hid hk
   clear hk
   clear hn1 hn2 hn3 hn5 hn6
   go_wp2_with fail
   refine (l4Part_zz n u1 u2 _ _ _ _ p1 p2_ _ M1.out M2.out (by omega) (by omega) (by omega) lu1 lu2 HPP.out).mono ?_
   intro e v5 hh; unfold SpanV at hh; obtain ⟨b5, hh⟩ := hh; obtain ⟨c5, hh⟩ := hh; obtain ⟨d5, hh⟩ := hh; obtain ⟨m5, hh, hs5, ht5, hf5, hg5, hk5⟩ := hh; subst hh
   have N1 := Lib.hid hs5
   have GN1 := Lib.hid (hf5.mono (B' := v4.heap.size) (by simp))
   have UN1 := Lib.hid N1.out.lt
   have N2 := Lib.hid ht5
   have GN2 := Lib.hid (hg5.mono (B' := v4.heap.size) (by simp))
   have UN2 := Lib.hid N2.out.lt
   have hk := hk5
   have z10 := hk.size
   have kq2 := Lib.hid hk
   clear hk
   have QN1 := Lib.hid (show Off [w.heap.size + 1, ww4.heap.size, ww7.heap.size] _ _ from fun hn x hx hm => by have h9 := GN1.out hn x hx; simp at hm; omega)
   have QN2 := Lib.hid (show Off [w.heap.size + 1, ww4.heap.size, ww7.heap.size] _ _ from fun hn x hx hm => by have h9 := GN2.out hn x hx; simp at hm; omega)
   have kj1 := Lib.hid (kq1.out.trans0 kq2.out)
   replace fT0 := kf kj1.out nT0 fT0
   replace nT0 := kc kj1.out nT0
   have tT0 := nT0.out
   replace fT1 := kf kj1.out nT1 fT1
   replace nT1 := kc kj1.out nT1
   have tT1 := nT1.out
   replace fT2 := kf kj1.out nT2 fT2
   replace nT2 := kc kj1.out nT2
   have tT2 := nT2.out
   replace fT3 := kf kj1.out nT3 fT3
   replace nT3 := kc kj1.out nT3
   have tT3 := nT3.out
   have uT0 := fT0.out
   have uT1 := fT1.out
   have uT2 := fT2.out
   have uT3 := fT3.out
   go_upto_region 14 with fail
   clear tT0 tT1 tT2 tT3 uT0 uT1 uT2 uT3
   clear T1 T2 M1 M2
   generalize hW : ((((v5.setCell ⟨ww4.heap.size, 0, none⟩ (.bool (isNeg p1))).setCell ⟨ww4.heap.size, 1, none⟩ (.slice b5 (mag p1).length c5)).setCell ⟨ww4.heap.size, 2, none⟩ (.bool (isNeg p2_))).setCell ⟨ww4.heap.size, 3, none⟩ (.slice d5 (mag p2_).length m5)) = ww11
   have hk : Kept [ww4.heap.size] v5 ww11 := by rw [← hW]; exact ((((Kept.refl _ _).setCell _ _ (by simp)).setCell _ _ (by simp)).setCell _ _ (by simp)).setCell _ _ (by simp)
   have hfz : ∀ x, ww11.frozen? x = v5.frozen? x := by rw [← hW]; intro x; simp only [World.frozen?_setCell]
   obtain ⟨e0, e1, e2, e3⟩ := st4 hW.symm nT0.out nT1.out nT2.out nT3.out
   have z11 := hk.size
   have kq3 := Lib.hid hk
   have hz3 := Lib.hid hfz
   replace fT0 := kz hfz fT0
   replace fT1 := kz hfz fT1
   replace fT2 := kz hfz fT2
   replace fT3 := kz hfz fT3
   replace nT0 := Lib.hid e0
   replace nT1 := Lib.hid e1
   replace nT2 := Lib.hid e2
   replace nT3 := Lib.hid e3
   clear hk hfz hW e0 e1 e2 e3
   replace fS0 := kf kj1.out nS0 fS0
   replace nS0 := kc kj1.out nS0
   replace fS0 := kz hz3.out fS0
   replace nS0 := kd kq3.out nS0 (by simp <;> omega)
   have tS0 := nS0.out
   replace fS1 := kf kj1.out nS1 fS1
   replace nS1 := kc kj1.out nS1
   replace fS1 := kz hz3.out fS1
   replace nS1 := kd kq3.out nS1 (by simp <;> omega)
   have tS1 := nS1.out
   replace fS2 := kf kj1.out nS2 fS2
   replace nS2 := kc kj1.out nS2
   replace fS2 := kz hz3.out fS2
   replace nS2 := kd kq3.out nS2 (by simp <;> omega)
   have tS2 := nS2.out
   replace fS3 := kf kj1.out nS3 fS3
   replace nS3 := kc kj1.out nS3
   replace fS3 := kz hz3.out fS3
   replace nS3 := kd kq3.out nS3 (by simp <;> omega)
   have tS3 := nS3.out
   have tT0 := nT0.out
   have tT1 := nT1.out
   have tT2 := nT2.out
   have tT3 := nT3.out
   go_wp2_with fail
   clear tS0 tS1 tS2 tS3 tT0 tT1 tT2 tT3
   replace S91 := Lib.hid (S91.out.kept0 kj1.out)
   replace S91 := Lib.hid (S91.out.kept kq3.out (fun hn y hy hm => by exact QS91.out hn y hy (by simp at hm; simp [hm])))
   replace S92 := Lib.hid (S92.out.kept0 kj1.out)
   replace S92 := Lib.hid (S92.out.kept kq3.out (fun hn y hy hm => by exact QS92.out hn y hy (by simp at hm; simp [hm])))
   replace N1 := Lib.hid (N1.out.kept kq3.out (fun hn y hy hm => by have h9 := GN1.out hn y hy; simp at hm; omega))
   replace N2 := Lib.hid (N2.out.kept kq3.out (fun hn y hy hm => by have h9 := GN2.out hn y hy; simp at hm; omega))
   refine (l4Put_n (j + 1) _ s1 s2 _ _ _ _ p1 p2_ _ _ _ _ r1 r2 _ S91.out S92.out N1.out N2.out rfl (by omega) FS.out FP.out HRR.out).mono ?_
   intro e v6 hh; unfold SpanV at hh; obtain ⟨b6, hh⟩ := hh; obtain ⟨c6, hh⟩ := hh; obtain ⟨d6, hh⟩ := hh; obtain ⟨m6, hh, hs6, ht6, hf6, hg6, hk6⟩ := hh; subst hh
   have O1 := Lib.hid hs6
   have GO1 := Lib.hid (hf6.mono (B' := ww11.heap.size) (by simp))
   have UO1 := Lib.hid O1.out.lt
   have O2 := Lib.hid ht6
   have GO2 := Lib.hid (hg6.mono (B' := ww11.heap.size) (by simp))
   have UO2 := Lib.hid O2.out.lt
   have hk := hk6
   have z12 := hk.size
   have kq4 := Lib.hid hk
   clear hk
   have QO1 := Lib.hid (show Off [w.heap.size + 1, ww4.heap.size, ww7.heap.size] _ _ from fun hn x hx hm => by have h9 := GO1.out hn x hx; simp at hm; omega)
   have QO2 := Lib.hid (show Off [w.heap.size + 1, ww4.heap.size, ww7.heap.size] _ _ from fun hn x hx hm => by have h9 := GO2.out hn x hx; simp at hm; omega)
   clear S91 S92
   have hw1 := HW1.out
   replace fS0 := kf kq4.out nS0 fS0
   replace nS0 := kc kq4.out nS0
   have tS0 := nS0.out
   replace fS1 := kf kq4.out nS1 fS1
   replace nS1 := kc kq4.out nS1
   have tS1 := nS1.out
   replace fS2 := kf kq4.out nS2 fS2
   replace nS2 := kc kq4.out nS2
   have tS2 := nS2.out
   replace fS3 := kf kq4.out nS3 fS3
   replace nS3 := kc kq4.out nS3
   have tS3 := nS3.out
   have uS0 := fS0.out
   have uS1 := fS1.out
   have uS2 := fS2.out
   have uS3 := fS3.out
   go_wp2_with fail
   clear tS0 tS1 tS2 tS3 uS0 uS1 uS2 uS3
   generalize hW : ((((v6.setCell ⟨ww7.heap.size, 0, none⟩ (.bool (isNeg r1))).setCell ⟨ww7.heap.size, 1, none⟩ (.slice b6 (mag r1).length c6)).setCell ⟨ww7.heap.size, 2, none⟩ (.bool (isNeg r2))).setCell ⟨ww7.heap.size, 3, none⟩ (.slice d6 (mag r2).length m6)) = ww13
   have hk : Kept [ww7.heap.size] v6 ww13 := by rw [← hW]; exact ((((Kept.refl _ _).setCell _ _ (by simp)).setCell _ _ (by simp)).setCell _ _ (by simp)).setCell _ _ (by simp)
   have hfz : ∀ x, ww13.frozen? x = v6.frozen? x := by rw [← hW]; intro x; simp only [World.frozen?_setCell]
   obtain ⟨e0, e1, e2, e3⟩ := st4 hW.symm nS0.out nS1.out nS2.out nS3.out
   have z13 := hk.size
   have kq5 := Lib.hid hk
   have hz5 := Lib.hid hfz
   replace fS0 := kz hfz fS0
   replace fS1 := kz hfz fS1
   replace fS2 := kz hfz fS2
   replace fS3 := kz hfz fS3
   replace nS0 := Lib.hid e0
   replace nS1 := Lib.hid e1
   replace nS2 := Lib.hid e2
   replace nS3 := Lib.hid e3
   clear hk hfz hW e0 e1 e2 e3
   go_roundw
   replace nQ0 := kc kj1.out nQ0
   replace nQ0 := kd kq3.out nQ0 (by simp <;> omega)
   replace nQ0 := kc kq4.out nQ0
   replace nQ0 := kd kq5.out nQ0 (by simp <;> omega)
   replace nQ1 := kc kj1.out nQ1
   replace nQ1 := kd kq3.out nQ1 (by simp <;> omega)
   replace nQ1 := kc kq4.out nQ1
   replace nQ1 := kd kq5.out nQ1 (by simp <;> omega)
   replace nQ2 := kc kj1.out nQ2
   replace nQ2 := kd kq3.out nQ2 (by simp <;> omega)
   replace nQ2 := kc kq4.out nQ2
   replace nQ2 := kd kq5.out nQ2 (by simp <;> omega)
   replace nQ3 := kc kj1.out nQ3
   replace nQ3 := kd kq3.out nQ3 (by simp <;> omega)
   replace nQ3 := kc kq4.out nQ3
   replace nQ3 := kd kq5.out nQ3 (by simp <;> omega)
   replace fR0 := kf kj1.out nR0 fR0
   replace nR0 := kc kj1.out nR0
   replace fR0 := kz hz3.out fR0
   replace nR0 := kd kq3.out nR0 (by simp <;> omega)
   replace fR0 := kf kq4.out nR0 fR0
   replace nR0 := kc kq4.out nR0
   replace fR0 := kz hz5.out fR0
   replace nR0 := kd kq5.out nR0 (by simp <;> omega)
   replace fR1 := kf kj1.out nR1 fR1
   replace nR1 := kc kj1.out nR1
   replace fR1 := kz hz3.out fR1
   replace nR1 := kd kq3.out nR1 (by simp <;> omega)
   replace fR1 := kf kq4.out nR1 fR1
   replace nR1 := kc kq4.out nR1
   replace fR1 := kz hz5.out fR1
   replace nR1 := kd kq5.out nR1 (by simp <;> omega)
   replace fR2 := kf kj1.out nR2 fR2
   replace nR2 := kc kj1.out nR2
   replace fR2 := kz hz3.out fR2
   replace nR2 := kd kq3.out nR2 (by simp <;> omega)
   replace fR2 := kf kq4.out nR2 fR2
   replace nR2 := kc kq4.out nR2
   replace fR2 := kz hz5.out fR2
   replace nR2 := kd kq5.out nR2 (by simp <;> omega)
   replace fR3 := kf kj1.out nR3 fR3
   replace nR3 := kc kj1.out nR3
   replace fR3 := kz hz3.out fR3
   replace nR3 := kd kq3.out nR3 (by simp <;> omega)
   replace fR3 := kf kq4.out nR3 fR3
   replace nR3 := kc kq4.out nR3
   replace fR3 := kz hz5.out fR3
   replace nR3 := kd kq5.out nR3 (by simp <;> omega)
   replace nA0 := kc kj1.out nA0
   replace nA0 := kd kq3.out nA0 (by simp <;> omega)
   replace nA0 := kc kq4.out nA0
   replace nA0 := kd kq5.out nA0 (by simp <;> omega)
   replace nA1 := kc kj1.out nA1
   replace nA1 := kd kq3.out nA1 (by simp <;> omega)
   replace nA1 := kc kq4.out nA1
   replace nA1 := kd kq5.out nA1 (by simp <;> omega)
   replace nA2 := kc kj1.out nA2
   replace nA2 := kd kq3.out nA2 (by simp <;> omega)
   replace nA2 := kc kq4.out nA2
   replace nA2 := kd kq5.out nA2 (by simp <;> omega)
   replace nA3 := kc kj1.out nA3
   replace nA3 := kd kq3.out nA3 (by simp <;> omega)
   replace nA3 := kc kq4.out nA3
   replace nA3 := kd kq5.out nA3 (by simp <;> omega)
   replace S1 := Lib.hid (S1.out.kept0 kj1.out)
   replace S1 := Lib.hid (S1.out.kept kq3.out (fun hn y hy hm => by have h9 := US1.out hn y hy; simp at hm; omega))
   replace S1 := Lib.hid (S1.out.kept0 kq4.out)
   replace S1 := Lib.hid (S1.out.kept kq5.out (fun hn y hy hm => by have h9 := US1.out hn y hy; simp at hm; omega))
   replace S2 := Lib.hid (S2.out.kept0 kj1.out)
   replace S2 := Lib.hid (S2.out.kept kq3.out (fun hn y hy hm => by have h9 := US2.out hn y hy; simp at hm; omega))
   replace S2 := Lib.hid (S2.out.kept0 kq4.out)
   replace S2 := Lib.hid (S2.out.kept kq5.out (fun hn y hy hm => by have h9 := US2.out hn y hy; simp at hm; omega))
   replace H1 := Lib.hid (H1.out.kept0 kj1.out)
   replace H1 := Lib.hid (H1.out.kept kq3.out (fun hn y hy hm => by have h9 := F1.out hn y hy; simp at hm; omega))
   replace H1 := Lib.hid (H1.out.kept0 kq4.out)
   replace H1 := Lib.hid (H1.out.kept kq5.out (fun hn y hy hm => by have h9 := F1.out hn y hy; simp at hm; omega))
   replace H2 := Lib.hid (H2.out.kept0 kj1.out)
   replace H2 := Lib.hid (H2.out.kept kq3.out (fun hn y hy hm => by have h9 := F2.out hn y hy; simp at hm; omega))
   replace H2 := Lib.hid (H2.out.kept0 kq4.out)
   replace H2 := Lib.hid (H2.out.kept kq5.out (fun hn y hy hm => by have h9 := F2.out hn y hy; simp at hm; omega))
   replace KT := Lib.hid (KT.out.trans0 kj1.out)
   replace KT := Lib.hid (KT.out.trans kq3.out (fun x hx hlt => by simp at hx; simp [hx]))
   replace KT := Lib.hid (KT.out.trans0 kq4.out)
   replace KT := Lib.hid (KT.out.trans kq5.out (fun x hx hlt => by simp at hx; simp [hx]))
   replace fT0 := kf kq4.out nT0 fT0
   replace nT0 := kc kq4.out nT0
   replace fT0 := kz hz5.out fT0
   replace nT0 := kd kq5.out nT0 (by simp <;> omega)
   replace fT1 := kf kq4.out nT1 fT1
   replace nT1 := kc kq4.out nT1
   replace fT1 := kz hz5.out fT1
   replace nT1 := kd kq5.out nT1 (by simp <;> omega)
   replace fT2 := kf kq4.out nT2 fT2
   replace nT2 := kc kq4.out nT2
   replace fT2 := kz hz5.out fT2
   replace nT2 := kd kq5.out nT2 (by simp <;> omega)
   replace fT3 := kf kq4.out nT3 fT3
   replace nT3 := kc kq4.out nT3
   replace fT3 := kz hz5.out fT3
   replace nT3 := kd kq5.out nT3 (by simp <;> omega)
   replace N1 := Lib.hid (N1.out.kept0 kq4.out)
   replace N1 := Lib.hid (N1.out.kept kq5.out (fun hn y hy hm => by have h9 := GN1.out hn y hy; simp at hm; omega))
   replace N2 := Lib.hid (N2.out.kept0 kq4.out)
   replace N2 := Lib.hid (N2.out.kept kq5.out (fun hn y hy hm => by have h9 := GN2.out hn y hy; simp at hm; omega))
   replace O1 := Lib.hid (O1.out.kept kq5.out (fun hn y hy hm => by have h9 := GO1.out hn y hy; simp at hm; omega))
   replace O2 := Lib.hid (O2.out.kept kq5.out (fun hn y hy hm => by have h9 := GO2.out hn y hy; simp at hm; omega))
   case rel => exact ⟨j + 1, p1, p2_, r1, r2, by omega, by first | rfl | (congr 1; omega), HPT, HRS, Lib.hid ⟨_, _, _, _, nT0.out, nT1.out, nT2.out, nT3.out, fT0.out, fT1.out, fT2.out, fT3.out, N1.out, N2.out, QN1.out, QN2.out⟩, Lib.hid ⟨_, _, _, _, nS0.out, nS1.out, nS2.out, nS3.out, fS0.out, fS1.out, fS2.out, fS3.out, O1.out, O2.out, QO1.out, QO2.out⟩, KT⟩
   case measure => simp [intOf]; omega
  ·skip
   have hc9 := HC0.out
   obtain rfl : j = c0 := by omega
   have hle : ¬ (j : Int) + 1 ≤ 40 := by omega
   clear hc9
   have KT := Lib.hid (hKU.out.trans HK.out (fun x hx hlt => by simp at hx; omega))
   clear HK hw1 hlt
   obtain ⟨y1, y2, hy⟩ : ∃ y1 y2 : Int, (⟨y1, y2⟩ : Z2) = swing2 ⟨t1, t2⟩ := ⟨_, _, rfl⟩
   have FY : Hid (Fit2 ⟨y1, y2⟩) := by have h := waveW_fit hsCos HE7.out HQ49.out hk96; rw [← HC0.out, ← HT.out, ← hy] at h; exact Lib.hid h
   obtain ⟨g1, g2, hg⟩ : ∃ g1 g2 : Int, (⟨g1, g2⟩ : Z2) = add2 ⟨s1, s2⟩ ⟨y1, y2⟩ := ⟨_, _, rfl⟩
   have hgw : (⟨g1, g2⟩ : Z2) = waveA k (⟨e1, e1⟩ : Z2) ⟨q1, q2⟩ (-1) := by rw [hg, hy, HS.out, HT.out]; unfold waveA; rw [← HC0.out]
   have FG : Hid (Fit2 ⟨g1, g2⟩) := by have h := waveA_fit hsCos HE7.out HQ49.out hk96; rw [← hgw] at h; exact Lib.hid h
   obtain ⟨d1, hd1⟩ : ∃ d1, d1 = x2 - x1 := ⟨_, rfl⟩
   obtain ⟨e1', e2', he9⟩ : ∃ e1' e2' : Int, (⟨e1', e2'⟩ : Z2) = swing2 ⟨d1, d1⟩ := ⟨_, _, rfl⟩
   have FD : Hid (Fit2 ⟨d1, d1⟩) := Lib.hid (by rw [hd1]; exact width_fit HIN.out hk96)
   have FE : Hid (Fit2 ⟨e1', e2'⟩) := Lib.hid (by rw [he9, hd1]; exact widthW_fit HIN.out hk96)
   have hoo : (⟨o1, o2⟩ : Z2) = add2 ⟨g1, g2⟩ ⟨e1', e2'⟩ := by rw [HZ.out, he9, hd1, hgw, HQ.out, HE.out]; rfl
   have HY := Lib.hid hy
   have HG := Lib.hid hg
   have HD1 := Lib.hid hd1
   have HE9 := Lib.hid he9
   have HOO := Lib.hid hoo
   clear hy hg hgw hd1 he9 hoo
   have lt1 := FT.out.2.1; have lt2 := FT.out.2.2; have ld := FD.out.2.1; have lx1 := FX.out.2.1; have lx2 := FX.out.2.2
   go_upto_region 15 with fail
   go_cut [] (fun wx => Hid (SpAt [w.heap.size + 1, ww4.heap.size, ww7.heap.size] wx (ww7.heap.size) g1 g2 ∧ Kept [ww7.heap.size] wr wx))
   case first =>
    replace KT := Lib.hid (Kept.refl [ww7.heap.size] wr)
    have tT0 := nT0.out
    have tT1 := nT1.out
    have tT2 := nT2.out
    have tT3 := nT3.out
    have hHeld : RdW wr (ww7.heap.size) (ww4.heap.size) (.bool (isNeg t1)) (.slice aT (mag t1).length cT) (.bool (isNeg t2)) (.slice bT (mag t2).length dT) wr.drew := ⟨tT0, tT1, tT2, tT3, (Kept.refl [ww7.heap.size] wr).drew⟩
    refine wp_region_held_drew (S := RdW wr (ww7.heap.size) (ww4.heap.size) (.bool (isNeg t1)) (.slice aT (mag t1).length cT) (.bool (isNeg t2)) (.slice bT (mag t2).length dT)) (by kernel_rfl) hHeld (fun hHeld => ?_)
    refine take_d (i := 1) (d := 52) (v := Value.agg #[.bool (isNeg t1), .slice aT (mag t1).length cT, .bool (isNeg t2), .slice bT (mag t2).length dT]) rfl rfl (by kernel_rfl) (by kernel_rfl) (by kernel_rfl) (fun _ _ _ h => h) (by rfl) ?_ hHeld ?_
    ·intro w9 hS9; obtain ⟨t0, t1, t2, t3, _⟩ := hS9; go_simp
    simp only [List.setIfInBounds_toArray, List.set_cons_zero, List.set_cons_succ]
    refine wpAnyH_ready (rs := [0, 2]) (by kernel_rfl) (by simp) ?_
    refine AllReadyH.cons rfl (fun K hK => ?_) (AllReadyH.cons rfl (fun K hK => ?_) AllReadyH.nil)
    focus
     have d0 := (((Kept.refl [] wr).drew)).cell (p := ⟨ww7.heap.size, 0, none⟩) nS0.out (by simp)
     have d1 := (((Kept.refl [] wr).drew)).cell (p := ⟨ww7.heap.size, 1, none⟩) nS1.out (by simp)
     have d2 := (((Kept.refl [] wr).drew)).cell (p := ⟨ww7.heap.size, 2, none⟩) nS2.out (by simp)
     have d3 := (((Kept.refl [] wr).drew)).cell (p := ⟨ww7.heap.size, 3, none⟩) nS3.out (by simp)
     go_simp
     refine hK.out _ _ hHeld (fun hHeld => ?_)
     clear hK d0 d1 d2 d3
     try simp only [Act.put, List.setIfInBounds_toArray, List.set_cons_zero, List.set_cons_succ]
     refine wpAnyH_ready (rs := [2]) (by kernel_rfl) (by simp) ?_
     refine AllReadyH.cons rfl (fun K hK => ?_) AllReadyH.nil
     go_simp
     refine (l4Swing_zz t1 t2 _ _ _ _ y1 y2 _ (T1.out.kept0 ((Kept.refl [] _).drew)) (T2.out.kept0 ((Kept.refl [] _).drew)) lt1 lt2 HY.out).mono ?_
     intro e v4 hh; unfold SpanV at hh; obtain ⟨b4, hh⟩ := hh; obtain ⟨c4, hh⟩ := hh; obtain ⟨d4, hh⟩ := hh; obtain ⟨m4, hh, hs4, ht4, hf4, hg4, hk4⟩ := hh; subst hh
     refine hK.out _ _ (hHeld.kept hk4) (fun hHeld => ?_)
     clear hK
     try simp only [Act.put, List.setIfInBounds_toArray, List.set_cons_zero, List.set_cons_succ]
     refine wpAnyH_ready (rs := [3]) (by kernel_rfl) (by simp) ?_
     refine AllReadyH.cons rfl (fun K hK => ?_) AllReadyH.nil
     go_simp
     refine (l3Add_zz s1 s2 _ _ _ _ y1 y2 _ _ _ _ g1 g2 _ (S91.out.kept0 (((Kept.refl [] _).drew).trans0 hk4)) (S92.out.kept0 (((Kept.refl [] _).drew).trans0 hk4)) (hs4.kept0 (Kept.refl [] _)) (ht4.kept0 (Kept.refl [] _)) FS.out FY.out HG.out).mono ?_
     intro e v5 hh; unfold SpanV at hh; obtain ⟨b5, hh⟩ := hh; obtain ⟨c5, hh⟩ := hh; obtain ⟨d5, hh⟩ := hh; obtain ⟨m5, hh, hs5, ht5, hf5, hg5, hk5⟩ := hh; subst hh
     refine hK.out _ _ (hHeld.kept hk5) (fun hHeld => ?_)
     clear hK
     try simp only [Act.put, List.setIfInBounds_toArray, List.set_cons_zero, List.set_cons_succ]
     have hkr := ((((Kept.refl [] wr).drew).trans0 hk4).trans0 hk5); have rg0 := hkr.cell (p := ⟨ww7.heap.size, 0, none⟩) nS0.out (by simp); have rg1 := hkr.cell (p := ⟨ww7.heap.size, 1, none⟩) nS1.out (by simp); have rg2 := hkr.cell (p := ⟨ww7.heap.size, 2, none⟩) nS2.out (by simp); have rg3 := hkr.cell (p := ⟨ww7.heap.size, 3, none⟩) nS3.out (by simp); have ru0 := hkr.free' (p := ⟨ww7.heap.size, 0, none⟩) nS0.out fS0.out (by simp); have ru1 := hkr.free' (p := ⟨ww7.heap.size, 1, none⟩) nS1.out fS1.out (by simp); have ru2 := hkr.free' (p := ⟨ww7.heap.size, 2, none⟩) nS2.out fS2.out (by simp); have ru3 := hkr.free' (p := ⟨ww7.heap.size, 3, none⟩) nS3.out fS3.out (by simp)
     refine wpAnyH_ready (rs := [4]) (by kernel_rfl) (by simp) ?_
     refine AllReadyH.cons rfl (fun K hK => ?_) AllReadyH.nil
     go_simp
     refine hK.out _ _ (hHeld.set (by with_reducible repeat (first | exact Kept.refl _ _ | refine Kept.setCell ?_ _ _ (by simp))) (by omega)) (fun hHeld => ?_)
     clear hK
     refine wpAnyH_done (by kernel_rfl) ?_ _
     try simp only [Act.put, List.setIfInBounds_toArray, List.set_cons_zero, List.set_cons_succ]
    rotate_left 1
    focus
     go_simp
     refine (l4Swing_zz t1 t2 _ _ _ _ y1 y2 _ (T1.out.kept0 ((Kept.refl [] _).drew)) (T2.out.kept0 ((Kept.refl [] _).drew)) lt1 lt2 HY.out).mono ?_
     intro e v4 hh; unfold SpanV at hh; obtain ⟨b4, hh⟩ := hh; obtain ⟨c4, hh⟩ := hh; obtain ⟨d4, hh⟩ := hh; obtain ⟨m4, hh, hs4, ht4, hf4, hg4, hk4⟩ := hh; subst hh
     refine hK.out _ _ (hHeld.kept hk4) (fun hHeld => ?_)
     clear hK
     try simp only [Act.put, List.setIfInBounds_toArray, List.set_cons_zero, List.set_cons_succ]
     refine wpAnyH_ready (rs := [0]) (by kernel_rfl) (by simp) ?_
     refine AllReadyH.cons rfl (fun K hK => ?_) AllReadyH.nil
     have d0 := (((((Kept.refl [] wr).drew).trans0 hk4))).cell (p := ⟨ww7.heap.size, 0, none⟩) nS0.out (by simp)
     have d1 := (((((Kept.refl [] wr).drew).trans0 hk4))).cell (p := ⟨ww7.heap.size, 1, none⟩) nS1.out (by simp)
     have d2 := (((((Kept.refl [] wr).drew).trans0 hk4))).cell (p := ⟨ww7.heap.size, 2, none⟩) nS2.out (by simp)
     have d3 := (((((Kept.refl [] wr).drew).trans0 hk4))).cell (p := ⟨ww7.heap.size, 3, none⟩) nS3.out (by simp)
     go_simp
     refine hK.out _ _ hHeld (fun hHeld => ?_)
     clear hK d0 d1 d2 d3
     try simp only [Act.put, List.setIfInBounds_toArray, List.set_cons_zero, List.set_cons_succ]
     refine wpAnyH_ready (rs := [3]) (by kernel_rfl) (by simp) ?_
     refine AllReadyH.cons rfl (fun K hK => ?_) AllReadyH.nil
     go_simp
     refine (l3Add_zz s1 s2 _ _ _ _ y1 y2 _ _ _ _ g1 g2 _ (S91.out.kept0 (((Kept.refl [] _).drew).trans0 hk4)) (S92.out.kept0 (((Kept.refl [] _).drew).trans0 hk4)) (hs4.kept0 (Kept.refl [] _)) (ht4.kept0 (Kept.refl [] _)) FS.out FY.out HG.out).mono ?_
     intro e v5 hh; unfold SpanV at hh; obtain ⟨b5, hh⟩ := hh; obtain ⟨c5, hh⟩ := hh; obtain ⟨d5, hh⟩ := hh; obtain ⟨m5, hh, hs5, ht5, hf5, hg5, hk5⟩ := hh; subst hh
     refine hK.out _ _ (hHeld.kept hk5) (fun hHeld => ?_)
     clear hK
     try simp only [Act.put, List.setIfInBounds_toArray, List.set_cons_zero, List.set_cons_succ]
     have hkr := ((((Kept.refl [] wr).drew).trans0 hk4).trans0 hk5); have rg0 := hkr.cell (p := ⟨ww7.heap.size, 0, none⟩) nS0.out (by simp); have rg1 := hkr.cell (p := ⟨ww7.heap.size, 1, none⟩) nS1.out (by simp); have rg2 := hkr.cell (p := ⟨ww7.heap.size, 2, none⟩) nS2.out (by simp); have rg3 := hkr.cell (p := ⟨ww7.heap.size, 3, none⟩) nS3.out (by simp); have ru0 := hkr.free' (p := ⟨ww7.heap.size, 0, none⟩) nS0.out fS0.out (by simp); have ru1 := hkr.free' (p := ⟨ww7.heap.size, 1, none⟩) nS1.out fS1.out (by simp); have ru2 := hkr.free' (p := ⟨ww7.heap.size, 2, none⟩) nS2.out fS2.out (by simp); have ru3 := hkr.free' (p := ⟨ww7.heap.size, 3, none⟩) nS3.out fS3.out (by simp)
     refine wpAnyH_ready (rs := [4]) (by kernel_rfl) (by simp) ?_
     refine AllReadyH.cons rfl (fun K hK => ?_) AllReadyH.nil
     go_simp
     refine hK.out _ _ (hHeld.set (by with_reducible repeat (first | exact Kept.refl _ _ | refine Kept.setCell ?_ _ _ (by simp))) (by omega)) (fun hHeld => ?_)
     clear hK
     refine wpAnyH_done (by kernel_rfl) ?_ _
     try simp only [Act.put, List.setIfInBounds_toArray, List.set_cons_zero, List.set_cons_succ]
    all_goals
     clear tT0 tT1 tT2 tT3
     have zk4 := hk4.size
     have zk5 := hk5.size
     simp only [World.size_drew] at zk4 hf4 hg4
     have N1 := Lib.hid (hs5.kept0 (Kept.refl [] _))
     have GN1 := Lib.hid (hf5.mono (B' := wr.heap.size) (by omega))
     have UN1 := Lib.hid N1.out.lt
     have N2 := Lib.hid (ht5.kept0 (Kept.refl [] _))
     have GN2 := Lib.hid (hg5.mono (B' := wr.heap.size) (by omega))
     have UN2 := Lib.hid N2.out.lt
     have hk := hkr
     clear hkr hk4 hk5
     have z9 := hk.size
     have kq1 := Lib.hid hk
     clear hk
     have QN1 := Lib.hid (show Off [w.heap.size + 1, ww4.heap.size, ww7.heap.size] _ _ from fun hn x hx hm => by have h9 := GN1.out hn x hx; simp at hm; omega)
     have QN2 := Lib.hid (show Off [w.heap.size + 1, ww4.heap.size, ww7.heap.size] _ _ from fun hn x hx hm => by have h9 := GN2.out hn x hx; simp at hm; omega)
     clear S91 S92 T1 T2
     generalize hW : ((((v5.setCell ⟨ww7.heap.size, 0, none⟩ (.bool (isNeg g1))).setCell ⟨ww7.heap.size, 1, none⟩ (.slice b5 (mag g1).length c5)).setCell ⟨ww7.heap.size, 2, none⟩ (.bool (isNeg g2))).setCell ⟨ww7.heap.size, 3, none⟩ (.slice d5 (mag g2).length m5)) = ww10
     have hk : Kept [ww7.heap.size] v5 ww10 := by rw [← hW]; exact ((((Kept.refl _ _).setCell _ _ (by simp)).setCell _ _ (by simp)).setCell _ _ (by simp)).setCell _ _ (by simp)
     have hfz : ∀ x, ww10.frozen? x = v5.frozen? x := by rw [← hW]; intro x; simp only [World.frozen?_setCell]
     replace fS0 := kf kq1.out nS0 fS0
     replace nS0 := kc kq1.out nS0
     have e0 : ww10.cell? ⟨ww7.heap.size, 0, none⟩ = some (.bool (isNeg g1)) := by rw [← hW]; rw [World.cell?_setCell_other _ _ _ _ (by simp), World.cell?_setCell_other _ _ _ _ (by simp), World.cell?_setCell_other _ _ _ _ (by simp)]; exact World.cell?_setCell_same _ _ _ (by exact nS0.out)
     replace fS1 := kf kq1.out nS1 fS1
     replace nS1 := kc kq1.out nS1
     have e1 : ww10.cell? ⟨ww7.heap.size, 1, none⟩ = some (.slice b5 (mag g1).length c5) := by rw [← hW]; rw [World.cell?_setCell_other _ _ _ _ (by simp), World.cell?_setCell_other _ _ _ _ (by simp)]; exact World.cell?_setCell_same _ _ _ (by rw [World.cell?_setCell_other _ _ _ _ (by simp)]; exact nS1.out)
     replace fS2 := kf kq1.out nS2 fS2
     replace nS2 := kc kq1.out nS2
     have e2 : ww10.cell? ⟨ww7.heap.size, 2, none⟩ = some (.bool (isNeg g2)) := by rw [← hW]; rw [World.cell?_setCell_other _ _ _ _ (by simp)]; exact World.cell?_setCell_same _ _ _ (by rw [World.cell?_setCell_other _ _ _ _ (by simp), World.cell?_setCell_other _ _ _ _ (by simp)]; exact nS2.out)
     replace fS3 := kf kq1.out nS3 fS3
     replace nS3 := kc kq1.out nS3
     have e3 : ww10.cell? ⟨ww7.heap.size, 3, none⟩ = some (.slice d5 (mag g2).length m5) := by rw [← hW]; exact World.cell?_setCell_same _ _ _ (by rw [World.cell?_setCell_other _ _ _ _ (by simp), World.cell?_setCell_other _ _ _ _ (by simp), World.cell?_setCell_other _ _ _ _ (by simp)]; exact nS3.out)
     have z10 := hk.size
     have kq2 := Lib.hid hk
     have hz2 := Lib.hid hfz
     replace fS0 := kz hfz fS0
     replace fS1 := kz hfz fS1
     replace fS2 := kz hfz fS2
     replace fS3 := kz hfz fS3
     replace nS0 := Lib.hid e0
     replace nS1 := Lib.hid e1
     replace nS2 := Lib.hid e2
     replace nS3 := Lib.hid e3
     clear hk hfz hW e0 e1 e2 e3
     go_wp2_with fail
     go_meet
     replace KT := Lib.hid (KT.out.trans0 kq1.out)
     replace KT := Lib.hid (KT.out.trans kq2.out (fun x hx hlt => by simp at hx; simp [hx]))
     replace N1 := Lib.hid (N1.out.kept kq2.out (fun hn y hy hm => by have h9 := GN1.out hn y hy; simp at hm; omega))
     replace N2 := Lib.hid (N2.out.kept kq2.out (fun hn y hy hm => by have h9 := GN2.out hn y hy; simp at hm; omega))
     exact Lib.hid ⟨⟨_, _, _, _, nS0.out, nS1.out, nS2.out, nS3.out, fS0.out, fS1.out, fS2.out, fS3.out, N1.out, N2.out, QN1.out, QN2.out⟩, KT.out⟩
   case rest =>
   obtain ⟨hb0, hk⟩ := hcut.out
   clear hcut
   have HB9 := Lib.hid hb0
   clear hb0
   clear S91 S92 T1 T2
   clear fS0 fS1 fS2 fS3 nS0 nS1 nS2 nS3
   clear fT0 fT1 fT2 fT3 nT0 nT1 nT2 nT3
   obtain ⟨ww9, rfl⟩ : ∃ w' : World, w' = wc := ⟨_, rfl⟩
   have z9 := hk.size
   replace fR0 := kg hk nR0 fR0 (by simp <;> omega)
   replace fR1 := kg hk nR1 fR1 (by simp <;> omega)
   replace fR2 := kg hk nR2 fR2 (by simp <;> omega)
   replace fR3 := kg hk nR3 fR3 (by simp <;> omega)
   replace nQ0 := kd hk nQ0 (by simp <;> omega)
   replace nQ1 := kd hk nQ1 (by simp <;> omega)
   replace nQ2 := kd hk nQ2 (by simp <;> omega)
   replace nQ3 := kd hk nQ3 (by simp <;> omega)
   replace nR0 := kd hk nR0 (by simp <;> omega)
   replace nR1 := kd hk nR1 (by simp <;> omega)
   replace nR2 := kd hk nR2 (by simp <;> omega)
   replace nR3 := kd hk nR3 (by simp <;> omega)
   replace nA0 := kd hk nA0 (by simp <;> omega)
   replace nA1 := kd hk nA1 (by simp <;> omega)
   replace nA2 := kd hk nA2 (by simp <;> omega)
   replace nA3 := kd hk nA3 (by simp <;> omega)
   replace S1 := Lib.hid (S1.out.kept hk (fun hn y hy hm => by have h9 := US1.out hn y hy; simp at hm; omega))
   replace S2 := Lib.hid (S2.out.kept hk (fun hn y hy hm => by have h9 := US2.out hn y hy; simp at hm; omega))
   replace H1 := Lib.hid (H1.out.kept hk (fun hn y hy hm => by have h9 := F1.out hn y hy; simp at hm; omega))
   replace H2 := Lib.hid (H2.out.kept hk (fun hn y hy hm => by have h9 := F2.out hn y hy; simp at hm; omega))
   replace KT := Lib.hid (KT.out.trans hk (fun x hx hlt => by simp at hx; omega))
   clear hk
   obtain ⟨aZ, hb9⟩ := HB9.out
   obtain ⟨cZ, hb9⟩ := hb9
   obtain ⟨bZ, hb9⟩ := hb9
   obtain ⟨dZ, e0, e1, e2, e3, g0, g1, g2, g3, hs9, ht9, q1, q2⟩ := hb9
   have nZ0 := Lib.hid e0
   have fZ0 := Lib.hid g0
   have nZ1 := Lib.hid e1
   have fZ1 := Lib.hid g1
   have nZ2 := Lib.hid e2
   have fZ2 := Lib.hid g2
   have nZ3 := Lib.hid e3
   have fZ3 := Lib.hid g3
   have Z91 := Lib.hid hs9
   have Z92 := Lib.hid ht9
   have QZ91 := Lib.hid q1
   have QZ92 := Lib.hid q2
   clear e0 e1 e2 e3 g0 g1 g2 g3 hs9 ht9 q1 q2 HB9
   go_upto_region 16 with fail
   have tZ0 := nZ0.out
   have tZ1 := nZ1.out
   have tZ2 := nZ2.out
   have tZ3 := nZ3.out
   have tA0 := nA0.out
   have tA1 := nA1.out
   have tA2 := nA2.out
   have tA3 := nA3.out
   go_region_held3 (fun w' => w'.cell? ⟨ww7.heap.size, 0, none⟩ = some (.bool (isNeg g1)) ∧ w'.cell? ⟨ww7.heap.size, 1, none⟩ = some (.slice aZ (mag g1).length cZ) ∧ w'.cell? ⟨ww7.heap.size, 2, none⟩ = some (.bool (isNeg g2)) ∧ w'.cell? ⟨ww7.heap.size, 3, none⟩ = some (.slice bZ (mag g2).length dZ) ∧ w'.cell? ⟨w.heap.size, 0, none⟩ = some (.bool (isNeg x1)) ∧ w'.cell? ⟨w.heap.size, 1, none⟩ = some (.slice a (mag x1).length c) ∧ w'.cell? ⟨w.heap.size, 2, none⟩ = some (.bool (isNeg x2)) ∧ w'.cell? ⟨w.heap.size, 3, none⟩ = some (.slice b (mag x2).length d) ∧ Hid (Kept [w.heap.size + 1] ww9 w'))
    ((go_split_ands; (try refine ⟨?_, ?_, ?_, ?_, ?_, ?_, ?_, ?_, ?_⟩) <;> with_reducible first | exact Kept.set4 (by assumption) | exact cell_set4 (by assumption) (by simp <;> omega) | exact Lib.hid ((Kept.refl _ _).drew) | exact drew_cell (by assumption) | exact Kept.allocH (by assumption) | exact alloc_cell (by assumption) | exact Lib.hid (Kept.trans0 (Hid.out (by assumption)) (by assumption)) | exact Kept.cell (by assumption) (by assumption) (by simp)))
    (first
     | (have g9 := hk6; clear g9; go_at_call 100; go_split_ands; refine (l3Add_zz g1 g2 _ _ _ _ e1' e2' _ _ _ _ o1 o2 _ (Z91.out.kept0 (((((Kept.refl [] _).drew).trans0 hk4).trans0 hk5).trans0 hk6)) (Z92.out.kept0 (((((Kept.refl [] _).drew).trans0 hk4).trans0 hk5).trans0 hk6)) (hs6.kept0 (Kept.refl [] _)) (ht6.kept0 (Kept.refl [] _)) FG.out FE.out HOO.out).mono ?_; intro e v7 hh; unfold SpanV at hh; obtain ⟨b7, hh⟩ := hh; obtain ⟨c7, hh⟩ := hh; obtain ⟨d7, hh⟩ := hh; obtain ⟨m7, hh, hs7, ht7, hf7, hg7, hk7⟩ := hh; subst hh; have hkr := ((((((Kept.refl [] ww9).drew).trans0 hk4).trans0 hk5).trans0 hk6).trans0 hk7); have rg0 := hkr.cell (p := ⟨w.heap.size + 1, 0, none⟩) nR0.out (by simp); have rg1 := hkr.cell (p := ⟨w.heap.size + 1, 1, none⟩) nR1.out (by simp); have rg2 := hkr.cell (p := ⟨w.heap.size + 1, 2, none⟩) nR2.out (by simp); have rg3 := hkr.cell (p := ⟨w.heap.size + 1, 3, none⟩) nR3.out (by simp); have ru0 := hkr.free' (p := ⟨w.heap.size + 1, 0, none⟩) nR0.out fR0.out (by simp); have ru1 := hkr.free' (p := ⟨w.heap.size + 1, 1, none⟩) nR1.out fR1.out (by simp); have ru2 := hkr.free' (p := ⟨w.heap.size + 1, 2, none⟩) nR2.out fR2.out (by simp); have ru3 := hkr.free' (p := ⟨w.heap.size + 1, 3, none⟩) nR3.out fR3.out (by simp))
     | (have g9 := hk5; clear g9; go_at_call 142; go_split_ands; refine (l4Swing_zz d1 d1 _ _ _ _ e1' e2' _ (hs4.kept0 hk5) (hs4.kept0 hk5) ld ld HE9.out).mono ?_; intro e v6 hh; unfold SpanV at hh; obtain ⟨b6, hh⟩ := hh; obtain ⟨c6, hh⟩ := hh; obtain ⟨d6, hh⟩ := hh; obtain ⟨m6, hh, hs6, ht6, hf6, hg6, hk6⟩ := hh; subst hh)
     | (have g9 := hk4; clear g9; go_at_call 137; go_split_ands; refine (l4Only_any d1 _ _ _).mono ?_; intro e v5 hh; obtain ⟨hh, hk5⟩ := hh; subst hh)
     | (go_at_call 143; go_split_ands; refine (l2Sub_n x2 x1 d1 _ _ _ _ _ (H2.out.kept0 ((Kept.refl [] _).drew)) (H1.out.kept0 ((Kept.refl [] _).drew)) lx2 lx1 HD1.out).mono ?_; intro e v4 hh; unfold BigV at hh; obtain ⟨b4, hh⟩ := hh; obtain ⟨c4, hh, hs4, hf4, hk4⟩ := hh; subst hh))
   clear tZ0 tZ1 tZ2 tZ3 tA0 tA1 tA2 tA3
   have zk4 := hk4.size
   have zk5 := hk5.size
   have zk6 := hk6.size
   have zk7 := hk7.size
   simp only [World.size_drew] at zk4 hf4
   have V1 := Lib.hid (hs7.kept0 (Kept.refl [] _))
   have GV1 := Lib.hid (hf7.mono (B' := ww9.heap.size) (by omega))
   have UV1 := Lib.hid V1.out.lt
   have V2 := Lib.hid (ht7.kept0 (Kept.refl [] _))
   have GV2 := Lib.hid (hg7.mono (B' := ww9.heap.size) (by omega))
   have UV2 := Lib.hid V2.out.lt
   have hk := hkr
   clear hkr hk4 hk5 hk6 hk7
   have z10 := hk.size
   have kq1 := Lib.hid hk
   clear hk
   generalize hW : ((((v7.setCell ⟨w.heap.size + 1, 0, none⟩ (.bool (isNeg o1))).setCell ⟨w.heap.size + 1, 1, none⟩ (.slice b7 (mag o1).length c7)).setCell ⟨w.heap.size + 1, 2, none⟩ (.bool (isNeg o2))).setCell ⟨w.heap.size + 1, 3, none⟩ (.slice d7 (mag o2).length m7)) = ww11
   have hk : Kept [w.heap.size + 1] v7 ww11 := by rw [← hW]; exact ((((Kept.refl _ _).setCell _ _ (by simp)).setCell _ _ (by simp)).setCell _ _ (by simp)).setCell _ _ (by simp)
   have hfz : ∀ x, ww11.frozen? x = v7.frozen? x := by rw [← hW]; intro x; simp only [World.frozen?_setCell]
   replace fR0 := kf kq1.out nR0 fR0
   replace nR0 := kc kq1.out nR0
   have e0 : ww11.cell? ⟨w.heap.size + 1, 0, none⟩ = some (.bool (isNeg o1)) := by rw [← hW]; rw [World.cell?_setCell_other _ _ _ _ (by simp), World.cell?_setCell_other _ _ _ _ (by simp), World.cell?_setCell_other _ _ _ _ (by simp)]; exact World.cell?_setCell_same _ _ _ (by exact nR0.out)
   replace fR1 := kf kq1.out nR1 fR1
   replace nR1 := kc kq1.out nR1
   have e1 : ww11.cell? ⟨w.heap.size + 1, 1, none⟩ = some (.slice b7 (mag o1).length c7) := by rw [← hW]; rw [World.cell?_setCell_other _ _ _ _ (by simp), World.cell?_setCell_other _ _ _ _ (by simp)]; exact World.cell?_setCell_same _ _ _ (by rw [World.cell?_setCell_other _ _ _ _ (by simp)]; exact nR1.out)
   replace fR2 := kf kq1.out nR2 fR2
   replace nR2 := kc kq1.out nR2
   have e2 : ww11.cell? ⟨w.heap.size + 1, 2, none⟩ = some (.bool (isNeg o2)) := by rw [← hW]; rw [World.cell?_setCell_other _ _ _ _ (by simp)]; exact World.cell?_setCell_same _ _ _ (by rw [World.cell?_setCell_other _ _ _ _ (by simp), World.cell?_setCell_other _ _ _ _ (by simp)]; exact nR2.out)
   replace fR3 := kf kq1.out nR3 fR3
   replace nR3 := kc kq1.out nR3
   have e3 : ww11.cell? ⟨w.heap.size + 1, 3, none⟩ = some (.slice d7 (mag o2).length m7) := by rw [← hW]; exact World.cell?_setCell_same _ _ _ (by rw [World.cell?_setCell_other _ _ _ _ (by simp), World.cell?_setCell_other _ _ _ _ (by simp), World.cell?_setCell_other _ _ _ _ (by simp)]; exact nR3.out)
   have z11 := hk.size
   have kq2 := Lib.hid hk
   have hz2 := Lib.hid hfz
   replace fR0 := kz hfz fR0
   replace fR1 := kz hfz fR1
   replace fR2 := kz hfz fR2
   replace fR3 := kz hfz fR3
   replace nR0 := Lib.hid e0
   replace nR1 := Lib.hid e1
   replace nR2 := Lib.hid e2
   replace nR3 := Lib.hid e3
   clear hk hfz hW e0 e1 e2 e3
   go_wp2_with fail
   have e0 := nR0.out
   have e1 := nR1.out
   have e2 := nR2.out
   have e3 := nR3.out
   refine bodyPost_ret (v := .agg #[.bool (isNeg o1), .slice b7 (mag o1).length c7, .bool (isNeg o2), .slice d7 (mag o2).length m7]) (by simp [results, Tryz.results77, go_sem, e0, e1, e2, e3]) rfl ?_
   replace KT := Lib.hid (KT.out.trans0 kq1.out)
   replace KT := Lib.hid (KT.out.trans kq2.out (fun x hx hlt => by simp at hx; omega))
   replace V1 := Lib.hid (V1.out.kept kq2.out (fun hn y hy hm => by have h9 := GV1.out hn y hy; simp at hm; omega))
   replace V2 := Lib.hid (V2.out.kept kq2.out (fun hn y hy hm => by have h9 := GV2.out hn y hy; simp at hm; omega))
   exact ⟨_, _, _, _, rfl, V1.out, V2.out, GV1.out.mono (by omega), GV2.out.mono (by omega), KT.out⟩

end Go.Proofs.YtfafjijoeanbhaaGreat
