/-
 Contract of l4Put. Conditions: as said.
-/
import Derived.Deep.RegionHeld3
import Derived.Deep.DrawnRows
import Derived.Deep.DeepCutAuto
import Derived.Test.YtfafjijoeanbhaaGreatArcM
namespace Go.Proofs.YtfafjijoeanbhaaGreat
open Go.RowKit

attribute [local go_sem ↓] field_big field_span field_end0 field_end1
set_option maxHeartbeats 4000000 in
set_option maxRecDepth 20000 in
theorem l4Put_odd (j : Nat) (x1 x2 : Int) (a b : Option Addr) (c d : Nat) (y1 y2 : Int) (a' b' : Option Addr) (c' d' : Nat) (o1 o2 : Int) (w : World) (h1 : Sl w a (mag x1).length c (mag x1)) (h2 : Sl w b (mag x2).length d (mag x2)) (h3 : Sl w a' (mag y1).length c' (mag y1)) (h4 : Sl w b' (mag y2).length d' (mag y2)) (hj : j ≤ 1000) (ho : j % 2 = 1) (fx : Fit2 ⟨x1, x2⟩) (fy : Fit2 ⟨y1, y2⟩) (hz : (⟨o1, o2⟩ : Z2) = put2 ⟨x1, x2⟩ ⟨y1, y2⟩ j) :
  Calls Tryz.prog 141 #[.agg #[.bool (isNeg x1), .slice a (mag x1).length c, .bool (isNeg x2), .slice b (mag x2).length d], .agg #[.bool (isNeg y1), .slice a' (mag y1).length c', .bool (isNeg y2), .slice b' (mag y2).length d'], .int .i64 (j : Int)] w (SpanV w o1 o2) := by
 have hz' : (⟨o1, o2⟩ : Z2) = sub2 ⟨x1, x2⟩ ⟨y1, y2⟩ := by rw [hz]; unfold put2; rw [if_pos ho]
 have hm : decide ((j : Int) % 2 = 1) = true := decide_eq_true (by omega)
 have hmm : ((j : Int) % 2 == 1) = true := by simpa using hm
 have H1 := Lib.hid h1
 have H2 := Lib.hid h2
 have F1 := Lib.hid h1.lt
 have F2 := Lib.hid h2.lt
 have H3 := Lib.hid h3
 have H4 := Lib.hid h4
 have F3 := Lib.hid h3.lt
 have F4 := Lib.hid h4.lt
 have HZ := Lib.hid hz'
 have FX := Lib.hid fx
 have FY := Lib.hid fy
 clear h1 h2 h3 h4 hz hz' fx fy ho
 have hj0 : (0 : Int) ≤ (j : Int) := by omega
 go_enter Tryz.func141, Tryz.ntmps141
 go_upto_region 2 with fail
 generalize hW : (((w.alloc (.cells #[.bool (isNeg x1), .slice a (mag x1).length c, .bool (isNeg x2), .slice b (mag x2).length d] 26)).alloc (.cells #[.bool (isNeg y1), .slice a' (mag y1).length c', .bool (isNeg y2), .slice b' (mag y2).length d'] 26)).alloc (.cells #[.bool false, .slice none 0 0, .bool false, .slice none 0 0] 26)) = ww0
 have hkk : Kept [] (((w.alloc (.cells #[.bool (isNeg x1), .slice a (mag x1).length c, .bool (isNeg x2), .slice b (mag x2).length d] 26)).alloc (.cells #[.bool (isNeg y1), .slice a' (mag y1).length c', .bool (isNeg y2), .slice b' (mag y2).length d'] 26)).alloc (.cells #[.bool false, .slice none 0 0, .bool false, .slice none 0 0] 26)) ww0 := by rw [hW]; exact Kept.refl _ _
 have zzA : w.heap.size + 1 + 1 + 1 = ww0.heap.size := by rw [← hW]; simp
 obtain ⟨⟨nA0, nA1, nA2, nA3⟩, _⟩ := tp4 hkk.peel.peel (g := w.heap.size) (by simp) (by simp)
 obtain ⟨⟨nB0, nB1, nB2, nB3⟩, _⟩ := tp4 hkk.peel (g := w.heap.size + 1) (by simp) (by simp)
 obtain ⟨⟨nR0, nR1, nR2, nR3⟩, fR0, fR1, fR2, fR3⟩ := tp4 hkk (g := w.heap.size + 1 + 1) (by simp) (by simp)
 have hk := hkk.peel.peel.peel
 clear hkk hW
 have z0 := hk.size
 have kq1 := Lib.hid hk
 have KT := kq1
 clear hk
 replace H1 := Lib.hid (H1.out.kept0 KT.out)
 replace H2 := Lib.hid (H2.out.kept0 KT.out)
 replace H3 := Lib.hid (H3.out.kept0 KT.out)
 replace H4 := Lib.hid (H4.out.kept0 KT.out)
 have tA0 := nA0.out
 have tA1 := nA1.out
 have tA2 := nA2.out
 have tA3 := nA3.out
 have tB0 := nB0.out
 have tB1 := nB1.out
 have tB2 := nB2.out
 have tB3 := nB3.out
 go_wp2_with fail
 clear tA0 tA1 tA2 tA3 tB0 tB1 tB2 tB3
 refine (l3Sub_zz x1 x2 _ _ _ _ y1 y2 _ _ _ _ o1 o2 _ H1.out H2.out H3.out H4.out FX.out FY.out HZ.out).mono ?_
 intro e v1 hh; unfold SpanV at hh; obtain ⟨b1, hh⟩ := hh; obtain ⟨c1, hh⟩ := hh; obtain ⟨d1, hh⟩ := hh; obtain ⟨m1, hh, hs1, ht1, hf1, hg1, hk1⟩ := hh; subst hh
 have S1 := Lib.hid hs1
 have GS1 := Lib.hid (hf1.mono (B' := ww0.heap.size) (by simp))
 have US1 := Lib.hid S1.out.lt
 have S2 := Lib.hid ht1
 have GS2 := Lib.hid (hg1.mono (B' := ww0.heap.size) (by simp))
 have US2 := Lib.hid S2.out.lt
 have hk := hk1
 have z1 := hk.size
 have kq2 := Lib.hid hk
 clear hk
 replace fR0 := kf kq2.out nR0 fR0
 replace nR0 := kc kq2.out nR0
 have tR0 := nR0.out
 replace fR1 := kf kq2.out nR1 fR1
 replace nR1 := kc kq2.out nR1
 have tR1 := nR1.out
 replace fR2 := kf kq2.out nR2 fR2
 replace nR2 := kc kq2.out nR2
 have tR2 := nR2.out
 replace fR3 := kf kq2.out nR3 fR3
 replace nR3 := kc kq2.out nR3
 have tR3 := nR3.out
 have uR0 := fR0.out
 have uR1 := fR1.out
 have uR2 := fR2.out
 have uR3 := fR3.out
 go_wp2_with fail
 clear tR0 tR1 tR2 tR3 uR0 uR1 uR2 uR3
 generalize hW : ((((v1.setCell ⟨w.heap.size + 1 + 1, 0, none⟩ (.bool (isNeg o1))).setCell ⟨w.heap.size + 1 + 1, 1, none⟩ (.slice b1 (mag o1).length c1)).setCell ⟨w.heap.size + 1 + 1, 2, none⟩ (.bool (isNeg o2))).setCell ⟨w.heap.size + 1 + 1, 3, none⟩ (.slice d1 (mag o2).length m1)) = ww2
 have hk : Kept [w.heap.size + 1 + 1] v1 ww2 := by rw [← hW]; exact ((((Kept.refl _ _).setCell _ _ (by simp)).setCell _ _ (by simp)).setCell _ _ (by simp)).setCell _ _ (by simp)
 have hfz : ∀ x, ww2.frozen? x = v1.frozen? x := by rw [← hW]; intro x; simp only [World.frozen?_setCell]
 obtain ⟨e0, e1, e2, e3⟩ := st4 hW.symm nR0.out nR1.out nR2.out nR3.out
 have z2 := hk.size
 have kq3 := Lib.hid hk
 have hz3 := Lib.hid hfz
 replace fR0 := kz hfz fR0
 replace fR1 := kz hfz fR1
 replace fR2 := kz hfz fR2
 replace fR3 := kz hfz fR3
 replace nR0 := Lib.hid e0
 replace nR1 := Lib.hid e1
 replace nR2 := Lib.hid e2
 replace nR3 := Lib.hid e3
 clear hk hfz hW e0 e1 e2 e3
 go_wp2_with fail
 have e0 := nR0.out
 have e1 := nR1.out
 have e2 := nR2.out
 have e3 := nR3.out
 refine bodyPost_ret (v := .agg #[.bool (isNeg o1), .slice b1 (mag o1).length c1, .bool (isNeg o2), .slice d1 (mag o2).length m1]) (by simp [results, Tryz.results141, go_sem, e0, e1, e2, e3]) rfl ?_
 replace KT := Lib.hid (KT.out.trans0 kq2.out)
 replace KT := Lib.hid (KT.out.trans kq3.out (fun x hx hlt => by simp at hx; omega))
 replace S1 := Lib.hid (S1.out.kept kq3.out (fun hn y hy hm => by have h9 := GS1.out hn y hy; simp at hm; omega))
 replace S2 := Lib.hid (S2.out.kept kq3.out (fun hn y hy hm => by have h9 := GS2.out hn y hy; simp at hm; omega))
 exact ⟨_, _, _, _, rfl, S1.out, S2.out, GS1.out.mono (by omega), GS2.out.mono (by omega), KT.out⟩

set_option maxHeartbeats 4000000 in
set_option maxRecDepth 20000 in
theorem l4Put_even (j : Nat) (x1 x2 : Int) (a b : Option Addr) (c d : Nat) (y1 y2 : Int) (a' b' : Option Addr) (c' d' : Nat) (o1 o2 : Int) (w : World) (h1 : Sl w a (mag x1).length c (mag x1)) (h2 : Sl w b (mag x2).length d (mag x2)) (h3 : Sl w a' (mag y1).length c' (mag y1)) (h4 : Sl w b' (mag y2).length d' (mag y2)) (hj : j ≤ 1000) (ho : ¬ j % 2 = 1) (fx : Fit2 ⟨x1, x2⟩) (fy : Fit2 ⟨y1, y2⟩) (hz : (⟨o1, o2⟩ : Z2) = put2 ⟨x1, x2⟩ ⟨y1, y2⟩ j) :
  Calls Tryz.prog 141 #[.agg #[.bool (isNeg x1), .slice a (mag x1).length c, .bool (isNeg x2), .slice b (mag x2).length d], .agg #[.bool (isNeg y1), .slice a' (mag y1).length c', .bool (isNeg y2), .slice b' (mag y2).length d'], .int .i64 (j : Int)] w (SpanV w o1 o2) := by
 have hz' : (⟨o1, o2⟩ : Z2) = add2 ⟨x1, x2⟩ ⟨y1, y2⟩ := by rw [hz]; unfold put2; rw [if_neg ho]
 have hm : decide ((j : Int) % 2 = 1) = false := decide_eq_false (by omega)
 have hmm : ((j : Int) % 2 == 1) = false := by simpa using hm
 have H1 := Lib.hid h1
 have H2 := Lib.hid h2
 have F1 := Lib.hid h1.lt
 have F2 := Lib.hid h2.lt
 have H3 := Lib.hid h3
 have H4 := Lib.hid h4
 have F3 := Lib.hid h3.lt
 have F4 := Lib.hid h4.lt
 have HZ := Lib.hid hz'
 have FX := Lib.hid fx
 have FY := Lib.hid fy
 clear h1 h2 h3 h4 hz hz' fx fy ho
 have hj0 : (0 : Int) ≤ (j : Int) := by omega
 go_enter Tryz.func141, Tryz.ntmps141
 go_upto_region 3 with fail
 generalize hW : (((w.alloc (.cells #[.bool (isNeg x1), .slice a (mag x1).length c, .bool (isNeg x2), .slice b (mag x2).length d] 26)).alloc (.cells #[.bool (isNeg y1), .slice a' (mag y1).length c', .bool (isNeg y2), .slice b' (mag y2).length d'] 26)).alloc (.cells #[.bool false, .slice none 0 0, .bool false, .slice none 0 0] 26)) = ww0
 have hkk : Kept [] (((w.alloc (.cells #[.bool (isNeg x1), .slice a (mag x1).length c, .bool (isNeg x2), .slice b (mag x2).length d] 26)).alloc (.cells #[.bool (isNeg y1), .slice a' (mag y1).length c', .bool (isNeg y2), .slice b' (mag y2).length d'] 26)).alloc (.cells #[.bool false, .slice none 0 0, .bool false, .slice none 0 0] 26)) ww0 := by rw [hW]; exact Kept.refl _ _
 have zzA : w.heap.size + 1 + 1 + 1 = ww0.heap.size := by rw [← hW]; simp
 obtain ⟨⟨nA0, nA1, nA2, nA3⟩, _⟩ := tp4 hkk.peel.peel (g := w.heap.size) (by simp) (by simp)
 obtain ⟨⟨nB0, nB1, nB2, nB3⟩, _⟩ := tp4 hkk.peel (g := w.heap.size + 1) (by simp) (by simp)
 obtain ⟨⟨nR0, nR1, nR2, nR3⟩, fR0, fR1, fR2, fR3⟩ := tp4 hkk (g := w.heap.size + 1 + 1) (by simp) (by simp)
 have hk := hkk.peel.peel.peel
 clear hkk hW
 have z0 := hk.size
 have kq1 := Lib.hid hk
 have KT := kq1
 clear hk
 replace H1 := Lib.hid (H1.out.kept0 KT.out)
 replace H2 := Lib.hid (H2.out.kept0 KT.out)
 replace H3 := Lib.hid (H3.out.kept0 KT.out)
 replace H4 := Lib.hid (H4.out.kept0 KT.out)
 have tA0 := nA0.out
 have tA1 := nA1.out
 have tA2 := nA2.out
 have tA3 := nA3.out
 have tB0 := nB0.out
 have tB1 := nB1.out
 have tB2 := nB2.out
 have tB3 := nB3.out
 go_wp2_with fail
 clear tA0 tA1 tA2 tA3 tB0 tB1 tB2 tB3
 refine (l3Add_zz x1 x2 _ _ _ _ y1 y2 _ _ _ _ o1 o2 _ H1.out H2.out H3.out H4.out FX.out FY.out HZ.out).mono ?_
 intro e v1 hh; unfold SpanV at hh; obtain ⟨b1, hh⟩ := hh; obtain ⟨c1, hh⟩ := hh; obtain ⟨d1, hh⟩ := hh; obtain ⟨m1, hh, hs1, ht1, hf1, hg1, hk1⟩ := hh; subst hh
 have S1 := Lib.hid hs1
 have GS1 := Lib.hid (hf1.mono (B' := ww0.heap.size) (by simp))
 have US1 := Lib.hid S1.out.lt
 have S2 := Lib.hid ht1
 have GS2 := Lib.hid (hg1.mono (B' := ww0.heap.size) (by simp))
 have US2 := Lib.hid S2.out.lt
 have hk := hk1
 have z1 := hk.size
 have kq2 := Lib.hid hk
 clear hk
 replace fR0 := kf kq2.out nR0 fR0
 replace nR0 := kc kq2.out nR0
 have tR0 := nR0.out
 replace fR1 := kf kq2.out nR1 fR1
 replace nR1 := kc kq2.out nR1
 have tR1 := nR1.out
 replace fR2 := kf kq2.out nR2 fR2
 replace nR2 := kc kq2.out nR2
 have tR2 := nR2.out
 replace fR3 := kf kq2.out nR3 fR3
 replace nR3 := kc kq2.out nR3
 have tR3 := nR3.out
 have uR0 := fR0.out
 have uR1 := fR1.out
 have uR2 := fR2.out
 have uR3 := fR3.out
 go_wp2_with fail
 clear tR0 tR1 tR2 tR3 uR0 uR1 uR2 uR3
 generalize hW : ((((v1.setCell ⟨w.heap.size + 1 + 1, 0, none⟩ (.bool (isNeg o1))).setCell ⟨w.heap.size + 1 + 1, 1, none⟩ (.slice b1 (mag o1).length c1)).setCell ⟨w.heap.size + 1 + 1, 2, none⟩ (.bool (isNeg o2))).setCell ⟨w.heap.size + 1 + 1, 3, none⟩ (.slice d1 (mag o2).length m1)) = ww2
 have hk : Kept [w.heap.size + 1 + 1] v1 ww2 := by rw [← hW]; exact ((((Kept.refl _ _).setCell _ _ (by simp)).setCell _ _ (by simp)).setCell _ _ (by simp)).setCell _ _ (by simp)
 have hfz : ∀ x, ww2.frozen? x = v1.frozen? x := by rw [← hW]; intro x; simp only [World.frozen?_setCell]
 obtain ⟨e0, e1, e2, e3⟩ := st4 hW.symm nR0.out nR1.out nR2.out nR3.out
 have z2 := hk.size
 have kq3 := Lib.hid hk
 have hz3 := Lib.hid hfz
 replace fR0 := kz hfz fR0
 replace fR1 := kz hfz fR1
 replace fR2 := kz hfz fR2
 replace fR3 := kz hfz fR3
 replace nR0 := Lib.hid e0
 replace nR1 := Lib.hid e1
 replace nR2 := Lib.hid e2
 replace nR3 := Lib.hid e3
 clear hk hfz hW e0 e1 e2 e3
 go_wp2_with fail
 have e0 := nR0.out
 have e1 := nR1.out
 have e2 := nR2.out
 have e3 := nR3.out
 refine bodyPost_ret (v := .agg #[.bool (isNeg o1), .slice b1 (mag o1).length c1, .bool (isNeg o2), .slice d1 (mag o2).length m1]) (by simp [results, Tryz.results141, go_sem, e0, e1, e2, e3]) rfl ?_
 replace KT := Lib.hid (KT.out.trans0 kq2.out)
 replace KT := Lib.hid (KT.out.trans kq3.out (fun x hx hlt => by simp at hx; omega))
 replace S1 := Lib.hid (S1.out.kept kq3.out (fun hn y hy hm => by have h9 := GS1.out hn y hy; simp at hm; omega))
 replace S2 := Lib.hid (S2.out.kept kq3.out (fun hn y hy hm => by have h9 := GS2.out hn y hy; simp at hm; omega))
 exact ⟨_, _, _, _, rfl, S1.out, S2.out, GS1.out.mono (by omega), GS2.out.mono (by omega), KT.out⟩

theorem l4Put_zz (j : Nat) (x1 x2 : Int) (a b : Option Addr) (c d : Nat) (y1 y2 : Int) (a' b' : Option Addr) (c' d' : Nat) (o1 o2 : Int) (w : World) (h1 : Sl w a (mag x1).length c (mag x1)) (h2 : Sl w b (mag x2).length d (mag x2)) (h3 : Sl w a' (mag y1).length c' (mag y1)) (h4 : Sl w b' (mag y2).length d' (mag y2)) (hj : j ≤ 1000) (fx : Fit2 ⟨x1, x2⟩) (fy : Fit2 ⟨y1, y2⟩) (hz : (⟨o1, o2⟩ : Z2) = put2 ⟨x1, x2⟩ ⟨y1, y2⟩ j) :
  Calls Tryz.prog 141 #[.agg #[.bool (isNeg x1), .slice a (mag x1).length c, .bool (isNeg x2), .slice b (mag x2).length d], .agg #[.bool (isNeg y1), .slice a' (mag y1).length c', .bool (isNeg y2), .slice b' (mag y2).length d'], .int .i64 (j : Int)] w (SpanV w o1 o2) := by
 by_cases ho : j % 2 = 1
 ·exact l4Put_odd j x1 x2 a b c d y1 y2 a' b' c' d' o1 o2 w h1 h2 h3 h4 hj ho fx fy hz
 ·exact l4Put_even j x1 x2 a b c d y1 y2 a' b' c' d' o1 o2 w h1 h2 h3 h4 hj ho fx fy hz

end Go.Proofs.YtfafjijoeanbhaaGreat
