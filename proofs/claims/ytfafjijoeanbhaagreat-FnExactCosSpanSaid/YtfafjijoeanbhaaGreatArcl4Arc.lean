/-
  Joined texts.
-/
import Derived.Deep.RegionHeld3
import Derived.Deep.DrawnRows
import Derived.Deep.DeepCutAuto
import Derived.Test.YtfafjijoeanbhaaGreatZedM
import Derived.Test.YtfafjijoeanbhaaGreatArcA
import Derived.Test.YtfafjijoeanbhaaGreatBigOf
import Derived.Test.YtfafjijoeanbhaaGreatSpanM
import Derived.Test.YtfafjijoeanbhaaGreatZedP
import Derived.Test.YtfafjijoeanbhaaGreatRange
namespace Go.Proofs.YtfafjijoeanbhaaGreat
open Go.RowKit

attribute [local go_sem ↓] field_big field_span field_end0 field_end1
theorem mag_opp (z : Int) : mag (-z) = mag z := by
 unfold mag
 by_cases h : z < 0
 ·rw [if_pos h, if_neg (by omega)]
 ·by_cases h0 : z = 0
  ·subst h0; rfl
  ·rw [if_neg h, if_pos (by omega), Int.neg_neg]
theorem l2Neg_opp (a : Option Addr) (c : Nat) (z y : Int) (w : World) (hy : y = -z) :
  Calls Tryz.prog 175 #[.agg #[.bool (isNeg z), .slice a (mag z).length c]] w (Val w (.agg #[.bool (isNeg y), .slice a (mag y).length c])) := by
 have h := l2Neg_any a (mag z).length c z (isNeg z) w (sv_mag z) rfl
 rw [show (mag z).length = (mag y).length by rw [hy, mag_opp], ← hy] at h
 rw [show (mag z).length = (mag y).length by rw [hy, mag_opp]]
 exact h

set_option maxHeartbeats 2000000 in
theorem l4Only_any (x : Int) (a : Option Addr) (c : Nat) (w : World) :
  Calls Tryz.prog 137 #[.agg #[.bool (isNeg x), .slice a (mag x).length c]] w (Val w (.agg #[.bool (isNeg x), .slice a (mag x).length c, .bool (isNeg x), .slice a (mag x).length c])) := by
 go_enter Tryz.func137, Tryz.ntmps137
 go_wp2
 exact bodyPost_ret (v := .agg #[.bool (isNeg x), .slice a (mag x).length c, .bool (isNeg x), .slice a (mag x).length c]) (by simp [results, Tryz.results137, go_sem]) rfl ⟨rfl, ((Kept.refl [] w).alloc _).alloc _⟩

end Go.Proofs.YtfafjijoeanbhaaGreat
namespace Go.Proofs.YtfafjijoeanbhaaGreat
open Go.RowKit

attribute [local go_sem ↓] field_big field_span field_end0 field_end1
set_option maxHeartbeats 4000000 in
set_option maxRecDepth 20000 in
theorem l4Away_zz (x1 x2 : Int) (a b : Option Addr) (c d : Nat) (z : Int) (w : World) (h1 : Sl w a (mag x1).length c (mag x1)) (h2 : Sl w b (mag x2).length d (mag x2)) (lx1 : (mag x1).length ≤ 20) (lx2 : (mag x2).length ≤ 20) (hz : z = away2 ⟨x1, x2⟩) :
  Calls Tryz.prog 184 #[.agg #[.bool (isNeg x1), .slice a (mag x1).length c, .bool (isNeg x2), .slice b (mag x2).length d]] w (BigV w.heap.size w z) := by
 have hz2 : z = maxZ (sv false (mag x1)) (sv false (mag x2)) := by rw [show sv false (mag x1) = abZ x1 from val_mag x1, show sv false (mag x2) = abZ x2 from val_mag x2]; exact hz
 have hb1 : BigOk false (mag x1) := bigOk_abs (by omega)
 have hb2 : BigOk false (mag x2) := bigOk_abs (by omega)
 have H1 := Lib.hid h1
 have H2 := Lib.hid h2
 have F1 := Lib.hid h1.lt
 have F2 := Lib.hid h2.lt
 have HZ2 := Lib.hid hz2
 have B1 := Lib.hid hb1
 have B2 := Lib.hid hb2
 clear h1 h2 hz hz2 hb1 hb2
 go_enter Tryz.func184, Tryz.ntmps184
 go_upto_region 1 with fail
 generalize hW : ((w.alloc (.cells #[.bool (isNeg x1), .slice a (mag x1).length c, .bool (isNeg x2), .slice b (mag x2).length d] 26)).alloc (.cells #[.bool false, .slice none 0 0] 24)) = ww0
 have hkk : Kept [] ((w.alloc (.cells #[.bool (isNeg x1), .slice a (mag x1).length c, .bool (isNeg x2), .slice b (mag x2).length d] 26)).alloc (.cells #[.bool false, .slice none 0 0] 24)) ww0 := by rw [hW]; exact Kept.refl _ _
 have zzA : w.heap.size + 1 + 1 = ww0.heap.size := by rw [← hW]; simp
 obtain ⟨⟨nA0, nA1, nA2, nA3⟩, _⟩ := tp4 hkk.peel (g := w.heap.size) (by simp) (by simp)
 obtain ⟨⟨nR0, nR1⟩, fR0, fR1⟩ := tp2 hkk (g := w.heap.size + 1) (by simp) (by simp)
 have hk := hkk.peel.peel
 clear hkk hW
 have z0 := hk.size
 have kq1 := Lib.hid hk
 have KT := kq1
 clear hk
 replace H1 := Lib.hid (H1.out.kept0 KT.out)
 replace H2 := Lib.hid (H2.out.kept0 KT.out)
 have tA0 := nA0.out
 have tA1 := nA1.out
 have tA2 := nA2.out
 have tA3 := nA3.out
 go_wp2_with fail
 clear tA0 tA1 tA2 tA3
 refine (l3Most_two ww0.heap.size false false _ _ _ _ _ _ (mag x1) (mag x2) z _ (rowB2_at rfl rfl) (H1.out.kept0 ((Kept.refl [] ww0).alloc _)) (H2.out.kept0 ((Kept.refl [] ww0).alloc _)) B1.out B2.out HZ2.out).mono ?_
 intro e v1 hh; unfold BigV at hh; obtain ⟨b1, hh⟩ := hh; obtain ⟨c1, hh, hs1, hf1, hk1⟩ := hh; subst hh
 have S1 := Lib.hid hs1
 have GS1 := Lib.hid (hf1.mono (B' := ww0.heap.size) (by simp))
 have US1 := Lib.hid S1.out.lt
 have hk := ((Kept.refl [] ww0).alloc _).trans0 hk1
 clear hs1 hf1 hk1
 have z1 := hk.size
 have kq2 := Lib.hid hk
 clear hk
 replace fR0 := kf kq2.out nR0 fR0
 replace nR0 := kc kq2.out nR0
 have tR0 := nR0.out
 replace fR1 := kf kq2.out nR1 fR1
 replace nR1 := kc kq2.out nR1
 have tR1 := nR1.out
 have uR0 := fR0.out
 have uR1 := fR1.out
 go_wp2_with fail
 clear tR0 tR1 uR0 uR1
 generalize hW : ((v1.setCell ⟨w.heap.size + 1, 0, none⟩ (.bool (isNeg z))).setCell ⟨w.heap.size + 1, 1, none⟩ (.slice b1 (mag z).length c1)) = ww2
 have hk : Kept [w.heap.size + 1] v1 ww2 := by rw [← hW]; exact ((Kept.refl _ _).setCell _ _ (by simp)).setCell _ _ (by simp)
 have hfz : ∀ x, ww2.frozen? x = v1.frozen? x := by rw [← hW]; intro x; simp only [World.frozen?_setCell]
 obtain ⟨e0, e1⟩ := st2 hW.symm nR0.out nR1.out
 have z2 := hk.size
 have kq3 := Lib.hid hk
 have hz3 := Lib.hid hfz
 replace fR0 := kz hfz fR0
 replace fR1 := kz hfz fR1
 replace nR0 := Lib.hid e0
 replace nR1 := Lib.hid e1
 clear hk hfz hW e0 e1
 go_wp2_with fail
 have e0 := nR0.out
 have e1 := nR1.out
 refine bodyPost_ret (v := .agg #[.bool (isNeg z), .slice b1 (mag z).length c1]) (by simp [results, Tryz.results184, go_sem, e0, e1]) rfl ?_
 replace KT := Lib.hid (KT.out.trans0 kq2.out)
 replace KT := Lib.hid (KT.out.trans kq3.out (fun x hx hlt => by simp at hx; omega))
 replace S1 := Lib.hid (S1.out.kept kq3.out (fun hn y hy hm => by have h9 := GS1.out hn y hy; simp at hm; omega))
 exact ⟨_, _, rfl, S1.out, GS1.out.mono (by omega), KT.out⟩

end Go.Proofs.YtfafjijoeanbhaaGreat
namespace Go.Proofs.YtfafjijoeanbhaaGreat
open Go.RowKit

attribute [local go_sem ↓] field_big field_span field_end0 field_end1
set_option maxHeartbeats 4000000 in
set_option maxRecDepth 20000 in
theorem l4Swing_zz (x1 x2 : Int) (a b : Option Addr) (c d : Nat) (o1 o2 : Int) (w : World) (h1 : Sl w a (mag x1).length c (mag x1)) (h2 : Sl w b (mag x2).length d (mag x2)) (lx1 : (mag x1).length ≤ 20) (lx2 : (mag x2).length ≤ 20) (hz : (⟨o1, o2⟩ : Z2) = swing2 ⟨x1, x2⟩) :
  Calls Tryz.prog 142 #[.agg #[.bool (isNeg x1), .slice a (mag x1).length c, .bool (isNeg x2), .slice b (mag x2).length d]] w (SpanV w o1 o2) := by
 have hz1 : o1 = -o2 := by have h3 := congrArg Z2.lo hz; have h4 := congrArg Z2.hi hz; simp only [swing2] at h3 h4; omega
 have hz2 : o2 = away2 ⟨x1, x2⟩ := congrArg Z2.hi hz
 have e12 : mag o1 = mag o2 := by rw [hz1, mag_opp]
 have H1 := Lib.hid h1
 have H2 := Lib.hid h2
 have F1 := Lib.hid h1.lt
 have F2 := Lib.hid h2.lt
 have HZ1 := Lib.hid hz1
 have HZ2 := Lib.hid hz2
 have E12 := Lib.hid e12
 clear h1 h2 hz hz1 hz2 e12
 go_enter Tryz.func142, Tryz.ntmps142
 go_upto_region 1 with fail
 generalize hW : ((w.alloc (.cells #[.bool (isNeg x1), .slice a (mag x1).length c, .bool (isNeg x2), .slice b (mag x2).length d] 26)).alloc (.cells #[.bool false, .slice none 0 0, .bool false, .slice none 0 0] 26)) = ww0
 have hkk : Kept [] ((w.alloc (.cells #[.bool (isNeg x1), .slice a (mag x1).length c, .bool (isNeg x2), .slice b (mag x2).length d] 26)).alloc (.cells #[.bool false, .slice none 0 0, .bool false, .slice none 0 0] 26)) ww0 := by rw [hW]; exact Kept.refl _ _
 have zzA : w.heap.size + 1 + 1 = ww0.heap.size := by rw [← hW]; simp
 obtain ⟨⟨nA0, nA1, nA2, nA3⟩, _⟩ := tp4 hkk.peel (g := w.heap.size) (by simp) (by simp)
 obtain ⟨⟨nR0, nR1, nR2, nR3⟩, fR0, fR1, fR2, fR3⟩ := tp4 hkk (g := w.heap.size + 1) (by simp) (by simp)
 have hk := hkk.peel.peel
 clear hkk hW
 have z0 := hk.size
 have kq1 := Lib.hid hk
 have KT := kq1
 clear hk
 replace H1 := Lib.hid (H1.out.kept0 KT.out)
 replace H2 := Lib.hid (H2.out.kept0 KT.out)
 have tA0 := nA0.out
 have tA1 := nA1.out
 have tA2 := nA2.out
 have tA3 := nA3.out
 go_wp2_with fail
 clear tA0 tA1 tA2 tA3
 refine (l4Away_zz x1 x2 _ _ _ _ o2 _ H1.out H2.out lx1 lx2 HZ2.out).mono ?_
 intro e v1 hh; unfold BigV at hh; obtain ⟨b1, hh⟩ := hh; obtain ⟨c1, hh, hs1, hf1, hk1⟩ := hh; subst hh
 have S1 := Lib.hid hs1
 have GS1 := Lib.hid (hf1.mono (B' := ww0.heap.size) (by simp))
 have US1 := Lib.hid S1.out.lt
 have hk := hk1
 have z1 := hk.size
 have kq2 := Lib.hid hk
 clear hk
 go_upto_region 2 with fail
 generalize hW : (v1.alloc (.cells #[.bool (isNeg o2), .slice b1 (mag o2).length c1] 24)) = ww2
 have hk : Kept [] v1 ww2 := by rw [← hW]; exact (Kept.refl [] _).alloc _
 have zzC : v1.heap.size + 1 = ww2.heap.size := by rw [← hW]; simp
 have nC0 := Lib.hid (show ww2.cell? ⟨v1.heap.size, 0, none⟩ = some (.bool (isNeg o2)) by rw [← hW, World.cell?_alloc_new]; rfl)
 have fC0 := Lib.hid (show ww2.frozen? ⟨v1.heap.size, 0, none⟩ = false by rw [← hW]; exact frozen_of_row _ _ _ _ _ (heap_alloc_new _ _))
 have nC1 := Lib.hid (show ww2.cell? ⟨v1.heap.size, 1, none⟩ = some (.slice b1 (mag o2).length c1) by rw [← hW, World.cell?_alloc_new]; rfl)
 have fC1 := Lib.hid (show ww2.frozen? ⟨v1.heap.size, 1, none⟩ = false by rw [← hW]; exact frozen_of_row _ _ _ _ _ (heap_alloc_new _ _))
 clear hW
 have z2 := hk.size
 have kq3 := Lib.hid hk
 clear hk
 have tC0 := nC0.out
 have tC1 := nC1.out
 have kj1 := Lib.hid (kq2.out.trans0 kq3.out)
 replace nA0 := kc kj1.out nA0
 replace nA1 := kc kj1.out nA1
 replace nA2 := kc kj1.out nA2
 replace nA3 := kc kj1.out nA3
 replace fR0 := kf kj1.out nR0 fR0
 replace nR0 := kc kj1.out nR0
 replace fR1 := kf kj1.out nR1 fR1
 replace nR1 := kc kj1.out nR1
 replace fR2 := kf kj1.out nR2 fR2
 replace nR2 := kc kj1.out nR2
 replace fR3 := kf kj1.out nR3 fR3
 replace nR3 := kc kj1.out nR3
 replace H1 := Lib.hid (H1.out.kept0 kj1.out)
 replace H2 := Lib.hid (H2.out.kept0 kj1.out)
 replace KT := Lib.hid (KT.out.trans0 kj1.out)
 replace S1 := Lib.hid (S1.out.kept0 kq3.out)
 go_region_held3 (fun w' => w'.cell? ⟨v1.heap.size, 0, none⟩ = some (.bool (isNeg o2)) ∧ w'.cell? ⟨v1.heap.size, 1, none⟩ = some (.slice b1 (mag o2).length c1) ∧ Hid (Kept [w.heap.size + 1] ww2 w'))
  ((go_split_ands; (try refine ⟨?_, ?_, ?_⟩) <;> with_reducible first | exact Kept.set4 (by assumption) | exact cell_set4 (by assumption) (by simp <;> omega) | exact Lib.hid ((Kept.refl _ _).drew) | exact drew_cell (by assumption) | exact Kept.allocH (by assumption) | exact alloc_cell (by assumption) | exact Lib.hid (Kept.trans0 (Hid.out (by assumption)) (by assumption)) | exact Kept.cell (by assumption) (by assumption) (by simp)))
  (first
   | (go_at_call 175; go_split_ands; refine (l2Neg_opp _ _ o2 o1 _ HZ1.out).mono ?_; intro e v2 hh; obtain ⟨hh, hk2⟩ := hh; subst hh; have hkr := (((Kept.refl [] ww2).drew).trans0 hk2); have rg0 := hkr.cell (p := ⟨w.heap.size + 1, 0, none⟩) nR0.out (by simp); have rg1 := hkr.cell (p := ⟨w.heap.size + 1, 1, none⟩) nR1.out (by simp); have rg2 := hkr.cell (p := ⟨w.heap.size + 1, 2, none⟩) nR2.out (by simp); have rg3 := hkr.cell (p := ⟨w.heap.size + 1, 3, none⟩) nR3.out (by simp); have ru0 := hkr.free' (p := ⟨w.heap.size + 1, 0, none⟩) nR0.out fR0.out (by simp); have ru1 := hkr.free' (p := ⟨w.heap.size + 1, 1, none⟩) nR1.out fR1.out (by simp); have ru2 := hkr.free' (p := ⟨w.heap.size + 1, 2, none⟩) nR2.out fR2.out (by simp); have ru3 := hkr.free' (p := ⟨w.heap.size + 1, 3, none⟩) nR3.out fR3.out (by simp)))
 clear tC0 tC1
 have zk2 := hk2.size
 simp only [World.size_drew] at zk2
 have hk := hkr
 clear hkr hk2
 have z3 := hk.size
 have kq4 := Lib.hid hk
 clear hk
 generalize hW : ((((v2.setCell ⟨w.heap.size + 1, 0, none⟩ (.bool (isNeg o1))).setCell ⟨w.heap.size + 1, 1, none⟩ (.slice b1 (mag o1).length c1)).setCell ⟨w.heap.size + 1, 2, none⟩ (.bool (isNeg o2))).setCell ⟨w.heap.size + 1, 3, none⟩ (.slice b1 (mag o2).length c1)) = ww4
 have hk : Kept [w.heap.size + 1] v2 ww4 := by rw [← hW]; exact ((((Kept.refl _ _).setCell _ _ (by simp)).setCell _ _ (by simp)).setCell _ _ (by simp)).setCell _ _ (by simp)
 have hfz : ∀ x, ww4.frozen? x = v2.frozen? x := by rw [← hW]; intro x; simp only [World.frozen?_setCell]
 replace fR0 := kf kq4.out nR0 fR0
 replace nR0 := kc kq4.out nR0
 have e0 : ww4.cell? ⟨w.heap.size + 1, 0, none⟩ = some (.bool (isNeg o1)) := by rw [← hW]; rw [World.cell?_setCell_other _ _ _ _ (by simp), World.cell?_setCell_other _ _ _ _ (by simp), World.cell?_setCell_other _ _ _ _ (by simp)]; exact World.cell?_setCell_same _ _ _ (by exact nR0.out)
 replace fR1 := kf kq4.out nR1 fR1
 replace nR1 := kc kq4.out nR1
 have e1 : ww4.cell? ⟨w.heap.size + 1, 1, none⟩ = some (.slice b1 (mag o1).length c1) := by rw [← hW]; rw [World.cell?_setCell_other _ _ _ _ (by simp), World.cell?_setCell_other _ _ _ _ (by simp)]; exact World.cell?_setCell_same _ _ _ (by rw [World.cell?_setCell_other _ _ _ _ (by simp)]; exact nR1.out)
 replace fR2 := kf kq4.out nR2 fR2
 replace nR2 := kc kq4.out nR2
 have e2 : ww4.cell? ⟨w.heap.size + 1, 2, none⟩ = some (.bool (isNeg o2)) := by rw [← hW]; rw [World.cell?_setCell_other _ _ _ _ (by simp)]; exact World.cell?_setCell_same _ _ _ (by rw [World.cell?_setCell_other _ _ _ _ (by simp), World.cell?_setCell_other _ _ _ _ (by simp)]; exact nR2.out)
 replace fR3 := kf kq4.out nR3 fR3
 replace nR3 := kc kq4.out nR3
 have e3 : ww4.cell? ⟨w.heap.size + 1, 3, none⟩ = some (.slice b1 (mag o2).length c1) := by rw [← hW]; exact World.cell?_setCell_same _ _ _ (by rw [World.cell?_setCell_other _ _ _ _ (by simp), World.cell?_setCell_other _ _ _ _ (by simp), World.cell?_setCell_other _ _ _ _ (by simp)]; exact nR3.out)
 have z4 := hk.size
 have kq5 := Lib.hid hk
 have hz5 := Lib.hid hfz
 replace fR0 := kz hfz fR0
 replace fR1 := kz hfz fR1
 replace fR2 := kz hfz fR2
 replace fR3 := kz hfz fR3
 replace nR0 := Lib.hid e0
 replace nR1 := Lib.hid e1
 replace nR2 := Lib.hid e2
 replace nR3 := Lib.hid e3
 clear hk hfz hW e0 e1 e2 e3
 replace S1 := Lib.hid (S1.out.kept0 kq4.out)
 replace S1 := Lib.hid (S1.out.kept kq5.out (fun hn y hy hm => by have h9 := GS1.out hn y hy; simp at hm; omega))
 have S2 := Lib.hid (show Sl _ b1 (mag o1).length c1 (mag o1) from by rw [E12.out]; exact S1.out)
 have GS2 := Lib.hid (show Fr _ b1 (mag o1).length from by rw [E12.out]; exact GS1.out.mono (by omega : w.heap.size ≤ _))
 go_wp2_with fail
 have e0 := nR0.out
 have e1 := nR1.out
 have e2 := nR2.out
 have e3 := nR3.out
 refine bodyPost_ret (v := .agg #[.bool (isNeg o1), .slice b1 (mag o1).length c1, .bool (isNeg o2), .slice b1 (mag o2).length c1]) (by simp [results, Tryz.results142, go_sem, e0, e1, e2, e3]) rfl ?_
 replace KT := Lib.hid (KT.out.trans0 kq4.out)
 replace KT := Lib.hid (KT.out.trans kq5.out (fun x hx hlt => by simp at hx; omega))
 exact ⟨_, _, _, _, rfl, S2.out, S1.out, GS2.out, GS1.out.mono (by omega), KT.out⟩

end Go.Proofs.YtfafjijoeanbhaaGreat
namespace Go.Proofs.YtfafjijoeanbhaaGreat
open Go.RowKit

attribute [local go_sem ↓] field_big field_span field_end0 field_end1
set_option maxHeartbeats 4000000 in
set_option maxRecDepth 20000 in
theorem l4Put_odd (j : Nat) (x1 x2 : Int) (a b : Option Addr) (c d : Nat) (y1 y2 : Int) (a' b' : Option Addr) (c' d' : Nat) (o1 o2 : Int) (w : World) (h1 : Sl w a (mag x1).length c (mag x1)) (h2 : Sl w b (mag x2).length d (mag x2)) (h3 : Sl w a' (mag y1).length c' (mag y1)) (h4 : Sl w b' (mag y2).length d' (mag y2)) (hj : j ≤ 1000) (ho : j % 2 = 1) (fx : Fit2 ⟨x1, x2⟩) (fy : Fit2 ⟨y1, y2⟩) (hz : (⟨o1, o2⟩ : Z2) = put2 ⟨x1, x2⟩ ⟨y1, y2⟩ j) :
  Calls Tryz.prog 141 #[.agg #[.bool (isNeg x1), .slice a (mag x1).length c, .bool (isNeg x2), .slice b (mag x2).length d], .agg #[.bool (isNeg y1), .slice a' (mag y1).length c', .bool (isNeg y2), .slice b' (mag y2).length d'], .int .i64 (j : Int)] w (SpanV w o1 o2) := by
 have hz' : (⟨o1, o2⟩ : Z2) = sub2 ⟨x1, x2⟩ ⟨y1, y2⟩ := by rw [hz]; unfold put2; rw [if_pos ho]
 have hm : decide ((j : Int) % 2 = 1) = true := decide_eq_true (by omega)
 have hmm : ((j : Int) % 2 == 1) = true := by simpa using hm
 have H1 := Lib.hid h1
 have H2 := Lib.hid h2
 have F1 := Lib.hid h1.lt
 have F2 := Lib.hid h2.lt
 have H3 := Lib.hid h3
 have H4 := Lib.hid h4
 have F3 := Lib.hid h3.lt
 have F4 := Lib.hid h4.lt
 have HZ := Lib.hid hz'
 have FX := Lib.hid fx
 have FY := Lib.hid fy
 clear h1 h2 h3 h4 hz hz' fx fy ho
 have hj0 : (0 : Int) ≤ (j : Int) := by omega
 go_enter Tryz.func141, Tryz.ntmps141
 go_upto_region 2 with fail
 generalize hW : (((w.alloc (.cells #[.bool (isNeg x1), .slice a (mag x1).length c, .bool (isNeg x2), .slice b (mag x2).length d] 26)).alloc (.cells #[.bool (isNeg y1), .slice a' (mag y1).length c', .bool (isNeg y2), .slice b' (mag y2).length d'] 26)).alloc (.cells #[.bool false, .slice none 0 0, .bool false, .slice none 0 0] 26)) = ww0
 have hkk : Kept [] (((w.alloc (.cells #[.bool (isNeg x1), .slice a (mag x1).length c, .bool (isNeg x2), .slice b (mag x2).length d] 26)).alloc (.cells #[.bool (isNeg y1), .slice a' (mag y1).length c', .bool (isNeg y2), .slice b' (mag y2).length d'] 26)).alloc (.cells #[.bool false, .slice none 0 0, .bool false, .slice none 0 0] 26)) ww0 := by rw [hW]; exact Kept.refl _ _
 have zzA : w.heap.size + 1 + 1 + 1 = ww0.heap.size := by rw [← hW]; simp
 obtain ⟨⟨nA0, nA1, nA2, nA3⟩, _⟩ := tp4 hkk.peel.peel (g := w.heap.size) (by simp) (by simp)
 obtain ⟨⟨nB0, nB1, nB2, nB3⟩, _⟩ := tp4 hkk.peel (g := w.heap.size + 1) (by simp) (by simp)
 obtain ⟨⟨nR0, nR1, nR2, nR3⟩, fR0, fR1, fR2, fR3⟩ := tp4 hkk (g := w.heap.size + 1 + 1) (by simp) (by simp)
 have hk := hkk.peel.peel.peel
 clear hkk hW
 have z0 := hk.size
 have kq1 := Lib.hid hk
 have KT := kq1
 clear hk
 replace H1 := Lib.hid (H1.out.kept0 KT.out)
 replace H2 := Lib.hid (H2.out.kept0 KT.out)
 replace H3 := Lib.hid (H3.out.kept0 KT.out)
 replace H4 := Lib.hid (H4.out.kept0 KT.out)
 have tA0 := nA0.out
 have tA1 := nA1.out
 have tA2 := nA2.out
 have tA3 := nA3.out
 have tB0 := nB0.out
 have tB1 := nB1.out
 have tB2 := nB2.out
 have tB3 := nB3.out
 go_wp2_with fail
 clear tA0 tA1 tA2 tA3 tB0 tB1 tB2 tB3
 refine (l3Sub_zz x1 x2 _ _ _ _ y1 y2 _ _ _ _ o1 o2 _ H1.out H2.out H3.out H4.out FX.out FY.out HZ.out).mono ?_
 intro e v1 hh; unfold SpanV at hh; obtain ⟨b1, hh⟩ := hh; obtain ⟨c1, hh⟩ := hh; obtain ⟨d1, hh⟩ := hh; obtain ⟨m1, hh, hs1, ht1, hf1, hg1, hk1⟩ := hh; subst hh
 have S1 := Lib.hid hs1
 have GS1 := Lib.hid (hf1.mono (B' := ww0.heap.size) (by simp))
 have US1 := Lib.hid S1.out.lt
 have S2 := Lib.hid ht1
 have GS2 := Lib.hid (hg1.mono (B' := ww0.heap.size) (by simp))
 have US2 := Lib.hid S2.out.lt
 have hk := hk1
 have z1 := hk.size
 have kq2 := Lib.hid hk
 clear hk
 replace fR0 := kf kq2.out nR0 fR0
 replace nR0 := kc kq2.out nR0
 have tR0 := nR0.out
 replace fR1 := kf kq2.out nR1 fR1
 replace nR1 := kc kq2.out nR1
 have tR1 := nR1.out
 replace fR2 := kf kq2.out nR2 fR2
 replace nR2 := kc kq2.out nR2
 have tR2 := nR2.out
 replace fR3 := kf kq2.out nR3 fR3
 replace nR3 := kc kq2.out nR3
 have tR3 := nR3.out
 have uR0 := fR0.out
 have uR1 := fR1.out
 have uR2 := fR2.out
 have uR3 := fR3.out
 go_wp2_with fail
 clear tR0 tR1 tR2 tR3 uR0 uR1 uR2 uR3
 generalize hW : ((((v1.setCell ⟨w.heap.size + 1 + 1, 0, none⟩ (.bool (isNeg o1))).setCell ⟨w.heap.size + 1 + 1, 1, none⟩ (.slice b1 (mag o1).length c1)).setCell ⟨w.heap.size + 1 + 1, 2, none⟩ (.bool (isNeg o2))).setCell ⟨w.heap.size + 1 + 1, 3, none⟩ (.slice d1 (mag o2).length m1)) = ww2
 have hk : Kept [w.heap.size + 1 + 1] v1 ww2 := by rw [← hW]; exact ((((Kept.refl _ _).setCell _ _ (by simp)).setCell _ _ (by simp)).setCell _ _ (by simp)).setCell _ _ (by simp)
 have hfz : ∀ x, ww2.frozen? x = v1.frozen? x := by rw [← hW]; intro x; simp only [World.frozen?_setCell]
 obtain ⟨e0, e1, e2, e3⟩ := st4 hW.symm nR0.out nR1.out nR2.out nR3.out
 have z2 := hk.size
 have kq3 := Lib.hid hk
 have hz3 := Lib.hid hfz
 replace fR0 := kz hfz fR0
 replace fR1 := kz hfz fR1
 replace fR2 := kz hfz fR2
 replace fR3 := kz hfz fR3
 replace nR0 := Lib.hid e0
 replace nR1 := Lib.hid e1
 replace nR2 := Lib.hid e2
 replace nR3 := Lib.hid e3
 clear hk hfz hW e0 e1 e2 e3
 go_wp2_with fail
 have e0 := nR0.out
 have e1 := nR1.out
 have e2 := nR2.out
 have e3 := nR3.out
 refine bodyPost_ret (v := .agg #[.bool (isNeg o1), .slice b1 (mag o1).length c1, .bool (isNeg o2), .slice d1 (mag o2).length m1]) (by simp [results, Tryz.results141, go_sem, e0, e1, e2, e3]) rfl ?_
 replace KT := Lib.hid (KT.out.trans0 kq2.out)
 replace KT := Lib.hid (KT.out.trans kq3.out (fun x hx hlt => by simp at hx; omega))
 replace S1 := Lib.hid (S1.out.kept kq3.out (fun hn y hy hm => by have h9 := GS1.out hn y hy; simp at hm; omega))
 replace S2 := Lib.hid (S2.out.kept kq3.out (fun hn y hy hm => by have h9 := GS2.out hn y hy; simp at hm; omega))
 exact ⟨_, _, _, _, rfl, S1.out, S2.out, GS1.out.mono (by omega), GS2.out.mono (by omega), KT.out⟩

set_option maxHeartbeats 4000000 in
set_option maxRecDepth 20000 in
theorem l4Put_even (j : Nat) (x1 x2 : Int) (a b : Option Addr) (c d : Nat) (y1 y2 : Int) (a' b' : Option Addr) (c' d' : Nat) (o1 o2 : Int) (w : World) (h1 : Sl w a (mag x1).length c (mag x1)) (h2 : Sl w b (mag x2).length d (mag x2)) (h3 : Sl w a' (mag y1).length c' (mag y1)) (h4 : Sl w b' (mag y2).length d' (mag y2)) (hj : j ≤ 1000) (ho : ¬ j % 2 = 1) (fx : Fit2 ⟨x1, x2⟩) (fy : Fit2 ⟨y1, y2⟩) (hz : (⟨o1, o2⟩ : Z2) = put2 ⟨x1, x2⟩ ⟨y1, y2⟩ j) :
  Calls Tryz.prog 141 #[.agg #[.bool (isNeg x1), .slice a (mag x1).length c, .bool (isNeg x2), .slice b (mag x2).length d], .agg #[.bool (isNeg y1), .slice a' (mag y1).length c', .bool (isNeg y2), .slice b' (mag y2).length d'], .int .i64 (j : Int)] w (SpanV w o1 o2) := by
 have hz' : (⟨o1, o2⟩ : Z2) = add2 ⟨x1, x2⟩ ⟨y1, y2⟩ := by rw [hz]; unfold put2; rw [if_neg ho]
 have hm : decide ((j : Int) % 2 = 1) = false := decide_eq_false (by omega)
 have hmm : ((j : Int) % 2 == 1) = false := by simpa using hm
 have H1 := Lib.hid h1
 have H2 := Lib.hid h2
 have F1 := Lib.hid h1.lt
 have F2 := Lib.hid h2.lt
 have H3 := Lib.hid h3
 have H4 := Lib.hid h4
 have F3 := Lib.hid h3.lt
 have F4 := Lib.hid h4.lt
 have HZ := Lib.hid hz'
 have FX := Lib.hid fx
 have FY := Lib.hid fy
 clear h1 h2 h3 h4 hz hz' fx fy ho
 have hj0 : (0 : Int) ≤ (j : Int) := by omega
 go_enter Tryz.func141, Tryz.ntmps141
 go_upto_region 3 with fail
 generalize hW : (((w.alloc (.cells #[.bool (isNeg x1), .slice a (mag x1).length c, .bool (isNeg x2), .slice b (mag x2).length d] 26)).alloc (.cells #[.bool (isNeg y1), .slice a' (mag y1).length c', .bool (isNeg y2), .slice b' (mag y2).length d'] 26)).alloc (.cells #[.bool false, .slice none 0 0, .bool false, .slice none 0 0] 26)) = ww0
 have hkk : Kept [] (((w.alloc (.cells #[.bool (isNeg x1), .slice a (mag x1).length c, .bool (isNeg x2), .slice b (mag x2).length d] 26)).alloc (.cells #[.bool (isNeg y1), .slice a' (mag y1).length c', .bool (isNeg y2), .slice b' (mag y2).length d'] 26)).alloc (.cells #[.bool false, .slice none 0 0, .bool false, .slice none 0 0] 26)) ww0 := by rw [hW]; exact Kept.refl _ _
 have zzA : w.heap.size + 1 + 1 + 1 = ww0.heap.size := by rw [← hW]; simp
 obtain ⟨⟨nA0, nA1, nA2, nA3⟩, _⟩ := tp4 hkk.peel.peel (g := w.heap.size) (by simp) (by simp)
 obtain ⟨⟨nB0, nB1, nB2, nB3⟩, _⟩ := tp4 hkk.peel (g := w.heap.size + 1) (by simp) (by simp)
 obtain ⟨⟨nR0, nR1, nR2, nR3⟩, fR0, fR1, fR2, fR3⟩ := tp4 hkk (g := w.heap.size + 1 + 1) (by simp) (by simp)
 have hk := hkk.peel.peel.peel
 clear hkk hW
 have z0 := hk.size
 have kq1 := Lib.hid hk
 have KT := kq1
 clear hk
 replace H1 := Lib.hid (H1.out.kept0 KT.out)
 replace H2 := Lib.hid (H2.out.kept0 KT.out)
 replace H3 := Lib.hid (H3.out.kept0 KT.out)
 replace H4 := Lib.hid (H4.out.kept0 KT.out)
 have tA0 := nA0.out
 have tA1 := nA1.out
 have tA2 := nA2.out
 have tA3 := nA3.out
 have tB0 := nB0.out
 have tB1 := nB1.out
 have tB2 := nB2.out
 have tB3 := nB3.out
 go_wp2_with fail
 clear tA0 tA1 tA2 tA3 tB0 tB1 tB2 tB3
 refine (l3Add_zz x1 x2 _ _ _ _ y1 y2 _ _ _ _ o1 o2 _ H1.out H2.out H3.out H4.out FX.out FY.out HZ.out).mono ?_
 intro e v1 hh; unfold SpanV at hh; obtain ⟨b1, hh⟩ := hh; obtain ⟨c1, hh⟩ := hh; obtain ⟨d1, hh⟩ := hh; obtain ⟨m1, hh, hs1, ht1, hf1, hg1, hk1⟩ := hh; subst hh
 have S1 := Lib.hid hs1
 have GS1 := Lib.hid (hf1.mono (B' := ww0.heap.size) (by simp))
 have US1 := Lib.hid S1.out.lt
 have S2 := Lib.hid ht1
 have GS2 := Lib.hid (hg1.mono (B' := ww0.heap.size) (by simp))
 have US2 := Lib.hid S2.out.lt
 have hk := hk1
 have z1 := hk.size
 have kq2 := Lib.hid hk
 clear hk
 replace fR0 := kf kq2.out nR0 fR0
 replace nR0 := kc kq2.out nR0
 have tR0 := nR0.out
 replace fR1 := kf kq2.out nR1 fR1
 replace nR1 := kc kq2.out nR1
 have tR1 := nR1.out
 replace fR2 := kf kq2.out nR2 fR2
 replace nR2 := kc kq2.out nR2
 have tR2 := nR2.out
 replace fR3 := kf kq2.out nR3 fR3
 replace nR3 := kc kq2.out nR3
 have tR3 := nR3.out
 have uR0 := fR0.out
 have uR1 := fR1.out
 have uR2 := fR2.out
 have uR3 := fR3.out
 go_wp2_with fail
 clear tR0 tR1 tR2 tR3 uR0 uR1 uR2 uR3
 generalize hW : ((((v1.setCell ⟨w.heap.size + 1 + 1, 0, none⟩ (.bool (isNeg o1))).setCell ⟨w.heap.size + 1 + 1, 1, none⟩ (.slice b1 (mag o1).length c1)).setCell ⟨w.heap.size + 1 + 1, 2, none⟩ (.bool (isNeg o2))).setCell ⟨w.heap.size + 1 + 1, 3, none⟩ (.slice d1 (mag o2).length m1)) = ww2
 have hk : Kept [w.heap.size + 1 + 1] v1 ww2 := by rw [← hW]; exact ((((Kept.refl _ _).setCell _ _ (by simp)).setCell _ _ (by simp)).setCell _ _ (by simp)).setCell _ _ (by simp)
 have hfz : ∀ x, ww2.frozen? x = v1.frozen? x := by rw [← hW]; intro x; simp only [World.frozen?_setCell]
 obtain ⟨e0, e1, e2, e3⟩ := st4 hW.symm nR0.out nR1.out nR2.out nR3.out
 have z2 := hk.size
 have kq3 := Lib.hid hk
 have hz3 := Lib.hid hfz
 replace fR0 := kz hfz fR0
 replace fR1 := kz hfz fR1
 replace fR2 := kz hfz fR2
 replace fR3 := kz hfz fR3
 replace nR0 := Lib.hid e0
 replace nR1 := Lib.hid e1
 replace nR2 := Lib.hid e2
 replace nR3 := Lib.hid e3
 clear hk hfz hW e0 e1 e2 e3
 go_wp2_with fail
 have e0 := nR0.out
 have e1 := nR1.out
 have e2 := nR2.out
 have e3 := nR3.out
 refine bodyPost_ret (v := .agg #[.bool (isNeg o1), .slice b1 (mag o1).length c1, .bool (isNeg o2), .slice d1 (mag o2).length m1]) (by simp [results, Tryz.results141, go_sem, e0, e1, e2, e3]) rfl ?_
 replace KT := Lib.hid (KT.out.trans0 kq2.out)
 replace KT := Lib.hid (KT.out.trans kq3.out (fun x hx hlt => by simp at hx; omega))
 replace S1 := Lib.hid (S1.out.kept kq3.out (fun hn y hy hm => by have h9 := GS1.out hn y hy; simp at hm; omega))
 replace S2 := Lib.hid (S2.out.kept kq3.out (fun hn y hy hm => by have h9 := GS2.out hn y hy; simp at hm; omega))
 exact ⟨_, _, _, _, rfl, S1.out, S2.out, GS1.out.mono (by omega), GS2.out.mono (by omega), KT.out⟩

theorem l4Put_zz (j : Nat) (x1 x2 : Int) (a b : Option Addr) (c d : Nat) (y1 y2 : Int) (a' b' : Option Addr) (c' d' : Nat) (o1 o2 : Int) (w : World) (h1 : Sl w a (mag x1).length c (mag x1)) (h2 : Sl w b (mag x2).length d (mag x2)) (h3 : Sl w a' (mag y1).length c' (mag y1)) (h4 : Sl w b' (mag y2).length d' (mag y2)) (hj : j ≤ 1000) (fx : Fit2 ⟨x1, x2⟩) (fy : Fit2 ⟨y1, y2⟩) (hz : (⟨o1, o2⟩ : Z2) = put2 ⟨x1, x2⟩ ⟨y1, y2⟩ j) :
  Calls Tryz.prog 141 #[.agg #[.bool (isNeg x1), .slice a (mag x1).length c, .bool (isNeg x2), .slice b (mag x2).length d], .agg #[.bool (isNeg y1), .slice a' (mag y1).length c', .bool (isNeg y2), .slice b' (mag y2).length d'], .int .i64 (j : Int)] w (SpanV w o1 o2) := by
 by_cases ho : j % 2 = 1
 ·exact l4Put_odd j x1 x2 a b c d y1 y2 a' b' c' d' o1 o2 w h1 h2 h3 h4 hj ho fx fy hz
 ·exact l4Put_even j x1 x2 a b c d y1 y2 a' b' c' d' o1 o2 w h1 h2 h3 h4 hj ho fx fy hz

end Go.Proofs.YtfafjijoeanbhaaGreat
namespace Go.Proofs.YtfafjijoeanbhaaGreat
open Go.RowKit

attribute [local go_sem ↓] field_big field_span field_end0 field_end1
set_option maxHeartbeats 4000000 in
set_option maxRecDepth 20000 in
theorem l4Part_zz (n : Int) (x1 x2 : Int) (a b : Option Addr) (c d : Nat) (o1 o2 : Int) (w : World) (h1 : Sl w a (mag x1).length c (mag x1)) (h2 : Sl w b (mag x2).length d (mag x2)) (hn1 : -9223372036854775808 ≤ n) (hn2 : n ≤ 9223372036854775807) (hp : 0 < n) (lx1 : (mag x1).length ≤ 20) (lx2 : (mag x2).length ≤ 20) (hz : (⟨o1, o2⟩ : Z2) = part2 n ⟨x1, x2⟩) :
  Calls Tryz.prog 140 #[.agg #[.bool (isNeg x1), .slice a (mag x1).length c, .bool (isNeg x2), .slice b (mag x2).length d], .int .i64 n] w (SpanV w o1 o2) := by
 have ln : (mag n).length ≤ 20 := small_len (by omega) (by omega)
 have hz1 := congrArg Z2.lo hz
 have hz2 := congrArg Z2.hi hz
 have H1 := Lib.hid h1
 have H2 := Lib.hid h2
 have F1 := Lib.hid h1.lt
 have F2 := Lib.hid h2.lt
 have HZ1 := Lib.hid hz1
 have HZ2 := Lib.hid hz2
 clear h1 h2 hz hz1 hz2
 go_enter Tryz.func140, Tryz.ntmps140
 go_upto_region 1 with fail
 generalize hW : ((w.alloc (.cells #[.bool (isNeg x1), .slice a (mag x1).length c, .bool (isNeg x2), .slice b (mag x2).length d] 26)).alloc (.cells #[.bool false, .slice none 0 0, .bool false, .slice none 0 0] 26)) = ww0
 have hkk : Kept [] ((w.alloc (.cells #[.bool (isNeg x1), .slice a (mag x1).length c, .bool (isNeg x2), .slice b (mag x2).length d] 26)).alloc (.cells #[.bool false, .slice none 0 0, .bool false, .slice none 0 0] 26)) ww0 := by rw [hW]; exact Kept.refl _ _
 have zzA : w.heap.size + 1 + 1 = ww0.heap.size := by rw [← hW]; simp
 obtain ⟨⟨nA0, nA1, nA2, nA3⟩, _⟩ := tp4 hkk.peel (g := w.heap.size) (by simp) (by simp)
 obtain ⟨⟨nR0, nR1, nR2, nR3⟩, fR0, fR1, fR2, fR3⟩ := tp4 hkk (g := w.heap.size + 1) (by simp) (by simp)
 have hk := hkk.peel.peel
 clear hkk hW
 have z0 := hk.size
 have kq1 := Lib.hid hk
 have KT := kq1
 clear hk
 replace H1 := Lib.hid (H1.out.kept0 KT.out)
 replace H2 := Lib.hid (H2.out.kept0 KT.out)
 have tA0 := nA0.out
 have tA1 := nA1.out
 have tA2 := nA2.out
 have tA3 := nA3.out
 go_region_held3 (fun w' => w'.cell? ⟨w.heap.size, 0, none⟩ = some (.bool (isNeg x1)) ∧ w'.cell? ⟨w.heap.size, 1, none⟩ = some (.slice a (mag x1).length c) ∧ w'.cell? ⟨w.heap.size, 2, none⟩ = some (.bool (isNeg x2)) ∧ w'.cell? ⟨w.heap.size, 3, none⟩ = some (.slice b (mag x2).length d) ∧ Hid (Kept [w.heap.size + 1] ww0 w'))
  ((go_split_ands; (try refine ⟨?_, ?_, ?_, ?_, ?_⟩) <;> with_reducible first | exact Kept.set4 (by assumption) | exact cell_set4 (by assumption) (by simp <;> omega) | exact Lib.hid ((Kept.refl _ _).drew) | exact drew_cell (by assumption) | exact Kept.allocH (by assumption) | exact alloc_cell (by assumption) | exact Lib.hid (Kept.trans0 (Hid.out (by assumption)) (by assumption)) | exact Kept.cell (by assumption) (by assumption) (by simp)))
  (first
   | (have g9 := hk3; clear g9; go_at_call 158; go_split_ands; refine (l2Ceil_n x2 n o2 _ _ _ _ _ (H2.out.kept0 (((((Kept.refl [] _).drew).trans0 hk1).trans0 hk2).trans0 hk3)) (hs3.kept0 (Kept.refl [] _)) lx2 ln hp HZ2.out).mono ?_; intro e v4 hh; unfold BigV at hh; obtain ⟨b4, hh⟩ := hh; obtain ⟨c4, hh, hs4, hf4, hk4⟩ := hh; subst hh; have hkr := ((((((Kept.refl [] ww0).drew).trans0 hk1).trans0 hk2).trans0 hk3).trans0 hk4); have rg0 := hkr.cell (p := ⟨w.heap.size + 1, 0, none⟩) nR0.out (by simp); have rg1 := hkr.cell (p := ⟨w.heap.size + 1, 1, none⟩) nR1.out (by simp); have rg2 := hkr.cell (p := ⟨w.heap.size + 1, 2, none⟩) nR2.out (by simp); have rg3 := hkr.cell (p := ⟨w.heap.size + 1, 3, none⟩) nR3.out (by simp); have ru0 := hkr.free' (p := ⟨w.heap.size + 1, 0, none⟩) nR0.out fR0.out (by simp); have ru1 := hkr.free' (p := ⟨w.heap.size + 1, 1, none⟩) nR1.out fR1.out (by simp); have ru2 := hkr.free' (p := ⟨w.heap.size + 1, 2, none⟩) nR2.out fR2.out (by simp); have ru3 := hkr.free' (p := ⟨w.heap.size + 1, 3, none⟩) nR3.out fR3.out (by simp))
   | (have g9 := hk2; clear g9; go_at_call 90; go_split_ands; refine (sBigOf_any n _ (by omega) (by omega)).mono ?_; intro e v3 hh; unfold BigV at hh; obtain ⟨b3, hh⟩ := hh; obtain ⟨c3, hh, hs3, hf3, hk3⟩ := hh; subst hh)
   | (have g9 := hk1; clear g9; go_at_call 157; go_split_ands; refine (l2Floor_n x1 n o1 _ _ _ _ _ (H1.out.kept0 (((Kept.refl [] _).drew).trans0 hk1)) (hs1.kept0 (Kept.refl [] _)) lx1 ln hp HZ1.out).mono ?_; intro e v2 hh; unfold BigV at hh; obtain ⟨b2, hh⟩ := hh; obtain ⟨c2, hh, hs2, hf2, hk2⟩ := hh; subst hh)
   | (go_at_call 90; go_split_ands; refine (sBigOf_any n _ (by omega) (by omega)).mono ?_; intro e v1 hh; unfold BigV at hh; obtain ⟨b1, hh⟩ := hh; obtain ⟨c1, hh, hs1, hf1, hk1⟩ := hh; subst hh))
 clear tA0 tA1 tA2 tA3
 have zk1 := hk1.size
 have zk2 := hk2.size
 have zk3 := hk3.size
 have zk4 := hk4.size
 simp only [World.size_drew] at zk1 hf1
 have S1 := Lib.hid (hs2.kept0 (hk3.trans0 hk4))
 have GS1 := Lib.hid (hf2.mono (B' := ww0.heap.size) (by omega))
 have US1 := Lib.hid S1.out.lt
 have S2 := Lib.hid (hs4.kept0 (Kept.refl [] _))
 have GS2 := Lib.hid (hf4.mono (B' := ww0.heap.size) (by omega))
 have US2 := Lib.hid S2.out.lt
 have hk := hkr
 clear hkr hk1 hk2 hk3 hk4
 have z1 := hk.size
 have kq2 := Lib.hid hk
 clear hk
 generalize hW : ((((v4.setCell ⟨w.heap.size + 1, 0, none⟩ (.bool (isNeg o1))).setCell ⟨w.heap.size + 1, 1, none⟩ (.slice b2 (mag o1).length c2)).setCell ⟨w.heap.size + 1, 2, none⟩ (.bool (isNeg o2))).setCell ⟨w.heap.size + 1, 3, none⟩ (.slice b4 (mag o2).length c4)) = ww2
 have hk : Kept [w.heap.size + 1] v4 ww2 := by rw [← hW]; exact ((((Kept.refl _ _).setCell _ _ (by simp)).setCell _ _ (by simp)).setCell _ _ (by simp)).setCell _ _ (by simp)
 have hfz : ∀ x, ww2.frozen? x = v4.frozen? x := by rw [← hW]; intro x; simp only [World.frozen?_setCell]
 replace fR0 := kf kq2.out nR0 fR0
 replace nR0 := kc kq2.out nR0
 have e0 : ww2.cell? ⟨w.heap.size + 1, 0, none⟩ = some (.bool (isNeg o1)) := by rw [← hW]; rw [World.cell?_setCell_other _ _ _ _ (by simp), World.cell?_setCell_other _ _ _ _ (by simp), World.cell?_setCell_other _ _ _ _ (by simp)]; exact World.cell?_setCell_same _ _ _ (by exact nR0.out)
 replace fR1 := kf kq2.out nR1 fR1
 replace nR1 := kc kq2.out nR1
 have e1 : ww2.cell? ⟨w.heap.size + 1, 1, none⟩ = some (.slice b2 (mag o1).length c2) := by rw [← hW]; rw [World.cell?_setCell_other _ _ _ _ (by simp), World.cell?_setCell_other _ _ _ _ (by simp)]; exact World.cell?_setCell_same _ _ _ (by rw [World.cell?_setCell_other _ _ _ _ (by simp)]; exact nR1.out)
 replace fR2 := kf kq2.out nR2 fR2
 replace nR2 := kc kq2.out nR2
 have e2 : ww2.cell? ⟨w.heap.size + 1, 2, none⟩ = some (.bool (isNeg o2)) := by rw [← hW]; rw [World.cell?_setCell_other _ _ _ _ (by simp)]; exact World.cell?_setCell_same _ _ _ (by rw [World.cell?_setCell_other _ _ _ _ (by simp), World.cell?_setCell_other _ _ _ _ (by simp)]; exact nR2.out)
 replace fR3 := kf kq2.out nR3 fR3
 replace nR3 := kc kq2.out nR3
 have e3 : ww2.cell? ⟨w.heap.size + 1, 3, none⟩ = some (.slice b4 (mag o2).length c4) := by rw [← hW]; exact World.cell?_setCell_same _ _ _ (by rw [World.cell?_setCell_other _ _ _ _ (by simp), World.cell?_setCell_other _ _ _ _ (by simp), World.cell?_setCell_other _ _ _ _ (by simp)]; exact nR3.out)
 have z2 := hk.size
 have kq3 := Lib.hid hk
 have hz3 := Lib.hid hfz
 replace fR0 := kz hfz fR0
 replace fR1 := kz hfz fR1
 replace fR2 := kz hfz fR2
 replace fR3 := kz hfz fR3
 replace nR0 := Lib.hid e0
 replace nR1 := Lib.hid e1
 replace nR2 := Lib.hid e2
 replace nR3 := Lib.hid e3
 clear hk hfz hW e0 e1 e2 e3
 go_wp2_with fail
 have e0 := nR0.out
 have e1 := nR1.out
 have e2 := nR2.out
 have e3 := nR3.out
 refine bodyPost_ret (v := .agg #[.bool (isNeg o1), .slice b2 (mag o1).length c2, .bool (isNeg o2), .slice b4 (mag o2).length c4]) (by simp [results, Tryz.results140, go_sem, e0, e1, e2, e3]) rfl ?_
 replace KT := Lib.hid (KT.out.trans0 kq2.out)
 replace KT := Lib.hid (KT.out.trans kq3.out (fun x hx hlt => by simp at hx; omega))
 replace S1 := Lib.hid (S1.out.kept kq3.out (fun hn y hy hm => by have h9 := GS1.out hn y hy; simp at hm; omega))
 replace S2 := Lib.hid (S2.out.kept kq3.out (fun hn y hy hm => by have h9 := GS2.out hn y hy; simp at hm; omega))
 exact ⟨_, _, _, _, rfl, S1.out, S2.out, GS1.out.mono (by omega), GS2.out.mono (by omega), KT.out⟩

end Go.Proofs.YtfafjijoeanbhaaGreat
namespace Go.Proofs.YtfafjijoeanbhaaGreat
open Go.RowKit

attribute [local go_sem ↓] field_big field_span field_end0 field_end1
/-- What the region reads first; only the box g was written. -/
def RdW (w0 : World) (g gt : Nat) (v0 v1 v2 v3 : Value) (w : World) : Prop :=
 w.cell? ⟨gt, 0, none⟩ = some v0 ∧ w.cell? ⟨gt, 1, none⟩ = some v1 ∧ w.cell? ⟨gt, 2, none⟩ = some v2 ∧ w.cell? ⟨gt, 3, none⟩ = some v3 ∧ Kept [g] w0 w
theorem RdW.kept {w0 w w' : World} {g gt : Nat} {v0 v1 v2 v3 : Value} (h : RdW w0 g gt v0 v1 v2 v3 w) (k : Kept [] w w') : RdW w0 g gt v0 v1 v2 v3 w' := by
 obtain ⟨t0, t1, t2, t3, hk⟩ := h
 exact ⟨k.cell t0 (by simp), k.cell t1 (by simp), k.cell t2 (by simp), k.cell t3 (by simp), hk.trans0 k⟩
theorem RdW.set {w0 w w' : World} {g gt : Nat} {v0 v1 v2 v3 : Value} (h : RdW w0 g gt v0 v1 v2 v3 w) (k : Kept [g] w w') (h2 : gt ≠ g) : RdW w0 g gt v0 v1 v2 v3 w' := by
 obtain ⟨t0, t1, t2, t3, hk⟩ := h
 exact ⟨k.cell t0 (by simpa using h2), k.cell t1 (by simpa using h2), k.cell t2 (by simpa using h2), k.cell t3 (by simpa using h2), hk.trans k (fun x hx _ => hx)⟩
/-- A slice whose memory, if it has any, is none of these blocks. -/
def Off (L : List Nat) (a : Option Addr) (n : Nat) : Prop := 0 < n → ∀ x, a = some x → x.block ∉ L
/-- A box with a span, told by its numbers, that may be written; its ends lie in none of these blocks. -/
def SpAt (L : List Nat) (w : World) (g : Nat) (x1 x2 : Int) : Prop :=
 ∃ a c b d, w.cell? ⟨g, 0, none⟩ = some (.bool (isNeg x1)) ∧ w.cell? ⟨g, 1, none⟩ = some (.slice a (mag x1).length c) ∧ w.cell? ⟨g, 2, none⟩ = some (.bool (isNeg x2)) ∧ w.cell? ⟨g, 3, none⟩ = some (.slice b (mag x2).length d) ∧
  w.frozen? ⟨g, 0, none⟩ = false ∧ w.frozen? ⟨g, 1, none⟩ = false ∧ w.frozen? ⟨g, 2, none⟩ = false ∧ w.frozen? ⟨g, 3, none⟩ = false ∧ Sl w a (mag x1).length c (mag x1) ∧ Sl w b (mag x2).length d (mag x2) ∧ Off L a (mag x1).length ∧ Off L b (mag x2).length

theorem l4Put_n (j : Nat) (n : Int) (x1 x2 : Int) (a b : Option Addr) (c d : Nat) (y1 y2 : Int) (a' b' : Option Addr) (c' d' : Nat) (z1 z2 : Int) (w : World) (h1 : Sl w a (mag x1).length c (mag x1)) (h2 : Sl w b (mag x2).length d (mag x2)) (h3 : Sl w a' (mag y1).length c' (mag y1)) (h4 : Sl w b' (mag y2).length d' (mag y2)) (hn : n = (j : Int)) (hj : j ≤ 1000) (fx : Fit2 ⟨x1, x2⟩) (fy : Fit2 ⟨y1, y2⟩) (hz : (⟨z1, z2⟩ : Z2) = put2 ⟨x1, x2⟩ ⟨y1, y2⟩ j) :
  Calls Tryz.prog 141 #[.agg #[.bool (isNeg x1), .slice a (mag x1).length c, .bool (isNeg x2), .slice b (mag x2).length d], .agg #[.bool (isNeg y1), .slice a' (mag y1).length c', .bool (isNeg y2), .slice b' (mag y2).length d'], .int .i64 n] w (SpanV w z1 z2) := by
 subst hn; exact l4Put_zz j x1 x2 a b c d y1 y2 a' b' c' d' z1 z2 w h1 h2 h3 h4 hj fx fy hz
end Go.Proofs.YtfafjijoeanbhaaGreat
