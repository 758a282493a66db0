/-
  Joined texts.
-/
import Derived.Deep.RegionHeld3
import Derived.Deep.DrawnRows
import Derived.Deep.DeepCutAuto
import Derived.Test.YtfafjijoeanbhaaGreatArcM
namespace Go.Proofs.YtfafjijoeanbhaaGreat
open Go.RowKit

attribute [local go_sem ↓] field_big field_span field_end0 field_end1
set_option maxHeartbeats 4000000 in
set_option maxRecDepth 20000 in
theorem l4Away_zz (x1 x2 : Int) (a b : Option Addr) (c d : Nat) (z : Int) (w : World) (h1 : Sl w a (mag x1).length c (mag x1)) (h2 : Sl w b (mag x2).length d (mag x2)) (lx1 : (mag x1).length ≤ 20) (lx2 : (mag x2).length ≤ 20) (hz : z = away2 ⟨x1, x2⟩) :
  Calls Tryz.prog 184 #[.agg #[.bool (isNeg x1), .slice a (mag x1).length c, .bool (isNeg x2), .slice b (mag x2).length d]] w (BigV w.heap.size w z) := by
 have hz2 : z = maxZ (sv false (mag x1)) (sv false (mag x2)) := by rw [show sv false (mag x1) = abZ x1 from val_mag x1, show sv false (mag x2) = abZ x2 from val_mag x2]; exact hz
 have hb1 : BigOk false (mag x1) := bigOk_abs (by omega)
 have hb2 : BigOk false (mag x2) := bigOk_abs (by omega)
 have H1 := Lib.hid h1
 have H2 := Lib.hid h2
 have F1 := Lib.hid h1.lt
 have F2 := Lib.hid h2.lt
 have HZ2 := Lib.hid hz2
 have B1 := Lib.hid hb1
 have B2 := Lib.hid hb2
 clear h1 h2 hz hz2 hb1 hb2
 go_enter Tryz.func184, Tryz.ntmps184
 go_upto_region 1 with fail
 generalize hW : ((w.alloc (.cells #[.bool (isNeg x1), .slice a (mag x1).length c, .bool (isNeg x2), .slice b (mag x2).length d] 26)).alloc (.cells #[.bool false, .slice none 0 0] 24)) = ww0
 have hkk : Kept [] ((w.alloc (.cells #[.bool (isNeg x1), .slice a (mag x1).length c, .bool (isNeg x2), .slice b (mag x2).length d] 26)).alloc (.cells #[.bool false, .slice none 0 0] 24)) ww0 := by rw [hW]; exact Kept.refl _ _
 have zzA : w.heap.size + 1 + 1 = ww0.heap.size := by rw [← hW]; simp
 obtain ⟨⟨nA0, nA1, nA2, nA3⟩, _⟩ := tp4 hkk.peel (g := w.heap.size) (by simp) (by simp)
 obtain ⟨⟨nR0, nR1⟩, fR0, fR1⟩ := tp2 hkk (g := w.heap.size + 1) (by simp) (by simp)
 have hk := hkk.peel.peel
 clear hkk hW
 have z0 := hk.size
 have kq1 := Lib.hid hk
 have KT := kq1
 clear hk
 replace H1 := Lib.hid (H1.out.kept0 KT.out)
 replace H2 := Lib.hid (H2.out.kept0 KT.out)
 have tA0 := nA0.out
 have tA1 := nA1.out
 have tA2 := nA2.out
 have tA3 := nA3.out
 go_wp2_with fail
 clear tA0 tA1 tA2 tA3
 refine (l3Most_two ww0.heap.size false false _ _ _ _ _ _ (mag x1) (mag x2) z _ (rowB2_at rfl rfl) (H1.out.kept0 ((Kept.refl [] ww0).alloc _)) (H2.out.kept0 ((Kept.refl [] ww0).alloc _)) B1.out B2.out HZ2.out).mono ?_
 intro e v1 hh; unfold BigV at hh; obtain ⟨b1, hh⟩ := hh; obtain ⟨c1, hh, hs1, hf1, hk1⟩ := hh; subst hh
 have S1 := Lib.hid hs1
 have GS1 := Lib.hid (hf1.mono (B' := ww0.heap.size) (by simp))
 have US1 := Lib.hid S1.out.lt
 have hk := ((Kept.refl [] ww0).alloc _).trans0 hk1
 clear hs1 hf1 hk1
 have z1 := hk.size
 have kq2 := Lib.hid hk
 clear hk
 replace fR0 := kf kq2.out nR0 fR0
 replace nR0 := kc kq2.out nR0
 have tR0 := nR0.out
 replace fR1 := kf kq2.out nR1 fR1
 replace nR1 := kc kq2.out nR1
 have tR1 := nR1.out
 have uR0 := fR0.out
 have uR1 := fR1.out
 go_wp2_with fail
 clear tR0 tR1 uR0 uR1
 generalize hW : ((v1.setCell ⟨w.heap.size + 1, 0, none⟩ (.bool (isNeg z))).setCell ⟨w.heap.size + 1, 1, none⟩ (.slice b1 (mag z).length c1)) = ww2
 have hk : Kept [w.heap.size + 1] v1 ww2 := by rw [← hW]; exact ((Kept.refl _ _).setCell _ _ (by simp)).setCell _ _ (by simp)
 have hfz : ∀ x, ww2.frozen? x = v1.frozen? x := by rw [← hW]; intro x; simp only [World.frozen?_setCell]
 obtain ⟨e0, e1⟩ := st2 hW.symm nR0.out nR1.out
 have z2 := hk.size
 have kq3 := Lib.hid hk
 have hz3 := Lib.hid hfz
 replace fR0 := kz hfz fR0
 replace fR1 := kz hfz fR1
 replace nR0 := Lib.hid e0
 replace nR1 := Lib.hid e1
 clear hk hfz hW e0 e1
 go_wp2_with fail
 have e0 := nR0.out
 have e1 := nR1.out
 refine bodyPost_ret (v := .agg #[.bool (isNeg z), .slice b1 (mag z).length c1]) (by simp [results, Tryz.results184, go_sem, e0, e1]) rfl ?_
 replace KT := Lib.hid (KT.out.trans0 kq2.out)
 replace KT := Lib.hid (KT.out.trans kq3.out (fun x hx hlt => by simp at hx; omega))
 replace S1 := Lib.hid (S1.out.kept kq3.out (fun hn y hy hm => by have h9 := GS1.out hn y hy; simp at hm; omega))
 exact ⟨_, _, rfl, S1.out, GS1.out.mono (by omega), KT.out⟩

end Go.Proofs.YtfafjijoeanbhaaGreat
namespace Go.Proofs.YtfafjijoeanbhaaGreat
open Go.RowKit

attribute [local go_sem ↓] field_big field_span field_end0 field_end1
set_option maxHeartbeats 4000000 in
set_option maxRecDepth 20000 in
theorem l4Swing_zz (x1 x2 : Int) (a b : Option Addr) (c d : Nat) (o1 o2 : Int) (w : World) (h1 : Sl w a (mag x1).length c (mag x1)) (h2 : Sl w b (mag x2).length d (mag x2)) (lx1 : (mag x1).length ≤ 20) (lx2 : (mag x2).length ≤ 20) (hz : (⟨o1, o2⟩ : Z2) = swing2 ⟨x1, x2⟩) :
  Calls Tryz.prog 142 #[.agg #[.bool (isNeg x1), .slice a (mag x1).length c, .bool (isNeg x2), .slice b (mag x2).length d]] w (SpanV w o1 o2) := by
 have hz1 : o1 = -o2 := by have h3 := congrArg Z2.lo hz; have h4 := congrArg Z2.hi hz; simp only [swing2] at h3 h4; omega
 have hz2 : o2 = away2 ⟨x1, x2⟩ := congrArg Z2.hi hz
 have e12 : mag o1 = mag o2 := by rw [hz1, mag_opp]
 have H1 := Lib.hid h1
 have H2 := Lib.hid h2
 have F1 := Lib.hid h1.lt
 have F2 := Lib.hid h2.lt
 have HZ1 := Lib.hid hz1
 have HZ2 := Lib.hid hz2
 have E12 := Lib.hid e12
 clear h1 h2 hz hz1 hz2 e12
 go_enter Tryz.func142, Tryz.ntmps142
 go_upto_region 1 with fail
 generalize hW : ((w.alloc (.cells #[.bool (isNeg x1), .slice a (mag x1).length c, .bool (isNeg x2), .slice b (mag x2).length d] 26)).alloc (.cells #[.bool false, .slice none 0 0, .bool false, .slice none 0 0] 26)) = ww0
 have hkk : Kept [] ((w.alloc (.cells #[.bool (isNeg x1), .slice a (mag x1).length c, .bool (isNeg x2), .slice b (mag x2).length d] 26)).alloc (.cells #[.bool false, .slice none 0 0, .bool false, .slice none 0 0] 26)) ww0 := by rw [hW]; exact Kept.refl _ _
 have zzA : w.heap.size + 1 + 1 = ww0.heap.size := by rw [← hW]; simp
 obtain ⟨⟨nA0, nA1, nA2, nA3⟩, _⟩ := tp4 hkk.peel (g := w.heap.size) (by simp) (by simp)
 obtain ⟨⟨nR0, nR1, nR2, nR3⟩, fR0, fR1, fR2, fR3⟩ := tp4 hkk (g := w.heap.size + 1) (by simp) (by simp)
 have hk := hkk.peel.peel
 clear hkk hW
 have z0 := hk.size
 have kq1 := Lib.hid hk
 have KT := kq1
 clear hk
 replace H1 := Lib.hid (H1.out.kept0 KT.out)
 replace H2 := Lib.hid (H2.out.kept0 KT.out)
 have tA0 := nA0.out
 have tA1 := nA1.out
 have tA2 := nA2.out
 have tA3 := nA3.out
 go_wp2_with fail
 clear tA0 tA1 tA2 tA3
 refine (l4Away_zz x1 x2 _ _ _ _ o2 _ H1.out H2.out lx1 lx2 HZ2.out).mono ?_
 intro e v1 hh; unfold BigV at hh; obtain ⟨b1, hh⟩ := hh; obtain ⟨c1, hh, hs1, hf1, hk1⟩ := hh; subst hh
 have S1 := Lib.hid hs1
 have GS1 := Lib.hid (hf1.mono (B' := ww0.heap.size) (by simp))
 have US1 := Lib.hid S1.out.lt
 have hk := hk1
 have z1 := hk.size
 have kq2 := Lib.hid hk
 clear hk
 go_upto_region 2 with fail
 generalize hW : (v1.alloc (.cells #[.bool (isNeg o2), .slice b1 (mag o2).length c1] 24)) = ww2
 have hk : Kept [] v1 ww2 := by rw [← hW]; exact (Kept.refl [] _).alloc _
 have zzC : v1.heap.size + 1 = ww2.heap.size := by rw [← hW]; simp
 have nC0 := Lib.hid (show ww2.cell? ⟨v1.heap.size, 0, none⟩ = some (.bool (isNeg o2)) by rw [← hW, World.cell?_alloc_new]; rfl)
 have fC0 := Lib.hid (show ww2.frozen? ⟨v1.heap.size, 0, none⟩ = false by rw [← hW]; exact frozen_of_row _ _ _ _ _ (heap_alloc_new _ _))
 have nC1 := Lib.hid (show ww2.cell? ⟨v1.heap.size, 1, none⟩ = some (.slice b1 (mag o2).length c1) by rw [← hW, World.cell?_alloc_new]; rfl)
 have fC1 := Lib.hid (show ww2.frozen? ⟨v1.heap.size, 1, none⟩ = false by rw [← hW]; exact frozen_of_row _ _ _ _ _ (heap_alloc_new _ _))
 clear hW
 have z2 := hk.size
 have kq3 := Lib.hid hk
 clear hk
 have tC0 := nC0.out
 have tC1 := nC1.out
 have kj1 := Lib.hid (kq2.out.trans0 kq3.out)
 replace nA0 := kc kj1.out nA0
 replace nA1 := kc kj1.out nA1
 replace nA2 := kc kj1.out nA2
 replace nA3 := kc kj1.out nA3
 replace fR0 := kf kj1.out nR0 fR0
 replace nR0 := kc kj1.out nR0
 replace fR1 := kf kj1.out nR1 fR1
 replace nR1 := kc kj1.out nR1
 replace fR2 := kf kj1.out nR2 fR2
 replace nR2 := kc kj1.out nR2
 replace fR3 := kf kj1.out nR3 fR3
 replace nR3 := kc kj1.out nR3
 replace H1 := Lib.hid (H1.out.kept0 kj1.out)
 replace H2 := Lib.hid (H2.out.kept0 kj1.out)
 replace KT := Lib.hid (KT.out.trans0 kj1.out)
 replace S1 := Lib.hid (S1.out.kept0 kq3.out)
 go_region_held3 (fun w' => w'.cell? ⟨v1.heap.size, 0, none⟩ = some (.bool (isNeg o2)) ∧ w'.cell? ⟨v1.heap.size, 1, none⟩ = some (.slice b1 (mag o2).length c1) ∧ Hid (Kept [w.heap.size + 1] ww2 w'))
  ((go_split_ands; (try refine ⟨?_, ?_, ?_⟩) <;> with_reducible first | exact Kept.set4 (by assumption) | exact cell_set4 (by assumption) (by simp <;> omega) | exact Lib.hid ((Kept.refl _ _).drew) | exact drew_cell (by assumption) | exact Kept.allocH (by assumption) | exact alloc_cell (by assumption) | exact Lib.hid (Kept.trans0 (Hid.out (by assumption)) (by assumption)) | exact Kept.cell (by assumption) (by assumption) (by simp)))
  (first
   | (go_at_call 175; go_split_ands; refine (l2Neg_opp _ _ o2 o1 _ HZ1.out).mono ?_; intro e v2 hh; obtain ⟨hh, hk2⟩ := hh; subst hh; have hkr := (((Kept.refl [] ww2).drew).trans0 hk2); have rg0 := hkr.cell (p := ⟨w.heap.size + 1, 0, none⟩) nR0.out (by simp); have rg1 := hkr.cell (p := ⟨w.heap.size + 1, 1, none⟩) nR1.out (by simp); have rg2 := hkr.cell (p := ⟨w.heap.size + 1, 2, none⟩) nR2.out (by simp); have rg3 := hkr.cell (p := ⟨w.heap.size + 1, 3, none⟩) nR3.out (by simp); have ru0 := hkr.free' (p := ⟨w.heap.size + 1, 0, none⟩) nR0.out fR0.out (by simp); have ru1 := hkr.free' (p := ⟨w.heap.size + 1, 1, none⟩) nR1.out fR1.out (by simp); have ru2 := hkr.free' (p := ⟨w.heap.size + 1, 2, none⟩) nR2.out fR2.out (by simp); have ru3 := hkr.free' (p := ⟨w.heap.size + 1, 3, none⟩) nR3.out fR3.out (by simp)))
 clear tC0 tC1
 have zk2 := hk2.size
 simp only [World.size_drew] at zk2
 have hk := hkr
 clear hkr hk2
 have z3 := hk.size
 have kq4 := Lib.hid hk
 clear hk
 generalize hW : ((((v2.setCell ⟨w.heap.size + 1, 0, none⟩ (.bool (isNeg o1))).setCell ⟨w.heap.size + 1, 1, none⟩ (.slice b1 (mag o1).length c1)).setCell ⟨w.heap.size + 1, 2, none⟩ (.bool (isNeg o2))).setCell ⟨w.heap.size + 1, 3, none⟩ (.slice b1 (mag o2).length c1)) = ww4
 have hk : Kept [w.heap.size + 1] v2 ww4 := by rw [← hW]; exact ((((Kept.refl _ _).setCell _ _ (by simp)).setCell _ _ (by simp)).setCell _ _ (by simp)).setCell _ _ (by simp)
 have hfz : ∀ x, ww4.frozen? x = v2.frozen? x := by rw [← hW]; intro x; simp only [World.frozen?_setCell]
 replace fR0 := kf kq4.out nR0 fR0
 replace nR0 := kc kq4.out nR0
 have e0 : ww4.cell? ⟨w.heap.size + 1, 0, none⟩ = some (.bool (isNeg o1)) := by rw [← hW]; rw [World.cell?_setCell_other _ _ _ _ (by simp), World.cell?_setCell_other _ _ _ _ (by simp), World.cell?_setCell_other _ _ _ _ (by simp)]; exact World.cell?_setCell_same _ _ _ (by exact nR0.out)
 replace fR1 := kf kq4.out nR1 fR1
 replace nR1 := kc kq4.out nR1
 have e1 : ww4.cell? ⟨w.heap.size + 1, 1, none⟩ = some (.slice b1 (mag o1).length c1) := by rw [← hW]; rw [World.cell?_setCell_other _ _ _ _ (by simp), World.cell?_setCell_other _ _ _ _ (by simp)]; exact World.cell?_setCell_same _ _ _ (by rw [World.cell?_setCell_other _ _ _ _ (by simp)]; exact nR1.out)
 replace fR2 := kf kq4.out nR2 fR2
 replace nR2 := kc kq4.out nR2
 have e2 : ww4.cell? ⟨w.heap.size + 1, 2, none⟩ = some (.bool (isNeg o2)) := by rw [← hW]; rw [World.cell?_setCell_other _ _ _ _ (by simp)]; exact World.cell?_setCell_same _ _ _ (by rw [World.cell?_setCell_other _ _ _ _ (by simp), World.cell?_setCell_other _ _ _ _ (by simp)]; exact nR2.out)
 replace fR3 := kf kq4.out nR3 fR3
 replace nR3 := kc kq4.out nR3
 have e3 : ww4.cell? ⟨w.heap.size + 1, 3, none⟩ = some (.slice b1 (mag o2).length c1) := by rw [← hW]; exact World.cell?_setCell_same _ _ _ (by rw [World.cell?_setCell_other _ _ _ _ (by simp), World.cell?_setCell_other _ _ _ _ (by simp), World.cell?_setCell_other _ _ _ _ (by simp)]; exact nR3.out)
 have z4 := hk.size
 have kq5 := Lib.hid hk
 have hz5 := Lib.hid hfz
 replace fR0 := kz hfz fR0
 replace fR1 := kz hfz fR1
 replace fR2 := kz hfz fR2
 replace fR3 := kz hfz fR3
 replace nR0 := Lib.hid e0
 replace nR1 := Lib.hid e1
 replace nR2 := Lib.hid e2
 replace nR3 := Lib.hid e3
 clear hk hfz hW e0 e1 e2 e3
 replace S1 := Lib.hid (S1.out.kept0 kq4.out)
 replace S1 := Lib.hid (S1.out.kept kq5.out (fun hn y hy hm => by have h9 := GS1.out hn y hy; simp at hm; omega))
 have S2 := Lib.hid (show Sl _ b1 (mag o1).length c1 (mag o1) from by rw [E12.out]; exact S1.out)
 have GS2 := Lib.hid (show Fr _ b1 (mag o1).length from by rw [E12.out]; exact GS1.out.mono (by omega : w.heap.size ≤ _))
 go_wp2_with fail
 have e0 := nR0.out
 have e1 := nR1.out
 have e2 := nR2.out
 have e3 := nR3.out
 refine bodyPost_ret (v := .agg #[.bool (isNeg o1), .slice b1 (mag o1).length c1, .bool (isNeg o2), .slice b1 (mag o2).length c1]) (by simp [results, Tryz.results142, go_sem, e0, e1, e2, e3]) rfl ?_
 replace KT := Lib.hid (KT.out.trans0 kq4.out)
 replace KT := Lib.hid (KT.out.trans kq5.out (fun x hx hlt => by simp at hx; omega))
 exact ⟨_, _, _, _, rfl, S2.out, S1.out, GS2.out, GS1.out.mono (by omega), KT.out⟩

end Go.Proofs.YtfafjijoeanbhaaGreat
