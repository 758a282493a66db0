/-
 Contract of l4Part. Conditions: as said.
-/
import Derived.Deep.RegionHeld3
import Derived.Deep.DrawnRows
import Derived.Deep.DeepCutAuto
import Derived.Test.YtfafjijoeanbhaaGreatArcM
namespace Go.Proofs.YtfafjijoeanbhaaGreat
open Go.RowKit

attribute [local go_sem ↓] field_big field_span field_end0 field_end1
set_option maxHeartbeats 4000000 in
set_option maxRecDepth 20000 in
theorem l4Part_zz (n : Int) (x1 x2 : Int) (a b : Option Addr) (c d : Nat) (o1 o2 : Int) (w : World) (h1 : Sl w a (mag x1).length c (mag x1)) (h2 : Sl w b (mag x2).length d (mag x2)) (hn1 : -9223372036854775808 ≤ n) (hn2 : n ≤ 9223372036854775807) (hp : 0 < n) (lx1 : (mag x1).length ≤ 20) (lx2 : (mag x2).length ≤ 20) (hz : (⟨o1, o2⟩ : Z2) = part2 n ⟨x1, x2⟩) :
  Calls Tryz.prog 140 #[.agg #[.bool (isNeg x1), .slice a (mag x1).length c, .bool (isNeg x2), .slice b (mag x2).length d], .int .i64 n] w (SpanV w o1 o2) := by
 have ln : (mag n).length ≤ 20 := small_len (by omega) (by omega)
 have hz1 := congrArg Z2.lo hz
 have hz2 := congrArg Z2.hi hz
 have H1 := Lib.hid h1
 have H2 := Lib.hid h2
 have F1 := Lib.hid h1.lt
 have F2 := Lib.hid h2.lt
 have HZ1 := Lib.hid hz1
 have HZ2 := Lib.hid hz2
 clear h1 h2 hz hz1 hz2
 go_enter Tryz.func140, Tryz.ntmps140
 go_upto_region 1 with fail
 generalize hW : ((w.alloc (.cells #[.bool (isNeg x1), .slice a (mag x1).length c, .bool (isNeg x2), .slice b (mag x2).length d] 26)).alloc (.cells #[.bool false, .slice none 0 0, .bool false, .slice none 0 0] 26)) = ww0
 have hkk : Kept [] ((w.alloc (.cells #[.bool (isNeg x1), .slice a (mag x1).length c, .bool (isNeg x2), .slice b (mag x2).length d] 26)).alloc (.cells #[.bool false, .slice none 0 0, .bool false, .slice none 0 0] 26)) ww0 := by rw [hW]; exact Kept.refl _ _
 have zzA : w.heap.size + 1 + 1 = ww0.heap.size := by rw [← hW]; simp
 obtain ⟨⟨nA0, nA1, nA2, nA3⟩, _⟩ := tp4 hkk.peel (g := w.heap.size) (by simp) (by simp)
 obtain ⟨⟨nR0, nR1, nR2, nR3⟩, fR0, fR1, fR2, fR3⟩ := tp4 hkk (g := w.heap.size + 1) (by simp) (by simp)
 have hk := hkk.peel.peel
 clear hkk hW
 have z0 := hk.size
 have kq1 := Lib.hid hk
 have KT := kq1
 clear hk
 replace H1 := Lib.hid (H1.out.kept0 KT.out)
 replace H2 := Lib.hid (H2.out.kept0 KT.out)
 have tA0 := nA0.out
 have tA1 := nA1.out
 have tA2 := nA2.out
 have tA3 := nA3.out
 go_region_held3 (fun w' => w'.cell? ⟨w.heap.size, 0, none⟩ = some (.bool (isNeg x1)) ∧ w'.cell? ⟨w.heap.size, 1, none⟩ = some (.slice a (mag x1).length c) ∧ w'.cell? ⟨w.heap.size, 2, none⟩ = some (.bool (isNeg x2)) ∧ w'.cell? ⟨w.heap.size, 3, none⟩ = some (.slice b (mag x2).length d) ∧ Hid (Kept [w.heap.size + 1] ww0 w'))
  ((go_split_ands; (try refine ⟨?_, ?_, ?_, ?_, ?_⟩) <;> with_reducible first | exact Kept.set4 (by assumption) | exact cell_set4 (by assumption) (by simp <;> omega) | exact Lib.hid ((Kept.refl _ _).drew) | exact drew_cell (by assumption) | exact Kept.allocH (by assumption) | exact alloc_cell (by assumption) | exact Lib.hid (Kept.trans0 (Hid.out (by assumption)) (by assumption)) | exact Kept.cell (by assumption) (by assumption) (by simp)))
  (first
   | (have g9 := hk3; clear g9; go_at_call 158; go_split_ands; refine (l2Ceil_n x2 n o2 _ _ _ _ _ (H2.out.kept0 (((((Kept.refl [] _).drew).trans0 hk1).trans0 hk2).trans0 hk3)) (hs3.kept0 (Kept.refl [] _)) lx2 ln hp HZ2.out).mono ?_; intro e v4 hh; unfold BigV at hh; obtain ⟨b4, hh⟩ := hh; obtain ⟨c4, hh, hs4, hf4, hk4⟩ := hh; subst hh; have hkr := ((((((Kept.refl [] ww0).drew).trans0 hk1).trans0 hk2).trans0 hk3).trans0 hk4); have rg0 := hkr.cell (p := ⟨w.heap.size + 1, 0, none⟩) nR0.out (by simp); have rg1 := hkr.cell (p := ⟨w.heap.size + 1, 1, none⟩) nR1.out (by simp); have rg2 := hkr.cell (p := ⟨w.heap.size + 1, 2, none⟩) nR2.out (by simp); have rg3 := hkr.cell (p := ⟨w.heap.size + 1, 3, none⟩) nR3.out (by simp); have ru0 := hkr.free' (p := ⟨w.heap.size + 1, 0, none⟩) nR0.out fR0.out (by simp); have ru1 := hkr.free' (p := ⟨w.heap.size + 1, 1, none⟩) nR1.out fR1.out (by simp); have ru2 := hkr.free' (p := ⟨w.heap.size + 1, 2, none⟩) nR2.out fR2.out (by simp); have ru3 := hkr.free' (p := ⟨w.heap.size + 1, 3, none⟩) nR3.out fR3.out (by simp))
   | (have g9 := hk2; clear g9; go_at_call 90; go_split_ands; refine (sBigOf_any n _ (by omega) (by omega)).mono ?_; intro e v3 hh; unfold BigV at hh; obtain ⟨b3, hh⟩ := hh; obtain ⟨c3, hh, hs3, hf3, hk3⟩ := hh; subst hh)
   | (have g9 := hk1; clear g9; go_at_call 157; go_split_ands; refine (l2Floor_n x1 n o1 _ _ _ _ _ (H1.out.kept0 (((Kept.refl [] _).drew).trans0 hk1)) (hs1.kept0 (Kept.refl [] _)) lx1 ln hp HZ1.out).mono ?_; intro e v2 hh; unfold BigV at hh; obtain ⟨b2, hh⟩ := hh; obtain ⟨c2, hh, hs2, hf2, hk2⟩ := hh; subst hh)
   | (go_at_call 90; go_split_ands; refine (sBigOf_any n _ (by omega) (by omega)).mono ?_; intro e v1 hh; unfold BigV at hh; obtain ⟨b1, hh⟩ := hh; obtain ⟨c1, hh, hs1, hf1, hk1⟩ := hh; subst hh))
 clear tA0 tA1 tA2 tA3
 have zk1 := hk1.size
 have zk2 := hk2.size
 have zk3 := hk3.size
 have zk4 := hk4.size
 simp only [World.size_drew] at zk1 hf1
 have S1 := Lib.hid (hs2.kept0 (hk3.trans0 hk4))
 have GS1 := Lib.hid (hf2.mono (B' := ww0.heap.size) (by omega))
 have US1 := Lib.hid S1.out.lt
 have S2 := Lib.hid (hs4.kept0 (Kept.refl [] _))
 have GS2 := Lib.hid (hf4.mono (B' := ww0.heap.size) (by omega))
 have US2 := Lib.hid S2.out.lt
 have hk := hkr
 clear hkr hk1 hk2 hk3 hk4
 have z1 := hk.size
 have kq2 := Lib.hid hk
 clear hk
 generalize hW : ((((v4.setCell ⟨w.heap.size + 1, 0, none⟩ (.bool (isNeg o1))).setCell ⟨w.heap.size + 1, 1, none⟩ (.slice b2 (mag o1).length c2)).setCell ⟨w.heap.size + 1, 2, none⟩ (.bool (isNeg o2))).setCell ⟨w.heap.size + 1, 3, none⟩ (.slice b4 (mag o2).length c4)) = ww2
 have hk : Kept [w.heap.size + 1] v4 ww2 := by rw [← hW]; exact ((((Kept.refl _ _).setCell _ _ (by simp)).setCell _ _ (by simp)).setCell _ _ (by simp)).setCell _ _ (by simp)
 have hfz : ∀ x, ww2.frozen? x = v4.frozen? x := by rw [← hW]; intro x; simp only [World.frozen?_setCell]
 replace fR0 := kf kq2.out nR0 fR0
 replace nR0 := kc kq2.out nR0
 have e0 : ww2.cell? ⟨w.heap.size + 1, 0, none⟩ = some (.bool (isNeg o1)) := by rw [← hW]; rw [World.cell?_setCell_other _ _ _ _ (by simp), World.cell?_setCell_other _ _ _ _ (by simp), World.cell?_setCell_other _ _ _ _ (by simp)]; exact World.cell?_setCell_same _ _ _ (by exact nR0.out)
 replace fR1 := kf kq2.out nR1 fR1
 replace nR1 := kc kq2.out nR1
 have e1 : ww2.cell? ⟨w.heap.size + 1, 1, none⟩ = some (.slice b2 (mag o1).length c2) := by rw [← hW]; rw [World.cell?_setCell_other _ _ _ _ (by simp), World.cell?_setCell_other _ _ _ _ (by simp)]; exact World.cell?_setCell_same _ _ _ (by rw [World.cell?_setCell_other _ _ _ _ (by simp)]; exact nR1.out)
 replace fR2 := kf kq2.out nR2 fR2
 replace nR2 := kc kq2.out nR2
 have e2 : ww2.cell? ⟨w.heap.size + 1, 2, none⟩ = some (.bool (isNeg o2)) := by rw [← hW]; rw [World.cell?_setCell_other _ _ _ _ (by simp)]; exact World.cell?_setCell_same _ _ _ (by rw [World.cell?_setCell_other _ _ _ _ (by simp), World.cell?_setCell_other _ _ _ _ (by simp)]; exact nR2.out)
 replace fR3 := kf kq2.out nR3 fR3
 replace nR3 := kc kq2.out nR3
 have e3 : ww2.cell? ⟨w.heap.size + 1, 3, none⟩ = some (.slice b4 (mag o2).length c4) := by rw [← hW]; exact World.cell?_setCell_same _ _ _ (by rw [World.cell?_setCell_other _ _ _ _ (by simp), World.cell?_setCell_other _ _ _ _ (by simp), World.cell?_setCell_other _ _ _ _ (by simp)]; exact nR3.out)
 have z2 := hk.size
 have kq3 := Lib.hid hk
 have hz3 := Lib.hid hfz
 replace fR0 := kz hfz fR0
 replace fR1 := kz hfz fR1
 replace fR2 := kz hfz fR2
 replace fR3 := kz hfz fR3
 replace nR0 := Lib.hid e0
 replace nR1 := Lib.hid e1
 replace nR2 := Lib.hid e2
 replace nR3 := Lib.hid e3
 clear hk hfz hW e0 e1 e2 e3
 go_wp2_with fail
 have e0 := nR0.out
 have e1 := nR1.out
 have e2 := nR2.out
 have e3 := nR3.out
 refine bodyPost_ret (v := .agg #[.bool (isNeg o1), .slice b2 (mag o1).length c2, .bool (isNeg o2), .slice b4 (mag o2).length c4]) (by simp [results, Tryz.results140, go_sem, e0, e1, e2, e3]) rfl ?_
 replace KT := Lib.hid (KT.out.trans0 kq2.out)
 replace KT := Lib.hid (KT.out.trans kq3.out (fun x hx hlt => by simp at hx; omega))
 replace S1 := Lib.hid (S1.out.kept kq3.out (fun hn y hy hm => by have h9 := GS1.out hn y hy; simp at hm; omega))
 replace S2 := Lib.hid (S2.out.kept kq3.out (fun hn y hy hm => by have h9 := GS2.out hn y hy; simp at hm; omega))
 exact ⟨_, _, _, _, rfl, S1.out, S2.out, GS1.out.mono (by omega), GS2.out.mono (by omega), KT.out⟩

end Go.Proofs.YtfafjijoeanbhaaGreat
