/-
 Contracts of the model's l5Rad and RadSpan. Conditions: the precision is one; the angle is not more than all around.
-/
import Derived.Deep.RegionHeld3
import Derived.Deep.DrawnRows
import Derived.Deep.DeepCutAuto
import Derived.Test.YtfafjijoeanbhaaGreatPiSpec
import Derived.Test.YtfafjijoeanbhaaGreatPlainR
namespace Go.Proofs.YtfafjijoeanbhaaGreat
open Go.RowKit

attribute [local go_sem ↓] field_big field_span field_end0 field_end1
set_option maxHeartbeats 1000000 in
theorem l1In_yes (v lo hi : Int) (w : World) (h1 : lo ≤ v) (h2 : v ≤ hi) : Calls Tryz.prog 43 #[.int .i64 v, .int .i64 lo, .int .i64 hi] w (Ans w (.bool true)) := by
 have e2 : decide (v ≤ hi) = true := decide_eq_true h2
 go_enter Tryz.func43, Tryz.ntmps43
 go_wp2
 go_ret
 exact ⟨rfl, Kept.refl _ _⟩
set_option maxHeartbeats 1000000 in
theorem l1In_no1 (v lo hi : Int) (w : World) (h : v < lo) : Calls Tryz.prog 43 #[.int .i64 v, .int .i64 lo, .int .i64 hi] w (Ans w (.bool false)) := by
 go_enter Tryz.func43, Tryz.ntmps43
 go_wp2
 go_ret
 exact ⟨rfl, Kept.refl _ _⟩
set_option maxHeartbeats 1000000 in
theorem l1In_no2 (v lo hi : Int) (w : World) (h1 : lo ≤ v) (h2 : hi < v) : Calls Tryz.prog 43 #[.int .i64 v, .int .i64 lo, .int .i64 hi] w (Ans w (.bool false)) := by
 have e2 : decide (v ≤ hi) = false := decide_eq_false (by omega)
 go_enter Tryz.func43, Tryz.ntmps43
 go_wp2
 go_ret
 exact ⟨rfl, Kept.refl _ _⟩
set_option maxHeartbeats 8000000 in
set_option maxRecDepth 20000 in
theorem l5Rad_zz (k : Nat) (n : Int) (x1 x2 : Int) (a b : Option Addr) (c d : Nat) (o1 o2 : Int) (w : World) (h1 : Sl w a (mag x1).length c (mag x1)) (h2 : Sl w b (mag x2).length d (mag x2)) (hP : isP (k : Int) = true) (hn : InR n) (hx : (⟨x1, x2⟩ : Z2) = pi2 k) (hz : (⟨o1, o2⟩ : Z2) = rad2 k n) :
  Calls Tryz.prog 44 #[.int .i64 (k : Int), .agg #[.bool (isNeg x1), .slice a (mag x1).length c, .bool (isNeg x2), .slice b (mag x2).length d], .int .i64 n] w (SpanV w o1 o2) := by
 have hk96 : k ≤ 96 := by rcases isP_cases hP with h | h | h <;> omega
 obtain ⟨r1, r2, hr⟩ : ∃ a b : Int, (⟨a, b⟩ : Z2) = rat2 k n 180000000000 := ⟨_, _, rfl⟩
 have fr : Fit2 ⟨r1, r2⟩ := by rw [hr]; exact (rat_rad hn).fitU hk96 (by omega)
 have ln : (mag n).length ≤ 20 := one_len (by have := hn.1; omega) (by have := hn.2; omega)
 have ln1 := hn.1; have ln2 := hn.2
 have hz9 : (⟨o1, o2⟩ : Z2) = mul2 k ⟨x1, x2⟩ ⟨r1, r2⟩ := by rw [hz, hx, hr]; rfl
 have fx : Fit2 ⟨x1, x2⟩ := by rw [hx]; exact (pi2_in hk96).fitU hk96 (by omega)
 have fo : Fit2 ⟨o1, o2⟩ := by rw [hz]; exact (rad2_in hk96 hn).fitU hk96 (by omega)
 have H1 := Lib.hid h1
 have H2 := Lib.hid h2
 have F1 := Lib.hid h1.lt
 have F2 := Lib.hid h2.lt
 have HP := Lib.hid hP
 have HR := Lib.hid hr
 have FR9 := Lib.hid fr
 have LN := Lib.hid ln
 have FX := Lib.hid fx
 have FO := Lib.hid fo
 have HZ := Lib.hid hz9
 clear h1 h2 hP hr fr ln fx fo hz9 hz hx hn
 go_enter Tryz.func44, Tryz.ntmps44
 go_upto_region 1 with fail
 generalize hW : ((w.alloc (.cells #[.bool (isNeg x1), .slice a (mag x1).length c, .bool (isNeg x2), .slice b (mag x2).length d] 26)).alloc (.cells #[.bool false, .slice none 0 0, .bool false, .slice none 0 0] 26)) = ww0
 have hkk : Kept [] ((w.alloc (.cells #[.bool (isNeg x1), .slice a (mag x1).length c, .bool (isNeg x2), .slice b (mag x2).length d] 26)).alloc (.cells #[.bool false, .slice none 0 0, .bool false, .slice none 0 0] 26)) ww0 := by rw [hW]; exact Kept.refl _ _
 have zzA : w.heap.size + 1 + 1 = ww0.heap.size := by rw [← hW]; simp
 obtain ⟨⟨nA0, nA1, nA2, nA3⟩, _⟩ := tp4 hkk.peel (g := w.heap.size) (by simp) (by simp)
 obtain ⟨⟨nR0, nR1, nR2, nR3⟩, fR0, fR1, fR2, fR3⟩ := tp4 hkk (g := w.heap.size + 1) (by simp) (by simp)
 have hk := hkk.peel.peel
 clear hkk hW
 have z0 := hk.size
 have kq1 := Lib.hid hk
 have KT := kq1
 clear hk
 replace H1 := Lib.hid (H1.out.kept0 KT.out)
 replace H2 := Lib.hid (H2.out.kept0 KT.out)
 have tA0 := nA0.out
 have tA1 := nA1.out
 have tA2 := nA2.out
 have tA3 := nA3.out
 go_region_held3 (fun w' => w'.cell? ⟨w.heap.size, 0, none⟩ = some (.bool (isNeg x1)) ∧ w'.cell? ⟨w.heap.size, 1, none⟩ = some (.slice a (mag x1).length c) ∧ w'.cell? ⟨w.heap.size, 2, none⟩ = some (.bool (isNeg x2)) ∧ w'.cell? ⟨w.heap.size, 3, none⟩ = some (.slice b (mag x2).length d) ∧ Hid (Kept [w.heap.size + 1] ww0 w'))
  ((go_split_ands; (try refine ⟨?_, ?_, ?_, ?_, ?_⟩) <;> with_reducible first | exact Kept.set4 (by assumption) | exact cell_set4 (by assumption) (by simp <;> omega) | exact Lib.hid ((Kept.refl _ _).drew) | exact drew_cell (by assumption) | exact Kept.allocH (by assumption) | exact alloc_cell (by assumption) | exact Lib.hid (Kept.trans0 (Hid.out (by assumption)) (by assumption)) | exact Kept.cell (by assumption) (by assumption) (by simp)))
  (first
   | (have g9 := hk3; clear g9; go_at_call 88; go_split_ands; refine (l3Mul_zz k x1 x2 _ _ _ _ r1 r2 _ _ _ _ o1 o2 _ (H1.out.kept0 (((((Kept.refl [] _).drew).trans0 hk1).trans0 hk2).trans0 hk3)) (H2.out.kept0 (((((Kept.refl [] _).drew).trans0 hk1).trans0 hk2).trans0 hk3)) (hs3.kept0 (Kept.refl [] _)) (ht3.kept0 (Kept.refl [] _)) HP.out FX.out FR9.out HZ.out).mono ?_; intro e v4 hh; unfold SpanV at hh; obtain ⟨b4, hh⟩ := hh; obtain ⟨c4, hh⟩ := hh; obtain ⟨d4, hh⟩ := hh; obtain ⟨m4, hh, hs4, ht4, hf4, hg4, hk4⟩ := hh; subst hh; have hkr := ((((((Kept.refl [] ww0).drew).trans0 hk1).trans0 hk2).trans0 hk3).trans0 hk4); have rg0 := hkr.cell (p := ⟨w.heap.size + 1, 0, none⟩) nR0.out (by simp); have rg1 := hkr.cell (p := ⟨w.heap.size + 1, 1, none⟩) nR1.out (by simp); have rg2 := hkr.cell (p := ⟨w.heap.size + 1, 2, none⟩) nR2.out (by simp); have rg3 := hkr.cell (p := ⟨w.heap.size + 1, 3, none⟩) nR3.out (by simp); have ru0 := hkr.free' (p := ⟨w.heap.size + 1, 0, none⟩) nR0.out fR0.out (by simp); have ru1 := hkr.free' (p := ⟨w.heap.size + 1, 1, none⟩) nR1.out fR1.out (by simp); have ru2 := hkr.free' (p := ⟨w.heap.size + 1, 2, none⟩) nR2.out fR2.out (by simp); have ru3 := hkr.free' (p := ⟨w.heap.size + 1, 3, none⟩) nR3.out fR3.out (by simp))
   | (have g9 := hk2; clear g9; go_at_call 89; go_split_ands; refine (l3Rat_zz k n 180000000000 _ _ _ _ r1 r2 _ (hs1.kept0 hk2) (hs2.kept0 (Kept.refl [] _)) HP.out LN.out (one_len (by decide) (by decide)) (by decide) HR.out).mono ?_; intro e v3 hh; unfold SpanV at hh; obtain ⟨b3, hh⟩ := hh; obtain ⟨c3, hh⟩ := hh; obtain ⟨d3, hh⟩ := hh; obtain ⟨m3, hh, hs3, ht3, hf3, hg3, hk3⟩ := hh; subst hh)
   | (have g9 := hk1; clear g9; go_at_call 90; go_split_ands; refine (sBigOf_any 180000000000 _ (by omega) (by omega)).mono ?_; intro e v2 hh; unfold BigV at hh; obtain ⟨b2, hh⟩ := hh; obtain ⟨c2, hh, hs2, hf2, hk2⟩ := hh; subst hh)
   | (go_at_call 90; go_split_ands; refine (sBigOf_any n _ (by omega) (by omega)).mono ?_; intro e v1 hh; unfold BigV at hh; obtain ⟨b1, hh⟩ := hh; obtain ⟨c1, hh, hs1, hf1, hk1⟩ := hh; subst hh))
 clear tA0 tA1 tA2 tA3
 have zk1 := hk1.size
 have zk2 := hk2.size
 have zk3 := hk3.size
 have zk4 := hk4.size
 simp only [World.size_drew] at zk1 hf1
 have V1 := Lib.hid (hs4.kept0 (Kept.refl [] _))
 have GV1 := Lib.hid (hf4.mono (B' := ww0.heap.size) (by omega))
 have UV1 := Lib.hid V1.out.lt
 have V2 := Lib.hid (ht4.kept0 (Kept.refl [] _))
 have GV2 := Lib.hid (hg4.mono (B' := ww0.heap.size) (by omega))
 have UV2 := Lib.hid V2.out.lt
 have hk := hkr
 clear hkr hk1 hk2 hk3 hk4
 have z1 := hk.size
 have kq2 := Lib.hid hk
 clear hk
 generalize hW : ((((v4.setCell ⟨w.heap.size + 1, 0, none⟩ (.bool (isNeg o1))).setCell ⟨w.heap.size + 1, 1, none⟩ (.slice b4 (mag o1).length c4)).setCell ⟨w.heap.size + 1, 2, none⟩ (.bool (isNeg o2))).setCell ⟨w.heap.size + 1, 3, none⟩ (.slice d4 (mag o2).length m4)) = ww2
 have hk : Kept [w.heap.size + 1] v4 ww2 := by rw [← hW]; exact ((((Kept.refl _ _).setCell _ _ (by simp)).setCell _ _ (by simp)).setCell _ _ (by simp)).setCell _ _ (by simp)
 have hfz : ∀ x, ww2.frozen? x = v4.frozen? x := by rw [← hW]; intro x; simp only [World.frozen?_setCell]
 replace fR0 := kf kq2.out nR0 fR0
 replace nR0 := kc kq2.out nR0
 have e0 : ww2.cell? ⟨w.heap.size + 1, 0, none⟩ = some (.bool (isNeg o1)) := by rw [← hW]; rw [World.cell?_setCell_other _ _ _ _ (by simp), World.cell?_setCell_other _ _ _ _ (by simp), World.cell?_setCell_other _ _ _ _ (by simp)]; exact World.cell?_setCell_same _ _ _ (by exact nR0.out)
 replace fR1 := kf kq2.out nR1 fR1
 replace nR1 := kc kq2.out nR1
 have e1 : ww2.cell? ⟨w.heap.size + 1, 1, none⟩ = some (.slice b4 (mag o1).length c4) := by rw [← hW]; rw [World.cell?_setCell_other _ _ _ _ (by simp), World.cell?_setCell_other _ _ _ _ (by simp)]; exact World.cell?_setCell_same _ _ _ (by rw [World.cell?_setCell_other _ _ _ _ (by simp)]; exact nR1.out)
 replace fR2 := kf kq2.out nR2 fR2
 replace nR2 := kc kq2.out nR2
 have e2 : ww2.cell? ⟨w.heap.size + 1, 2, none⟩ = some (.bool (isNeg o2)) := by rw [← hW]; rw [World.cell?_setCell_other _ _ _ _ (by simp)]; exact World.cell?_setCell_same _ _ _ (by rw [World.cell?_setCell_other _ _ _ _ (by simp), World.cell?_setCell_other _ _ _ _ (by simp)]; exact nR2.out)
 replace fR3 := kf kq2.out nR3 fR3
 replace nR3 := kc kq2.out nR3
 have e3 : ww2.cell? ⟨w.heap.size + 1, 3, none⟩ = some (.slice d4 (mag o2).length m4) := by rw [← hW]; exact World.cell?_setCell_same _ _ _ (by rw [World.cell?_setCell_other _ _ _ _ (by simp), World.cell?_setCell_other _ _ _ _ (by simp), World.cell?_setCell_other _ _ _ _ (by simp)]; exact nR3.out)
 have z2 := hk.size
 have kq3 := Lib.hid hk
 have hz3 := Lib.hid hfz
 replace fR0 := kz hfz fR0
 replace fR1 := kz hfz fR1
 replace fR2 := kz hfz fR2
 replace fR3 := kz hfz fR3
 replace nR0 := Lib.hid e0
 replace nR1 := Lib.hid e1
 replace nR2 := Lib.hid e2
 replace nR3 := Lib.hid e3
 clear hk hfz hW e0 e1 e2 e3
 go_wp2_with fail
 have e0 := nR0.out
 have e1 := nR1.out
 have e2 := nR2.out
 have e3 := nR3.out
 refine bodyPost_ret (v := .agg #[.bool (isNeg o1), .slice b4 (mag o1).length c4, .bool (isNeg o2), .slice d4 (mag o2).length m4]) (by simp [results, Tryz.results44, go_sem, e0, e1, e2, e3]) rfl ?_
 replace KT := Lib.hid (KT.out.trans0 kq2.out)
 replace KT := Lib.hid (KT.out.trans kq3.out (fun x hx hlt => by simp at hx; omega))
 replace V1 := Lib.hid (V1.out.kept kq3.out (fun hn y hy hm => by have h9 := GV1.out hn y hy; simp at hm; omega))
 replace V2 := Lib.hid (V2.out.kept kq3.out (fun hn y hy hm => by have h9 := GV2.out hn y hy; simp at hm; omega))
 exact ⟨_, _, _, _, rfl, V1.out, V2.out, GV1.out.mono (by omega), GV2.out.mono (by omega), KT.out⟩

set_option maxHeartbeats 8000000 in
set_option maxRecDepth 20000 in
theorem sRadSpan_any (P n : Int) (w : World) :
  Calls Tryz.prog 12 #[.int .i64 P, .int .i64 n] w (SpanM w (radS P n)) := by
 by_cases hg : isP P = true ∧ InR n
 ·skip
  obtain ⟨hP, hn⟩ := hg
  obtain ⟨k, rfl, hk96, _⟩ := isP_nat hP
  obtain ⟨x1, x2, hx⟩ : ∃ a b : Int, (⟨a, b⟩ : Z2) = pi2 k := ⟨_, _, rfl⟩
  obtain ⟨o1, o2, ho⟩ : ∃ a b : Int, (⟨a, b⟩ : Z2) = rad2 k n := ⟨_, _, rfl⟩
  rw [radS_ok hP hn, ← ho]
  have hn1 := hn.1; have hn2 := hn.2
  have hd2 : decide (n ≤ 360000000000) = true := decide_eq_true hn2
  have HP := Lib.hid hP
  have HN := Lib.hid hn
  have HX := Lib.hid hx
  have HO := Lib.hid ho
  clear hP hn hx ho
  go_enter Tryz.func12, Tryz.ntmps12
  go_wp2_with fail
  generalize hW : (w.alloc (.cells #[.int .i64 0, .bool false, .slice none 0 0, .bool false, .slice none 0 0] 28)) = ww0
  have hkk : Kept [] (w.alloc (.cells #[.int .i64 0, .bool false, .slice none 0 0, .bool false, .slice none 0 0] 28)) ww0 := by rw [hW]; exact Kept.refl _ _
  have zzA : w.heap.size + 1 = ww0.heap.size := by rw [← hW]; simp
  obtain ⟨⟨nR0, nR1, nR2, nR3, nR4⟩, fR0, fR1, fR2, fR3, fR4⟩ := tp5 hkk (g := w.heap.size) (by simp) (by simp)
  have hk := hkk.peel
  clear hkk hW
  have z0 := hk.size
  have kq1 := Lib.hid hk
  have KT := kq1
  clear hk
  refine (l3Prec_any _ _).mono ?_
  intro e v1 hh; obtain ⟨hh, hk1⟩ := hh; subst hh
  have hk := hk1
  have z1 := hk.size
  have kq2 := Lib.hid hk
  clear hk
  rw [HP.out]
  go_wp2_with fail
  refine (l1In_yes n _ _ _ hn1 hn2).mono ?_
  intro e v2 hh; obtain ⟨hh, hk2⟩ := hh; subst hh
  have hk := hk2
  have z2 := hk.size
  have kq3 := Lib.hid hk
  clear hk
  go_wp2_with fail
  refine (l4Pi_zz k x1 x2 _ HP.out HX.out).mono ?_
  intro e v3 hh; unfold SpanV at hh; obtain ⟨b3, hh⟩ := hh; obtain ⟨c3, hh⟩ := hh; obtain ⟨d3, hh⟩ := hh; obtain ⟨m3, hh, hs3, ht3, hf3, hg3, hk3⟩ := hh; subst hh
  have P1 := Lib.hid hs3
  have GP1 := Lib.hid (hf3.mono (B' := v2.heap.size) (by simp))
  have UP1 := Lib.hid P1.out.lt
  have P2 := Lib.hid ht3
  have GP2 := Lib.hid (hg3.mono (B' := v2.heap.size) (by simp))
  have UP2 := Lib.hid P2.out.lt
  have hk := hk3
  have z3 := hk.size
  have kq4 := Lib.hid hk
  clear hk
  clear hd2
  go_wp2_with fail
  refine (l5Rad_zz k n x1 x2 _ _ _ _ o1 o2 _ P1.out P2.out HP.out HN.out HX.out HO.out).mono ?_
  intro e v4 hh; unfold SpanV at hh; obtain ⟨b4, hh⟩ := hh; obtain ⟨c4, hh⟩ := hh; obtain ⟨d4, hh⟩ := hh; obtain ⟨m4, hh, hs4, ht4, hf4, hg4, hk4⟩ := hh; subst hh
  have S1 := Lib.hid hs4
  have GS1 := Lib.hid (hf4.mono (B' := v3.heap.size) (by simp))
  have US1 := Lib.hid S1.out.lt
  have S2 := Lib.hid ht4
  have GS2 := Lib.hid (hg4.mono (B' := v3.heap.size) (by simp))
  have US2 := Lib.hid S2.out.lt
  have hk := hk4
  have z4 := hk.size
  have kq5 := Lib.hid hk
  clear hk
  have kj1 := Lib.hid (((kq2.out.trans0 kq3.out).trans0 kq4.out).trans0 kq5.out)
  replace fR0 := kf kj1.out nR0 fR0
  replace nR0 := kc kj1.out nR0
  have tR0 := nR0.out
  replace fR1 := kf kj1.out nR1 fR1
  replace nR1 := kc kj1.out nR1
  have tR1 := nR1.out
  replace fR2 := kf kj1.out nR2 fR2
  replace nR2 := kc kj1.out nR2
  have tR2 := nR2.out
  replace fR3 := kf kj1.out nR3 fR3
  replace nR3 := kc kj1.out nR3
  have tR3 := nR3.out
  replace fR4 := kf kj1.out nR4 fR4
  replace nR4 := kc kj1.out nR4
  have tR4 := nR4.out
  have uR0 := fR0.out
  have uR1 := fR1.out
  have uR2 := fR2.out
  have uR3 := fR3.out
  have uR4 := fR4.out
  go_wp2_with fail
  clear tR0 tR1 tR2 tR3 tR4 uR0 uR1 uR2 uR3 uR4
  generalize hW : (((((v4.setCell ⟨w.heap.size, 0, none⟩ (.int .i64 0)).setCell ⟨w.heap.size, 1, none⟩ (.bool (isNeg o1))).setCell ⟨w.heap.size, 2, none⟩ (.slice b4 (mag o1).length c4)).setCell ⟨w.heap.size, 3, none⟩ (.bool (isNeg o2))).setCell ⟨w.heap.size, 4, none⟩ (.slice d4 (mag o2).length m4)) = ww5
  have hk : Kept [w.heap.size] v4 ww5 := by rw [← hW]; exact (((((Kept.refl _ _).setCell _ _ (by simp)).setCell _ _ (by simp)).setCell _ _ (by simp)).setCell _ _ (by simp)).setCell _ _ (by simp)
  have hfz : ∀ x, ww5.frozen? x = v4.frozen? x := by rw [← hW]; intro x; simp only [World.frozen?_setCell]
  obtain ⟨e0, e1, e2, e3, e4⟩ := st5 hW.symm nR0.out nR1.out nR2.out nR3.out nR4.out
  have z5 := hk.size
  have kq6 := Lib.hid hk
  have hz6 := Lib.hid hfz
  replace fR0 := kz hfz fR0
  replace fR1 := kz hfz fR1
  replace fR2 := kz hfz fR2
  replace fR3 := kz hfz fR3
  replace fR4 := kz hfz fR4
  replace nR0 := Lib.hid e0
  replace nR1 := Lib.hid e1
  replace nR2 := Lib.hid e2
  replace nR3 := Lib.hid e3
  replace nR4 := Lib.hid e4
  clear hk hfz hW e0 e1 e2 e3 e4
  have e0 := nR0.out
  have e1 := nR1.out
  have e2 := nR2.out
  have e3 := nR3.out
  have e4 := nR4.out
  refine bodyPost_ret (v := .agg #[.int .i64 0, .bool (isNeg o1), .slice b4 (mag o1).length c4, .bool (isNeg o2), .slice d4 (mag o2).length m4]) (by simp [results, Tryz.results12, go_sem, e0, e1, e2, e3, e4]) rfl ?_
  replace KT := Lib.hid (KT.out.trans0 kj1.out)
  replace KT := Lib.hid (KT.out.trans kq6.out (fun x hx hlt => by simp at hx; omega))
  replace S1 := Lib.hid (S1.out.kept kq6.out (fun hn y hy hm => by have h9 := GS1.out hn y hy; simp at hm; omega))
  replace S2 := Lib.hid (S2.out.kept kq6.out (fun hn y hy hm => by have h9 := GS2.out hn y hy; simp at hm; omega))
  exact ⟨_, _, _, _, rfl, S1.out, S2.out, GS1.out.mono (by omega), GS2.out.mono (by omega), KT.out⟩
 ·rw [show radS P n = noSpan 3 from if_neg hg]
  by_cases hP : isP P = true
  ·have hn : ¬ InR n := fun h => hg ⟨hP, h⟩
   have HP := Lib.hid hP
   clear hP hg
   by_cases h1 : n < -360000000000
   ·skip
    clear hn
    go_enter Tryz.func12, Tryz.ntmps12
    go_wp2_with fail
    generalize hW : (w.alloc (.cells #[.int .i64 0, .bool false, .slice none 0 0, .bool false, .slice none 0 0] 28)) = ww0
    have hkk : Kept [] (w.alloc (.cells #[.int .i64 0, .bool false, .slice none 0 0, .bool false, .slice none 0 0] 28)) ww0 := by rw [hW]; exact Kept.refl _ _
    have zzA : w.heap.size + 1 = ww0.heap.size := by rw [← hW]; simp
    obtain ⟨⟨nR0, nR1, nR2, nR3, nR4⟩, fR0, fR1, fR2, fR3, fR4⟩ := tp5 hkk (g := w.heap.size) (by simp) (by simp)
    have hk := hkk.peel
    clear hkk hW
    have z0 := hk.size
    have kq1 := Lib.hid hk
    have KT := kq1
    clear hk
    refine (l3Prec_any _ _).mono ?_
    intro e v1 hh; obtain ⟨hh, hk1⟩ := hh; subst hh
    have hk := hk1
    have z1 := hk.size
    have kq2 := Lib.hid hk
    clear hk
    rw [HP.out]
    go_wp2_with fail
    refine (l1In_no1 n _ _ _ h1).mono ?_
    intro e v2 hh; obtain ⟨hh, hk2⟩ := hh; subst hh
    have hk := hk2
    have z2 := hk.size
    have kq3 := Lib.hid hk
    clear hk
    have kj1 := Lib.hid (kq2.out.trans0 kq3.out)
    replace fR0 := kf kj1.out nR0 fR0
    replace nR0 := kc kj1.out nR0
    have tR0 := nR0.out
    replace fR1 := kf kj1.out nR1 fR1
    replace nR1 := kc kj1.out nR1
    have tR1 := nR1.out
    replace fR2 := kf kj1.out nR2 fR2
    replace nR2 := kc kj1.out nR2
    have tR2 := nR2.out
    replace fR3 := kf kj1.out nR3 fR3
    replace nR3 := kc kj1.out nR3
    have tR3 := nR3.out
    replace fR4 := kf kj1.out nR4 fR4
    replace nR4 := kc kj1.out nR4
    have tR4 := nR4.out
    have uR0 := fR0.out
    have uR1 := fR1.out
    have uR2 := fR2.out
    have uR3 := fR3.out
    have uR4 := fR4.out
    go_wp2_with fail
    clear tR0 tR1 tR2 tR3 tR4 uR0 uR1 uR2 uR3 uR4
    generalize hW : (((((v2.setCell ⟨w.heap.size, 0, none⟩ (.int .i64 3)).setCell ⟨w.heap.size, 1, none⟩ (.bool false)).setCell ⟨w.heap.size, 2, none⟩ (.slice none 0 0)).setCell ⟨w.heap.size, 3, none⟩ (.bool false)).setCell ⟨w.heap.size, 4, none⟩ (.slice none 0 0)) = ww3
    have hk : Kept [w.heap.size] v2 ww3 := by rw [← hW]; exact (((((Kept.refl _ _).setCell _ _ (by simp)).setCell _ _ (by simp)).setCell _ _ (by simp)).setCell _ _ (by simp)).setCell _ _ (by simp)
    have hfz : ∀ x, ww3.frozen? x = v2.frozen? x := by rw [← hW]; intro x; simp only [World.frozen?_setCell]
    obtain ⟨e0, e1, e2, e3, e4⟩ := st5 hW.symm nR0.out nR1.out nR2.out nR3.out nR4.out
    have z3 := hk.size
    have kq4 := Lib.hid hk
    have hz4 := Lib.hid hfz
    replace fR0 := kz hfz fR0
    replace fR1 := kz hfz fR1
    replace fR2 := kz hfz fR2
    replace fR3 := kz hfz fR3
    replace fR4 := kz hfz fR4
    replace nR0 := Lib.hid e0
    replace nR1 := Lib.hid e1
    replace nR2 := Lib.hid e2
    replace nR3 := Lib.hid e3
    replace nR4 := Lib.hid e4
    clear hk hfz hW e0 e1 e2 e3 e4
    have e0 := nR0.out
    have e1 := nR1.out
    have e2 := nR2.out
    have e3 := nR3.out
    have e4 := nR4.out
    refine bodyPost_ret (v := .agg #[.int .i64 3, .bool false, .slice none 0 0, .bool false, .slice none 0 0]) (by simp [results, Tryz.results12, go_sem, e0, e1, e2, e3, e4]) rfl ?_
    replace KT := Lib.hid (KT.out.trans0 kj1.out)
    replace KT := Lib.hid (KT.out.trans kq4.out (fun x hx hlt => by simp at hx; omega))
    exact spanM_no KT.out
   ·have h2 : 360000000000 < n := by unfold InR at hn; omega
    have hd2 : decide (n ≤ 360000000000) = false := decide_eq_false (by omega)
    clear hn
    go_enter Tryz.func12, Tryz.ntmps12
    go_wp2_with fail
    generalize hW : (w.alloc (.cells #[.int .i64 0, .bool false, .slice none 0 0, .bool false, .slice none 0 0] 28)) = ww0
    have hkk : Kept [] (w.alloc (.cells #[.int .i64 0, .bool false, .slice none 0 0, .bool false, .slice none 0 0] 28)) ww0 := by rw [hW]; exact Kept.refl _ _
    have zzA : w.heap.size + 1 = ww0.heap.size := by rw [← hW]; simp
    obtain ⟨⟨nR0, nR1, nR2, nR3, nR4⟩, fR0, fR1, fR2, fR3, fR4⟩ := tp5 hkk (g := w.heap.size) (by simp) (by simp)
    have hk := hkk.peel
    clear hkk hW
    have z0 := hk.size
    have kq1 := Lib.hid hk
    have KT := kq1
    clear hk
    refine (l3Prec_any _ _).mono ?_
    intro e v1 hh; obtain ⟨hh, hk1⟩ := hh; subst hh
    have hk := hk1
    have z1 := hk.size
    have kq2 := Lib.hid hk
    clear hk
    rw [HP.out]
    go_wp2_with fail
    refine (l1In_no2 n _ _ _ (by omega) h2).mono ?_
    intro e v2 hh; obtain ⟨hh, hk2⟩ := hh; subst hh
    have hk := hk2
    have z2 := hk.size
    have kq3 := Lib.hid hk
    clear hk
    have kj1 := Lib.hid (kq2.out.trans0 kq3.out)
    replace fR0 := kf kj1.out nR0 fR0
    replace nR0 := kc kj1.out nR0
    have tR0 := nR0.out
    replace fR1 := kf kj1.out nR1 fR1
    replace nR1 := kc kj1.out nR1
    have tR1 := nR1.out
    replace fR2 := kf kj1.out nR2 fR2
    replace nR2 := kc kj1.out nR2
    have tR2 := nR2.out
    replace fR3 := kf kj1.out nR3 fR3
    replace nR3 := kc kj1.out nR3
    have tR3 := nR3.out
    replace fR4 := kf kj1.out nR4 fR4
    replace nR4 := kc kj1.out nR4
    have tR4 := nR4.out
    have uR0 := fR0.out
    have uR1 := fR1.out
    have uR2 := fR2.out
    have uR3 := fR3.out
    have uR4 := fR4.out
    go_wp2_with fail
    clear tR0 tR1 tR2 tR3 tR4 uR0 uR1 uR2 uR3 uR4
    generalize hW : (((((v2.setCell ⟨w.heap.size, 0, none⟩ (.int .i64 3)).setCell ⟨w.heap.size, 1, none⟩ (.bool false)).setCell ⟨w.heap.size, 2, none⟩ (.slice none 0 0)).setCell ⟨w.heap.size, 3, none⟩ (.bool false)).setCell ⟨w.heap.size, 4, none⟩ (.slice none 0 0)) = ww3
    have hk : Kept [w.heap.size] v2 ww3 := by rw [← hW]; exact (((((Kept.refl _ _).setCell _ _ (by simp)).setCell _ _ (by simp)).setCell _ _ (by simp)).setCell _ _ (by simp)).setCell _ _ (by simp)
    have hfz : ∀ x, ww3.frozen? x = v2.frozen? x := by rw [← hW]; intro x; simp only [World.frozen?_setCell]
    obtain ⟨e0, e1, e2, e3, e4⟩ := st5 hW.symm nR0.out nR1.out nR2.out nR3.out nR4.out
    have z3 := hk.size
    have kq4 := Lib.hid hk
    have hz4 := Lib.hid hfz
    replace fR0 := kz hfz fR0
    replace fR1 := kz hfz fR1
    replace fR2 := kz hfz fR2
    replace fR3 := kz hfz fR3
    replace fR4 := kz hfz fR4
    replace nR0 := Lib.hid e0
    replace nR1 := Lib.hid e1
    replace nR2 := Lib.hid e2
    replace nR3 := Lib.hid e3
    replace nR4 := Lib.hid e4
    clear hk hfz hW e0 e1 e2 e3 e4
    have e0 := nR0.out
    have e1 := nR1.out
    have e2 := nR2.out
    have e3 := nR3.out
    have e4 := nR4.out
    refine bodyPost_ret (v := .agg #[.int .i64 3, .bool false, .slice none 0 0, .bool false, .slice none 0 0]) (by simp [results, Tryz.results12, go_sem, e0, e1, e2, e3, e4]) rfl ?_
    replace KT := Lib.hid (KT.out.trans0 kj1.out)
    replace KT := Lib.hid (KT.out.trans kq4.out (fun x hx hlt => by simp at hx; omega))
    exact spanM_no KT.out
  ·have HP := Lib.hid (show isP P = false by simpa using hP)
   clear hP hg
   go_enter Tryz.func12, Tryz.ntmps12
   go_wp2_with fail
   generalize hW : (w.alloc (.cells #[.int .i64 0, .bool false, .slice none 0 0, .bool false, .slice none 0 0] 28)) = ww0
   have hkk : Kept [] (w.alloc (.cells #[.int .i64 0, .bool false, .slice none 0 0, .bool false, .slice none 0 0] 28)) ww0 := by rw [hW]; exact Kept.refl _ _
   have zzA : w.heap.size + 1 = ww0.heap.size := by rw [← hW]; simp
   obtain ⟨⟨nR0, nR1, nR2, nR3, nR4⟩, fR0, fR1, fR2, fR3, fR4⟩ := tp5 hkk (g := w.heap.size) (by simp) (by simp)
   have hk := hkk.peel
   clear hkk hW
   have z0 := hk.size
   have kq1 := Lib.hid hk
   have KT := kq1
   clear hk
   refine (l3Prec_any _ _).mono ?_
   intro e v1 hh; obtain ⟨hh, hk1⟩ := hh; subst hh
   have hk := hk1
   have z1 := hk.size
   have kq2 := Lib.hid hk
   clear hk
   rw [HP.out]
   replace fR0 := kf kq2.out nR0 fR0
   replace nR0 := kc kq2.out nR0
   have tR0 := nR0.out
   replace fR1 := kf kq2.out nR1 fR1
   replace nR1 := kc kq2.out nR1
   have tR1 := nR1.out
   replace fR2 := kf kq2.out nR2 fR2
   replace nR2 := kc kq2.out nR2
   have tR2 := nR2.out
   replace fR3 := kf kq2.out nR3 fR3
   replace nR3 := kc kq2.out nR3
   have tR3 := nR3.out
   replace fR4 := kf kq2.out nR4 fR4
   replace nR4 := kc kq2.out nR4
   have tR4 := nR4.out
   have uR0 := fR0.out
   have uR1 := fR1.out
   have uR2 := fR2.out
   have uR3 := fR3.out
   have uR4 := fR4.out
   go_wp2_with fail
   clear tR0 tR1 tR2 tR3 tR4 uR0 uR1 uR2 uR3 uR4
   generalize hW : (((((v1.setCell ⟨w.heap.size, 0, none⟩ (.int .i64 3)).setCell ⟨w.heap.size, 1, none⟩ (.bool false)).setCell ⟨w.heap.size, 2, none⟩ (.slice none 0 0)).setCell ⟨w.heap.size, 3, none⟩ (.bool false)).setCell ⟨w.heap.size, 4, none⟩ (.slice none 0 0)) = ww2
   have hk : Kept [w.heap.size] v1 ww2 := by rw [← hW]; exact (((((Kept.refl _ _).setCell _ _ (by simp)).setCell _ _ (by simp)).setCell _ _ (by simp)).setCell _ _ (by simp)).setCell _ _ (by simp)
   have hfz : ∀ x, ww2.frozen? x = v1.frozen? x := by rw [← hW]; intro x; simp only [World.frozen?_setCell]
   obtain ⟨e0, e1, e2, e3, e4⟩ := st5 hW.symm nR0.out nR1.out nR2.out nR3.out nR4.out
   have z2 := hk.size
   have kq3 := Lib.hid hk
   have hz3 := Lib.hid hfz
   replace fR0 := kz hfz fR0
   replace fR1 := kz hfz fR1
   replace fR2 := kz hfz fR2
   replace fR3 := kz hfz fR3
   replace fR4 := kz hfz fR4
   replace nR0 := Lib.hid e0
   replace nR1 := Lib.hid e1
   replace nR2 := Lib.hid e2
   replace nR3 := Lib.hid e3
   replace nR4 := Lib.hid e4
   clear hk hfz hW e0 e1 e2 e3 e4
   have e0 := nR0.out
   have e1 := nR1.out
   have e2 := nR2.out
   have e3 := nR3.out
   have e4 := nR4.out
   refine bodyPost_ret (v := .agg #[.int .i64 3, .bool false, .slice none 0 0, .bool false, .slice none 0 0]) (by simp [results, Tryz.results12, go_sem, e0, e1, e2, e3, e4]) rfl ?_
   replace KT := Lib.hid (KT.out.trans0 kq2.out)
   replace KT := Lib.hid (KT.out.trans kq3.out (fun x hx hlt => by simp at hx; omega))
   exact spanM_no KT.out

end Go.Proofs.YtfafjijoeanbhaaGreat
