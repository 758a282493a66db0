/-
  Joined texts.
-/
import Derived.Deep.RegionHeld3
import Derived.Deep.DrawnRows
import Derived.Deep.DeepCutAuto
import Derived.Test.YtfafjijoeanbhaaGreatArcM
import Derived.Test.YtfafjijoeanbhaaGreatArcl4Arc
import Derived.Test.YtfafjijoeanbhaaGreatPlainP
import Derived.Test.YtfafjijoeanbhaaGreatArcA
namespace Go.Proofs.YtfafjijoeanbhaaGreat
open Go.RowKit

attribute [local go_sem ↓] field_big field_span field_end0 field_end1
set_option maxHeartbeats 4000000 in
set_option maxRecDepth 20000 in
theorem l4Times_zz (n : Int) (x1 x2 : Int) (a b : Option Addr) (c d : Nat) (o1 o2 : Int) (w : World) (h1 : Sl w a (mag x1).length c (mag x1)) (h2 : Sl w b (mag x2).length d (mag x2)) (hn1 : -9223372036854775808 ≤ n) (hn2 : n ≤ 9223372036854775807) (lx1 : (mag x1).length ≤ 20) (lx2 : (mag x2).length ≤ 20) (hz : (⟨o1, o2⟩ : Z2) = times2 n ⟨x1, x2⟩) :
  Calls Tryz.prog 93 #[.agg #[.bool (isNeg x1), .slice a (mag x1).length c, .bool (isNeg x2), .slice b (mag x2).length d], .int .i64 n] w (SpanV w o1 o2) := by
 have ln : (mag n).length ≤ 20 := small_len (by omega) (by omega)
 have hz1 := congrArg Z2.lo hz
 have hz2 := congrArg Z2.hi hz
 have H1 := Lib.hid h1
 have H2 := Lib.hid h2
 have F1 := Lib.hid h1.lt
 have F2 := Lib.hid h2.lt
 have HZ1 := Lib.hid hz1
 have HZ2 := Lib.hid hz2
 clear h1 h2 hz hz1 hz2
 go_enter Tryz.func93, Tryz.ntmps93
 go_upto_region 1 with fail
 generalize hW : ((w.alloc (.cells #[.bool (isNeg x1), .slice a (mag x1).length c, .bool (isNeg x2), .slice b (mag x2).length d] 26)).alloc (.cells #[.bool false, .slice none 0 0, .bool false, .slice none 0 0] 26)) = ww0
 have hkk : Kept [] ((w.alloc (.cells #[.bool (isNeg x1), .slice a (mag x1).length c, .bool (isNeg x2), .slice b (mag x2).length d] 26)).alloc (.cells #[.bool false, .slice none 0 0, .bool false, .slice none 0 0] 26)) ww0 := by rw [hW]; exact Kept.refl _ _
 have zzA : w.heap.size + 1 + 1 = ww0.heap.size := by rw [← hW]; simp
 obtain ⟨⟨nA0, nA1, nA2, nA3⟩, _⟩ := tp4 hkk.peel (g := w.heap.size) (by simp) (by simp)
 obtain ⟨⟨nR0, nR1, nR2, nR3⟩, fR0, fR1, fR2, fR3⟩ := tp4 hkk (g := w.heap.size + 1) (by simp) (by simp)
 have hk := hkk.peel.peel
 clear hkk hW
 have z0 := hk.size
 have kq1 := Lib.hid hk
 have KT := kq1
 clear hk
 replace H1 := Lib.hid (H1.out.kept0 KT.out)
 replace H2 := Lib.hid (H2.out.kept0 KT.out)
 have tA0 := nA0.out
 have tA1 := nA1.out
 have tA2 := nA2.out
 have tA3 := nA3.out
 go_region_held3 (fun w' => w'.cell? ⟨w.heap.size, 0, none⟩ = some (.bool (isNeg x1)) ∧ w'.cell? ⟨w.heap.size, 1, none⟩ = some (.slice a (mag x1).length c) ∧ w'.cell? ⟨w.heap.size, 2, none⟩ = some (.bool (isNeg x2)) ∧ w'.cell? ⟨w.heap.size, 3, none⟩ = some (.slice b (mag x2).length d) ∧ Hid (Kept [w.heap.size + 1] ww0 w'))
  ((go_split_ands; (try refine ⟨?_, ?_, ?_, ?_, ?_⟩) <;> with_reducible first | exact Kept.set4 (by assumption) | exact cell_set4 (by assumption) (by simp <;> omega) | exact Lib.hid ((Kept.refl _ _).drew) | exact drew_cell (by assumption) | exact Kept.allocH (by assumption) | exact alloc_cell (by assumption) | exact Lib.hid (Kept.trans0 (Hid.out (by assumption)) (by assumption)) | exact Kept.cell (by assumption) (by assumption) (by simp)))
  (first
   | (have g9 := hk3; clear g9; go_at_call 108; go_split_ands; refine (l2Mul_n x2 n o2 _ _ _ _ _ (H2.out.kept0 (((((Kept.refl [] _).drew).trans0 hk1).trans0 hk2).trans0 hk3)) (hs3.kept0 (Kept.refl [] _)) lx2 ln HZ2.out).mono ?_; intro e v4 hh; unfold BigV at hh; obtain ⟨b4, hh⟩ := hh; obtain ⟨c4, hh, hs4, hf4, hk4⟩ := hh; subst hh; have hkr := ((((((Kept.refl [] ww0).drew).trans0 hk1).trans0 hk2).trans0 hk3).trans0 hk4); have rg0 := hkr.cell (p := ⟨w.heap.size + 1, 0, none⟩) nR0.out (by simp); have rg1 := hkr.cell (p := ⟨w.heap.size + 1, 1, none⟩) nR1.out (by simp); have rg2 := hkr.cell (p := ⟨w.heap.size + 1, 2, none⟩) nR2.out (by simp); have rg3 := hkr.cell (p := ⟨w.heap.size + 1, 3, none⟩) nR3.out (by simp); have ru0 := hkr.free' (p := ⟨w.heap.size + 1, 0, none⟩) nR0.out fR0.out (by simp); have ru1 := hkr.free' (p := ⟨w.heap.size + 1, 1, none⟩) nR1.out fR1.out (by simp); have ru2 := hkr.free' (p := ⟨w.heap.size + 1, 2, none⟩) nR2.out fR2.out (by simp); have ru3 := hkr.free' (p := ⟨w.heap.size + 1, 3, none⟩) nR3.out fR3.out (by simp))
   | (have g9 := hk2; clear g9; go_at_call 90; go_split_ands; refine (sBigOf_any n _ (by omega) (by omega)).mono ?_; intro e v3 hh; unfold BigV at hh; obtain ⟨b3, hh⟩ := hh; obtain ⟨c3, hh, hs3, hf3, hk3⟩ := hh; subst hh)
   | (have g9 := hk1; clear g9; go_at_call 108; go_split_ands; refine (l2Mul_n x1 n o1 _ _ _ _ _ (H1.out.kept0 (((Kept.refl [] _).drew).trans0 hk1)) (hs1.kept0 (Kept.refl [] _)) lx1 ln HZ1.out).mono ?_; intro e v2 hh; unfold BigV at hh; obtain ⟨b2, hh⟩ := hh; obtain ⟨c2, hh, hs2, hf2, hk2⟩ := hh; subst hh)
   | (go_at_call 90; go_split_ands; refine (sBigOf_any n _ (by omega) (by omega)).mono ?_; intro e v1 hh; unfold BigV at hh; obtain ⟨b1, hh⟩ := hh; obtain ⟨c1, hh, hs1, hf1, hk1⟩ := hh; subst hh))
 clear tA0 tA1 tA2 tA3
 have zk1 := hk1.size
 have zk2 := hk2.size
 have zk3 := hk3.size
 have zk4 := hk4.size
 simp only [World.size_drew] at zk1 hf1
 have S1 := Lib.hid (hs2.kept0 (hk3.trans0 hk4))
 have GS1 := Lib.hid (hf2.mono (B' := ww0.heap.size) (by omega))
 have US1 := Lib.hid S1.out.lt
 have S2 := Lib.hid (hs4.kept0 (Kept.refl [] _))
 have GS2 := Lib.hid (hf4.mono (B' := ww0.heap.size) (by omega))
 have US2 := Lib.hid S2.out.lt
 have hk := hkr
 clear hkr hk1 hk2 hk3 hk4
 have z1 := hk.size
 have kq2 := Lib.hid hk
 clear hk
 generalize hW : ((((v4.setCell ⟨w.heap.size + 1, 0, none⟩ (.bool (isNeg o1))).setCell ⟨w.heap.size + 1, 1, none⟩ (.slice b2 (mag o1).length c2)).setCell ⟨w.heap.size + 1, 2, none⟩ (.bool (isNeg o2))).setCell ⟨w.heap.size + 1, 3, none⟩ (.slice b4 (mag o2).length c4)) = ww2
 have hk : Kept [w.heap.size + 1] v4 ww2 := by rw [← hW]; exact ((((Kept.refl _ _).setCell _ _ (by simp)).setCell _ _ (by simp)).setCell _ _ (by simp)).setCell _ _ (by simp)
 have hfz : ∀ x, ww2.frozen? x = v4.frozen? x := by rw [← hW]; intro x; simp only [World.frozen?_setCell]
 replace fR0 := kf kq2.out nR0 fR0
 replace nR0 := kc kq2.out nR0
 have e0 : ww2.cell? ⟨w.heap.size + 1, 0, none⟩ = some (.bool (isNeg o1)) := by rw [← hW]; rw [World.cell?_setCell_other _ _ _ _ (by simp), World.cell?_setCell_other _ _ _ _ (by simp), World.cell?_setCell_other _ _ _ _ (by simp)]; exact World.cell?_setCell_same _ _ _ (by exact nR0.out)
 replace fR1 := kf kq2.out nR1 fR1
 replace nR1 := kc kq2.out nR1
 have e1 : ww2.cell? ⟨w.heap.size + 1, 1, none⟩ = some (.slice b2 (mag o1).length c2) := by rw [← hW]; rw [World.cell?_setCell_other _ _ _ _ (by simp), World.cell?_setCell_other _ _ _ _ (by simp)]; exact World.cell?_setCell_same _ _ _ (by rw [World.cell?_setCell_other _ _ _ _ (by simp)]; exact nR1.out)
 replace fR2 := kf kq2.out nR2 fR2
 replace nR2 := kc kq2.out nR2
 have e2 : ww2.cell? ⟨w.heap.size + 1, 2, none⟩ = some (.bool (isNeg o2)) := by rw [← hW]; rw [World.cell?_setCell_other _ _ _ _ (by simp)]; exact World.cell?_setCell_same _ _ _ (by rw [World.cell?_setCell_other _ _ _ _ (by simp), World.cell?_setCell_other _ _ _ _ (by simp)]; exact nR2.out)
 replace fR3 := kf kq2.out nR3 fR3
 replace nR3 := kc kq2.out nR3
 have e3 : ww2.cell? ⟨w.heap.size + 1, 3, none⟩ = some (.slice b4 (mag o2).length c4) := by rw [← hW]; exact World.cell?_setCell_same _ _ _ (by rw [World.cell?_setCell_other _ _ _ _ (by simp), World.cell?_setCell_other _ _ _ _ (by simp), World.cell?_setCell_other _ _ _ _ (by simp)]; exact nR3.out)
 have z2 := hk.size
 have kq3 := Lib.hid hk
 have hz3 := Lib.hid hfz
 replace fR0 := kz hfz fR0
 replace fR1 := kz hfz fR1
 replace fR2 := kz hfz fR2
 replace fR3 := kz hfz fR3
 replace nR0 := Lib.hid e0
 replace nR1 := Lib.hid e1
 replace nR2 := Lib.hid e2
 replace nR3 := Lib.hid e3
 clear hk hfz hW e0 e1 e2 e3
 go_wp2_with fail
 have e0 := nR0.out
 have e1 := nR1.out
 have e2 := nR2.out
 have e3 := nR3.out
 refine bodyPost_ret (v := .agg #[.bool (isNeg o1), .slice b2 (mag o1).length c2, .bool (isNeg o2), .slice b4 (mag o2).length c4]) (by simp [results, Tryz.results93, go_sem, e0, e1, e2, e3]) rfl ?_
 replace KT := Lib.hid (KT.out.trans0 kq2.out)
 replace KT := Lib.hid (KT.out.trans kq3.out (fun x hx hlt => by simp at hx; omega))
 replace S1 := Lib.hid (S1.out.kept kq3.out (fun hn y hy hm => by have h9 := GS1.out hn y hy; simp at hm; omega))
 replace S2 := Lib.hid (S2.out.kept kq3.out (fun hn y hy hm => by have h9 := GS2.out hn y hy; simp at hm; omega))
 exact ⟨_, _, _, _, rfl, S1.out, S2.out, GS1.out.mono (by omega), GS2.out.mono (by omega), KT.out⟩

end Go.Proofs.YtfafjijoeanbhaaGreat
namespace Go.Proofs.YtfafjijoeanbhaaGreat
open Go.RowKit

attribute [local go_sem ↓] field_big field_span field_end0 field_end1
set_option maxHeartbeats 8000000 in
set_option maxRecDepth 20000 in
theorem l4Pi_zz (k : Nat) (o1 o2 : Int) (w : World) (hP : isP (k : Int) = true) (hz : (⟨o1, o2⟩ : Z2) = pi2 k) :
  Calls Tryz.prog 45 #[.int .i64 (k : Int)] w (SpanV w o1 o2) := by
 have hk96 : k ≤ 96 := by rcases isP_cases hP with h | h | h <;> omega
 obtain ⟨r1, r2, hr⟩ : ∃ a b : Int, (⟨a, b⟩ : Z2) = rat2 k 1 5 := ⟨_, _, rfl⟩
 have inr : In2 (p2 k) ⟨r1, r2⟩ := by rw [hr]; exact rat_five k
 obtain ⟨u1, u2, hu⟩ : ∃ a b : Int, (⟨a, b⟩ : Z2) = rat2 k 1 239 := ⟨_, _, rfl⟩
 have inu : In2 (p2 k) ⟨u1, u2⟩ := by rw [hu]; exact rat_239 k
 obtain ⟨aa1, aa2, haa⟩ : ∃ a b : Int, (⟨a, b⟩ : Z2) = arc2 k ⟨r1, r2⟩ := ⟨_, _, rfl⟩
 have faa : Fit2 ⟨aa1, aa2⟩ := by rw [haa, hr]; exact (piA_in hk96).fitU hk96 (by omega)
 obtain ⟨ba1, ba2, hba⟩ : ∃ a b : Int, (⟨a, b⟩ : Z2) = arc2 k ⟨u1, u2⟩ := ⟨_, _, rfl⟩
 have fba : Fit2 ⟨ba1, ba2⟩ := by rw [hba, hu]; exact (piB_in hk96).fitU hk96 (by omega)
 obtain ⟨at1, at2, hat⟩ : ∃ a b : Int, (⟨a, b⟩ : Z2) = times2 16 ⟨aa1, aa2⟩ := ⟨_, _, rfl⟩
 have fat : Fit2 ⟨at1, at2⟩ := by rw [hat, haa, hr]; exact (tA_in hk96).fitU hk96 (by omega)
 obtain ⟨bt1, bt2, hbt⟩ : ∃ a b : Int, (⟨a, b⟩ : Z2) = times2 4 ⟨ba1, ba2⟩ := ⟨_, _, rfl⟩
 have fbt : Fit2 ⟨bt1, bt2⟩ := by rw [hbt, hba, hu]; exact (tB_in hk96).fitU hk96 (by omega)
 have ho9 : (⟨o1, o2⟩ : Z2) = sub2 ⟨at1, at2⟩ ⟨bt1, bt2⟩ := by rw [hz, hat, hbt, haa, hba, hr, hu]; rfl
 have fo : Fit2 ⟨o1, o2⟩ := by rw [hz]; exact (pi2_in hk96).fitU hk96 (by omega)
 have HP := Lib.hid hP
 have HR := Lib.hid hr
 have HU := Lib.hid hu
 have INR := Lib.hid inr
 have INU := Lib.hid inu
 have FR9 := Lib.hid (rat_fit inr hk96)
 have FU9 := Lib.hid (rat_fit inu hk96)
 have HAA := Lib.hid haa
 have HBA := Lib.hid hba
 have FAA := Lib.hid faa
 have FBA := Lib.hid fba
 have HAT := Lib.hid hat
 have HBT := Lib.hid hbt
 have FAT := Lib.hid fat
 have FBT := Lib.hid fbt
 have HO9 := Lib.hid ho9
 have FO := Lib.hid fo
 clear hP hr hu inr inu haa hba faa fba hat hbt fat fbt ho9 fo hz
 go_enter Tryz.func45, Tryz.ntmps45
 go_upto_region 1 with fail
 generalize hW : (w.alloc (.cells #[.bool false, .slice none 0 0, .bool false, .slice none 0 0] 26)) = ww0
 have hkk : Kept [] (w.alloc (.cells #[.bool false, .slice none 0 0, .bool false, .slice none 0 0] 26)) ww0 := by rw [hW]; exact Kept.refl _ _
 have zzA : w.heap.size + 1 = ww0.heap.size := by rw [← hW]; simp
 obtain ⟨⟨nR0, nR1, nR2, nR3⟩, fR0, fR1, fR2, fR3⟩ := tp4 hkk (g := w.heap.size) (by simp) (by simp)
 have hk := hkk.peel
 clear hkk hW
 have z0 := hk.size
 have kq1 := Lib.hid hk
 have KT := kq1
 clear hk
 go_wp2_with fail
 refine (sBigOf_any 1 _ (by omega) (by omega)).mono ?_
 intro e v1 hh; unfold BigV at hh; obtain ⟨b1, hh⟩ := hh; obtain ⟨c1, hh, hs1, hf1, hk1⟩ := hh; subst hh
 have B1 := Lib.hid hs1
 have GB1 := Lib.hid (hf1.mono (B' := ww0.heap.size) (by simp))
 have UB1 := Lib.hid B1.out.lt
 have hk := hk1
 have z1 := hk.size
 have kq2 := Lib.hid hk
 clear hk
 go_wp2_with fail
 refine (sBigOf_any 5 _ (by omega) (by omega)).mono ?_
 intro e v2 hh; unfold BigV at hh; obtain ⟨b2, hh⟩ := hh; obtain ⟨c2, hh, hs2, hf2, hk2⟩ := hh; subst hh
 have B2 := Lib.hid hs2
 have GB2 := Lib.hid (hf2.mono (B' := v1.heap.size) (by simp))
 have UB2 := Lib.hid B2.out.lt
 have hk := hk2
 have z2 := hk.size
 have kq3 := Lib.hid hk
 clear hk
 go_wp2_with fail
 replace B1 := Lib.hid (B1.out.kept0 kq3.out)
 refine (l3Rat_zz k 1 5 _ _ _ _ r1 r2 _ B1.out B2.out HP.out (one_len (by decide) (by decide)) (one_len (by decide) (by decide)) (by decide) HR.out).mono ?_
 intro e v3 hh; unfold SpanV at hh; obtain ⟨b3, hh⟩ := hh; obtain ⟨c3, hh⟩ := hh; obtain ⟨d3, hh⟩ := hh; obtain ⟨m3, hh, hs3, ht3, hf3, hg3, hk3⟩ := hh; subst hh
 have C1 := Lib.hid hs3
 have GC1 := Lib.hid (hf3.mono (B' := v2.heap.size) (by simp))
 have UC1 := Lib.hid C1.out.lt
 have C2 := Lib.hid ht3
 have GC2 := Lib.hid (hg3.mono (B' := v2.heap.size) (by simp))
 have UC2 := Lib.hid C2.out.lt
 have hk := hk3
 have z3 := hk.size
 have kq4 := Lib.hid hk
 clear hk
 clear B1 B2
 go_wp2_with fail
 refine (l4Arc_zz k r1 r2 _ _ _ _ aa1 aa2 _ C1.out C2.out HP.out INR.out HAA.out).mono ?_
 intro e v4 hh; unfold SpanV at hh; obtain ⟨b4, hh⟩ := hh; obtain ⟨c4, hh⟩ := hh; obtain ⟨d4, hh⟩ := hh; obtain ⟨m4, hh, hs4, ht4, hf4, hg4, hk4⟩ := hh; subst hh
 have AS1 := Lib.hid hs4
 have GAS1 := Lib.hid (hf4.mono (B' := v3.heap.size) (by simp))
 have UAS1 := Lib.hid AS1.out.lt
 have AS2 := Lib.hid ht4
 have GAS2 := Lib.hid (hg4.mono (B' := v3.heap.size) (by simp))
 have UAS2 := Lib.hid AS2.out.lt
 have hk := hk4
 have z4 := hk.size
 have kq5 := Lib.hid hk
 clear hk
 clear C1 C2
 go_upto_region 2 with fail
 generalize hW : (v4.alloc (.cells #[.bool (isNeg aa1), .slice b4 (mag aa1).length c4, .bool (isNeg aa2), .slice d4 (mag aa2).length m4] 26)) = ww5
 have hk : Kept [] v4 ww5 := by rw [← hW]; exact (Kept.refl [] _).alloc _
 have zzT : v4.heap.size + 1 = ww5.heap.size := by rw [← hW]; simp
 have nT0 := Lib.hid (show ww5.cell? ⟨v4.heap.size, 0, none⟩ = some (.bool (isNeg aa1)) by rw [← hW, World.cell?_alloc_new]; rfl)
 have fT0 := Lib.hid (show ww5.frozen? ⟨v4.heap.size, 0, none⟩ = false by rw [← hW]; exact frozen_of_row _ _ _ _ _ (heap_alloc_new _ _))
 have nT1 := Lib.hid (show ww5.cell? ⟨v4.heap.size, 1, none⟩ = some (.slice b4 (mag aa1).length c4) by rw [← hW, World.cell?_alloc_new]; rfl)
 have fT1 := Lib.hid (show ww5.frozen? ⟨v4.heap.size, 1, none⟩ = false by rw [← hW]; exact frozen_of_row _ _ _ _ _ (heap_alloc_new _ _))
 have nT2 := Lib.hid (show ww5.cell? ⟨v4.heap.size, 2, none⟩ = some (.bool (isNeg aa2)) by rw [← hW, World.cell?_alloc_new]; rfl)
 have fT2 := Lib.hid (show ww5.frozen? ⟨v4.heap.size, 2, none⟩ = false by rw [← hW]; exact frozen_of_row _ _ _ _ _ (heap_alloc_new _ _))
 have nT3 := Lib.hid (show ww5.cell? ⟨v4.heap.size, 3, none⟩ = some (.slice d4 (mag aa2).length m4) by rw [← hW, World.cell?_alloc_new]; rfl)
 have fT3 := Lib.hid (show ww5.frozen? ⟨v4.heap.size, 3, none⟩ = false by rw [← hW]; exact frozen_of_row _ _ _ _ _ (heap_alloc_new _ _))
 clear hW
 have z5 := hk.size
 have kq6 := Lib.hid hk
 clear hk
 go_wp2_with fail
 refine (sBigOf_any 1 _ (by omega) (by omega)).mono ?_
 intro e v5 hh; unfold BigV at hh; obtain ⟨b5, hh⟩ := hh; obtain ⟨c5, hh, hs5, hf5, hk5⟩ := hh; subst hh
 have B1 := Lib.hid hs5
 have GB1 := Lib.hid (hf5.mono (B' := ww5.heap.size) (by simp))
 have UB1 := Lib.hid B1.out.lt
 have hk := hk5
 have z6 := hk.size
 have kq7 := Lib.hid hk
 clear hk
 go_wp2_with fail
 refine (sBigOf_any 239 _ (by omega) (by omega)).mono ?_
 intro e v6 hh; unfold BigV at hh; obtain ⟨b6, hh⟩ := hh; obtain ⟨c6, hh, hs6, hf6, hk6⟩ := hh; subst hh
 have B2 := Lib.hid hs6
 have GB2 := Lib.hid (hf6.mono (B' := v5.heap.size) (by simp))
 have UB2 := Lib.hid B2.out.lt
 have hk := hk6
 have z7 := hk.size
 have kq8 := Lib.hid hk
 clear hk
 go_wp2_with fail
 replace B1 := Lib.hid (B1.out.kept0 kq8.out)
 refine (l3Rat_zz k 1 239 _ _ _ _ u1 u2 _ B1.out B2.out HP.out (one_len (by decide) (by decide)) (one_len (by decide) (by decide)) (by decide) HU.out).mono ?_
 intro e v7 hh; unfold SpanV at hh; obtain ⟨b7, hh⟩ := hh; obtain ⟨c7, hh⟩ := hh; obtain ⟨d7, hh⟩ := hh; obtain ⟨m7, hh, hs7, ht7, hf7, hg7, hk7⟩ := hh; subst hh
 have C1 := Lib.hid hs7
 have GC1 := Lib.hid (hf7.mono (B' := v6.heap.size) (by simp))
 have UC1 := Lib.hid C1.out.lt
 have C2 := Lib.hid ht7
 have GC2 := Lib.hid (hg7.mono (B' := v6.heap.size) (by simp))
 have UC2 := Lib.hid C2.out.lt
 have hk := hk7
 have z8 := hk.size
 have kq9 := Lib.hid hk
 clear hk
 clear B1 B2
 go_wp2_with fail
 refine (l4Arc_zz k u1 u2 _ _ _ _ ba1 ba2 _ C1.out C2.out HP.out INU.out HBA.out).mono ?_
 intro e v8 hh; unfold SpanV at hh; obtain ⟨b8, hh⟩ := hh; obtain ⟨c8, hh⟩ := hh; obtain ⟨d8, hh⟩ := hh; obtain ⟨m8, hh, hs8, ht8, hf8, hg8, hk8⟩ := hh; subst hh
 have BS1 := Lib.hid hs8
 have GBS1 := Lib.hid (hf8.mono (B' := v7.heap.size) (by simp))
 have UBS1 := Lib.hid BS1.out.lt
 have BS2 := Lib.hid ht8
 have GBS2 := Lib.hid (hg8.mono (B' := v7.heap.size) (by simp))
 have UBS2 := Lib.hid BS2.out.lt
 have hk := hk8
 have z9 := hk.size
 have kq10 := Lib.hid hk
 clear hk
 clear C1 C2
 go_upto_region 3 with fail
 generalize hW : (v8.alloc (.cells #[.bool (isNeg ba1), .slice b8 (mag ba1).length c8, .bool (isNeg ba2), .slice d8 (mag ba2).length m8] 26)) = ww10
 have hk : Kept [] v8 ww10 := by rw [← hW]; exact (Kept.refl [] _).alloc _
 have zzS : v8.heap.size + 1 = ww10.heap.size := by rw [← hW]; simp
 have nS0 := Lib.hid (show ww10.cell? ⟨v8.heap.size, 0, none⟩ = some (.bool (isNeg ba1)) by rw [← hW, World.cell?_alloc_new]; rfl)
 have fS0 := Lib.hid (show ww10.frozen? ⟨v8.heap.size, 0, none⟩ = false by rw [← hW]; exact frozen_of_row _ _ _ _ _ (heap_alloc_new _ _))
 have nS1 := Lib.hid (show ww10.cell? ⟨v8.heap.size, 1, none⟩ = some (.slice b8 (mag ba1).length c8) by rw [← hW, World.cell?_alloc_new]; rfl)
 have fS1 := Lib.hid (show ww10.frozen? ⟨v8.heap.size, 1, none⟩ = false by rw [← hW]; exact frozen_of_row _ _ _ _ _ (heap_alloc_new _ _))
 have nS2 := Lib.hid (show ww10.cell? ⟨v8.heap.size, 2, none⟩ = some (.bool (isNeg ba2)) by rw [← hW, World.cell?_alloc_new]; rfl)
 have fS2 := Lib.hid (show ww10.frozen? ⟨v8.heap.size, 2, none⟩ = false by rw [← hW]; exact frozen_of_row _ _ _ _ _ (heap_alloc_new _ _))
 have nS3 := Lib.hid (show ww10.cell? ⟨v8.heap.size, 3, none⟩ = some (.slice d8 (mag ba2).length m8) by rw [← hW, World.cell?_alloc_new]; rfl)
 have fS3 := Lib.hid (show ww10.frozen? ⟨v8.heap.size, 3, none⟩ = false by rw [← hW]; exact frozen_of_row _ _ _ _ _ (heap_alloc_new _ _))
 clear hW
 have z10 := hk.size
 have kq11 := Lib.hid hk
 clear hk
 have kj1 := Lib.hid ((((kq7.out.trans0 kq8.out).trans0 kq9.out).trans0 kq10.out).trans0 kq11.out)
 replace fT0 := kf kj1.out nT0 fT0
 replace nT0 := kc kj1.out nT0
 have tT0 := nT0.out
 replace fT1 := kf kj1.out nT1 fT1
 replace nT1 := kc kj1.out nT1
 have tT1 := nT1.out
 replace fT2 := kf kj1.out nT2 fT2
 replace nT2 := kc kj1.out nT2
 have tT2 := nT2.out
 replace fT3 := kf kj1.out nT3 fT3
 replace nT3 := kc kj1.out nT3
 have tT3 := nT3.out
 have tS0 := nS0.out
 have tS1 := nS1.out
 have tS2 := nS2.out
 have tS3 := nS3.out
 have kj2 := Lib.hid (((((((((kq2.out.trans0 kq3.out).trans0 kq4.out).trans0 kq5.out).trans0 kq6.out).trans0 kq7.out).trans0 kq8.out).trans0 kq9.out).trans0 kq10.out).trans0 kq11.out)
 replace fR0 := kf kj2.out nR0 fR0
 replace nR0 := kc kj2.out nR0
 replace fR1 := kf kj2.out nR1 fR1
 replace nR1 := kc kj2.out nR1
 replace fR2 := kf kj2.out nR2 fR2
 replace nR2 := kc kj2.out nR2
 replace fR3 := kf kj2.out nR3 fR3
 replace nR3 := kc kj2.out nR3
 replace KT := Lib.hid (KT.out.trans0 kj2.out)
 have kj3 := Lib.hid (((((kq6.out.trans0 kq7.out).trans0 kq8.out).trans0 kq9.out).trans0 kq10.out).trans0 kq11.out)
 replace AS1 := Lib.hid (AS1.out.kept0 kj3.out)
 replace AS2 := Lib.hid (AS2.out.kept0 kj3.out)
 replace BS1 := Lib.hid (BS1.out.kept0 kq11.out)
 replace BS2 := Lib.hid (BS2.out.kept0 kq11.out)
 go_region_held3 (fun w' => w'.cell? ⟨v4.heap.size, 0, none⟩ = some (.bool (isNeg aa1)) ∧ w'.cell? ⟨v4.heap.size, 1, none⟩ = some (.slice b4 (mag aa1).length c4) ∧ w'.cell? ⟨v4.heap.size, 2, none⟩ = some (.bool (isNeg aa2)) ∧ w'.cell? ⟨v4.heap.size, 3, none⟩ = some (.slice d4 (mag aa2).length m4) ∧ w'.cell? ⟨v8.heap.size, 0, none⟩ = some (.bool (isNeg ba1)) ∧ w'.cell? ⟨v8.heap.size, 1, none⟩ = some (.slice b8 (mag ba1).length c8) ∧ w'.cell? ⟨v8.heap.size, 2, none⟩ = some (.bool (isNeg ba2)) ∧ w'.cell? ⟨v8.heap.size, 3, none⟩ = some (.slice d8 (mag ba2).length m8) ∧ Hid (Kept [w.heap.size] ww10 w'))
  ((go_split_ands; (try refine ⟨?_, ?_, ?_, ?_, ?_, ?_, ?_, ?_, ?_⟩) <;> with_reducible first | exact Kept.set4 (by assumption) | exact cell_set4 (by assumption) (by simp <;> omega) | exact Lib.hid ((Kept.refl _ _).drew) | exact drew_cell (by assumption) | exact Kept.allocH (by assumption) | exact alloc_cell (by assumption) | exact Lib.hid (Kept.trans0 (Hid.out (by assumption)) (by assumption)) | exact Kept.cell (by assumption) (by assumption) (by simp)))
  (first
   | (have g9 := hk10; clear g9; go_at_call 92; go_split_ands; refine (l3Sub_zz at1 at2 _ _ _ _ bt1 bt2 _ _ _ _ o1 o2 _ (hs9.kept0 hk10) (ht9.kept0 hk10) (hs10.kept0 (Kept.refl [] _)) (ht10.kept0 (Kept.refl [] _)) FAT.out FBT.out HO9.out).mono ?_; intro e v11 hh; unfold SpanV at hh; obtain ⟨b11, hh⟩ := hh; obtain ⟨c11, hh⟩ := hh; obtain ⟨d11, hh⟩ := hh; obtain ⟨m11, hh, hs11, ht11, hf11, hg11, hk11⟩ := hh; subst hh; have hkr := (((((Kept.refl [] ww10).drew).trans0 hk9).trans0 hk10).trans0 hk11); have rg0 := hkr.cell (p := ⟨w.heap.size, 0, none⟩) nR0.out (by simp); have rg1 := hkr.cell (p := ⟨w.heap.size, 1, none⟩) nR1.out (by simp); have rg2 := hkr.cell (p := ⟨w.heap.size, 2, none⟩) nR2.out (by simp); have rg3 := hkr.cell (p := ⟨w.heap.size, 3, none⟩) nR3.out (by simp); have ru0 := hkr.free' (p := ⟨w.heap.size, 0, none⟩) nR0.out fR0.out (by simp); have ru1 := hkr.free' (p := ⟨w.heap.size, 1, none⟩) nR1.out fR1.out (by simp); have ru2 := hkr.free' (p := ⟨w.heap.size, 2, none⟩) nR2.out fR2.out (by simp); have ru3 := hkr.free' (p := ⟨w.heap.size, 3, none⟩) nR3.out fR3.out (by simp))
   | (have g9 := hk9; clear g9; go_at_call 93; go_split_ands; refine (l4Times_zz 4 ba1 ba2 _ _ _ _ bt1 bt2 _ (BS1.out.kept0 (((Kept.refl [] _).drew).trans0 hk9)) (BS2.out.kept0 (((Kept.refl [] _).drew).trans0 hk9)) (by omega) (by omega) FBA.out.2.1 FBA.out.2.2 HBT.out).mono ?_; intro e v10 hh; unfold SpanV at hh; obtain ⟨b10, hh⟩ := hh; obtain ⟨c10, hh⟩ := hh; obtain ⟨d10, hh⟩ := hh; obtain ⟨m10, hh, hs10, ht10, hf10, hg10, hk10⟩ := hh; subst hh)
   | (go_at_call 93; go_split_ands; refine (l4Times_zz 16 aa1 aa2 _ _ _ _ at1 at2 _ (AS1.out.kept0 ((Kept.refl [] _).drew)) (AS2.out.kept0 ((Kept.refl [] _).drew)) (by omega) (by omega) FAA.out.2.1 FAA.out.2.2 HAT.out).mono ?_; intro e v9 hh; unfold SpanV at hh; obtain ⟨b9, hh⟩ := hh; obtain ⟨c9, hh⟩ := hh; obtain ⟨d9, hh⟩ := hh; obtain ⟨m9, hh, hs9, ht9, hf9, hg9, hk9⟩ := hh; subst hh))
 clear tT0 tT1 tT2 tT3 tS0 tS1 tS2 tS3
 have zk9 := hk9.size
 have zk10 := hk10.size
 have zk11 := hk11.size
 simp only [World.size_drew] at zk9 hf9 hg9
 have V1 := Lib.hid (hs11.kept0 (Kept.refl [] _))
 have GV1 := Lib.hid (hf11.mono (B' := ww10.heap.size) (by omega))
 have UV1 := Lib.hid V1.out.lt
 have V2 := Lib.hid (ht11.kept0 (Kept.refl [] _))
 have GV2 := Lib.hid (hg11.mono (B' := ww10.heap.size) (by omega))
 have UV2 := Lib.hid V2.out.lt
 have hk := hkr
 clear hkr hk9 hk10 hk11
 have z11 := hk.size
 have kq12 := Lib.hid hk
 clear hk
 generalize hW : ((((v11.setCell ⟨w.heap.size, 0, none⟩ (.bool (isNeg o1))).setCell ⟨w.heap.size, 1, none⟩ (.slice b11 (mag o1).length c11)).setCell ⟨w.heap.size, 2, none⟩ (.bool (isNeg o2))).setCell ⟨w.heap.size, 3, none⟩ (.slice d11 (mag o2).length m11)) = ww12
 have hk : Kept [w.heap.size] v11 ww12 := by rw [← hW]; exact ((((Kept.refl _ _).setCell _ _ (by simp)).setCell _ _ (by simp)).setCell _ _ (by simp)).setCell _ _ (by simp)
 have hfz : ∀ x, ww12.frozen? x = v11.frozen? x := by rw [← hW]; intro x; simp only [World.frozen?_setCell]
 replace fR0 := kf kq12.out nR0 fR0
 replace nR0 := kc kq12.out nR0
 have e0 : ww12.cell? ⟨w.heap.size, 0, none⟩ = some (.bool (isNeg o1)) := by rw [← hW]; rw [World.cell?_setCell_other _ _ _ _ (by simp), World.cell?_setCell_other _ _ _ _ (by simp), World.cell?_setCell_other _ _ _ _ (by simp)]; exact World.cell?_setCell_same _ _ _ (by exact nR0.out)
 replace fR1 := kf kq12.out nR1 fR1
 replace nR1 := kc kq12.out nR1
 have e1 : ww12.cell? ⟨w.heap.size, 1, none⟩ = some (.slice b11 (mag o1).length c11) := by rw [← hW]; rw [World.cell?_setCell_other _ _ _ _ (by simp), World.cell?_setCell_other _ _ _ _ (by simp)]; exact World.cell?_setCell_same _ _ _ (by rw [World.cell?_setCell_other _ _ _ _ (by simp)]; exact nR1.out)
 replace fR2 := kf kq12.out nR2 fR2
 replace nR2 := kc kq12.out nR2
 have e2 : ww12.cell? ⟨w.heap.size, 2, none⟩ = some (.bool (isNeg o2)) := by rw [← hW]; rw [World.cell?_setCell_other _ _ _ _ (by simp)]; exact World.cell?_setCell_same _ _ _ (by rw [World.cell?_setCell_other _ _ _ _ (by simp), World.cell?_setCell_other _ _ _ _ (by simp)]; exact nR2.out)
 replace fR3 := kf kq12.out nR3 fR3
 replace nR3 := kc kq12.out nR3
 have e3 : ww12.cell? ⟨w.heap.size, 3, none⟩ = some (.slice d11 (mag o2).length m11) := by rw [← hW]; exact World.cell?_setCell_same _ _ _ (by rw [World.cell?_setCell_other _ _ _ _ (by simp), World.cell?_setCell_other _ _ _ _ (by simp), World.cell?_setCell_other _ _ _ _ (by simp)]; exact nR3.out)
 have z12 := hk.size
 have kq13 := Lib.hid hk
 have hz13 := Lib.hid hfz
 replace fR0 := kz hfz fR0
 replace fR1 := kz hfz fR1
 replace fR2 := kz hfz fR2
 replace fR3 := kz hfz fR3
 replace nR0 := Lib.hid e0
 replace nR1 := Lib.hid e1
 replace nR2 := Lib.hid e2
 replace nR3 := Lib.hid e3
 clear hk hfz hW e0 e1 e2 e3
 go_wp2_with fail
 have e0 := nR0.out
 have e1 := nR1.out
 have e2 := nR2.out
 have e3 := nR3.out
 refine bodyPost_ret (v := .agg #[.bool (isNeg o1), .slice b11 (mag o1).length c11, .bool (isNeg o2), .slice d11 (mag o2).length m11]) (by simp [results, Tryz.results45, go_sem, e0, e1, e2, e3]) rfl ?_
 replace KT := Lib.hid (KT.out.trans0 kq12.out)
 replace KT := Lib.hid (KT.out.trans kq13.out (fun x hx hlt => by simp at hx; omega))
 replace V1 := Lib.hid (V1.out.kept kq13.out (fun hn y hy hm => by have h9 := GV1.out hn y hy; simp at hm; omega))
 replace V2 := Lib.hid (V2.out.kept kq13.out (fun hn y hy hm => by have h9 := GV2.out hn y hy; simp at hm; omega))
 exact ⟨_, _, _, _, rfl, V1.out, V2.out, GV1.out.mono (by omega), GV2.out.mono (by omega), KT.out⟩

end Go.Proofs.YtfafjijoeanbhaaGreat
