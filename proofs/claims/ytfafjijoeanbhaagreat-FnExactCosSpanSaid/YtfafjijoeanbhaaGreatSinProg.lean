/-
 Contract of SinSpan. Conditions: the limbs read as lists of numbers.
-/
import Derived.Deep.RegionHeld3
import Derived.Deep.DrawnRows
import Derived.Deep.DeepCutAuto
import Derived.Test.YtfafjijoeanbhaaGreatWaveProg
namespace Go.Proofs.YtfafjijoeanbhaaGreat
open Go.RowKit

attribute [local go_sem ↓] field_big field_span field_end0 field_end1
theorem waveSpan_bad' (f P s : Int) (p q : Bool) (a b : Option Addr) (n c m d : Nat) (xs ys : List Int) (p' q' : Bool) (a' b' : Option Addr) (n' c' m' d' : Nat) (w : World) (h1 : Sl w a n c xs) (h2 : Sl w b m d ys) (hz : farC P 7 p xs q ys ≠ 0) (hf : f = farC P 7 p xs q ys) :
  Calls Tryz.prog 78 #[.int .i64 P, .agg #[.bool p, .slice a n c, .bool q, .slice b m d], .agg #[.bool p', .slice a' n' c', .bool q', .slice b' m' d'], .int .i64 s] w (Ans w (.agg #[.int .i64 f, .bool false, .slice none 0 0, .bool false, .slice none 0 0])) := by
 subst hf; exact waveSpan_bad P s p q a b n c m d xs ys p' q' a' b' n' c' m' d' w h1 h2 hz
theorem spanOfNumber_raw (p : Bool) (a : Option Addr) (n c : Nat) (w : World) :
  Calls Tryz.prog 79 #[.agg #[.bool p, .slice a n c]] w (Val w (.agg #[.bool p, .slice a n c, .bool p, .slice a n c])) := by
 go_enter Tryz.func79, Tryz.ntmps79
 go_wp2
 exact bodyPost_ret (v := .agg #[.bool p, .slice a n c, .bool p, .slice a n c]) (by simp [results, Tryz.results79, go_sem]) rfl ⟨rfl, ((Kept.refl [] w).alloc _).alloc _⟩

set_option maxHeartbeats 8000000 in
set_option maxRecDepth 20000 in
theorem SinSpan_any (P : Int) (p q : Bool) (a b : Option Addr) (n c m d : Nat) (xs ys : List Int) (w : World) (h1 : Sl w a n c xs) (h2 : Sl w b m d ys) :
  Calls Tryz.prog 37 #[.int .i64 P, .agg #[.bool p, .slice a n c, .bool q, .slice b m d]] w (SpanR w (waveSS false P p xs q ys)) := by
 by_cases hz : farC P 7 p xs q ys = 0
 ·skip
  obtain ⟨hP, hf0⟩ := precS_zero (farC_pre hz)
  obtain ⟨k, rfl, hk96, hk16⟩ := isP_nat hP
  obtain ⟨x1, x2, rfl, rfl, rfl, rfl, fx⟩ := ok_letters (spanFault_zero hf0)
  have ea := h1.1
  have eb := h2.1
  subst ea eb
  have hin := far_in fx.1 (farC_pre hz) hz
  obtain ⟨o1, o2, ho⟩ : ∃ o1 o2 : Int, (⟨o1, o2⟩ : Z2) = wavF false k x1 x2 := ⟨_, _, rfl⟩
  have fo : Fit2 ⟨o1, o2⟩ := by rw [ho]; exact wavF_fit hin hk96
  rw [waveSS_ok hz, ← ho]
  have hy9 := in_low hin
  have ho' : (⟨o1, o2⟩ : Z2) = wave2 k ⟨x1, x2⟩ ⟨x1, x1⟩ 1 := ho
  have H1 := Lib.hid h1
  have H2 := Lib.hid h2
  have F1 := Lib.hid h1.lt
  have F2 := Lib.hid h2.lt
  have HF := Lib.hid hz
  have HP := Lib.hid hP
  have HIN := Lib.hid hin
  have HO := Lib.hid ho'
  have FO := Lib.hid fo
  have HY9 := Lib.hid hy9
  clear h1 h2 hz hP hf0 hin ho ho' fx fo hy9
  go_enter Tryz.func37, Tryz.ntmps37
  go_upto_region 1 with fail
  generalize hW : ((w.alloc (.cells #[.bool (isNeg x1), .slice a (mag x1).length c, .bool (isNeg x2), .slice b (mag x2).length d] 26)).alloc (.cells #[.int .i64 0, .bool false, .slice none 0 0, .bool false, .slice none 0 0] 28)) = ww0
  have hkk : Kept [] ((w.alloc (.cells #[.bool (isNeg x1), .slice a (mag x1).length c, .bool (isNeg x2), .slice b (mag x2).length d] 26)).alloc (.cells #[.int .i64 0, .bool false, .slice none 0 0, .bool false, .slice none 0 0] 28)) ww0 := by rw [hW]; exact Kept.refl _ _
  have zzA : w.heap.size + 1 + 1 = ww0.heap.size := by rw [← hW]; simp
  obtain ⟨⟨nA0, nA1, nA2, nA3⟩, _⟩ := tp4 hkk.peel (g := w.heap.size) (by simp) (by simp)
  obtain ⟨⟨nR0, nR1, nR2, nR3, nR4⟩, fR0, fR1, fR2, fR3, fR4⟩ := tp5 hkk (g := w.heap.size + 1) (by simp) (by simp)
  have hk := hkk.peel.peel
  clear hkk hW
  have z0 := hk.size
  have kq1 := Lib.hid hk
  have KT := kq1
  clear hk
  replace H1 := Lib.hid (H1.out.kept0 KT.out)
  replace H2 := Lib.hid (H2.out.kept0 KT.out)
  have tA0 := nA0.out
  have tA1 := nA1.out
  have tA2 := nA2.out
  have tA3 := nA3.out
  go_region_held3 (fun w' => w'.cell? ⟨w.heap.size, 0, none⟩ = some (.bool (isNeg x1)) ∧ w'.cell? ⟨w.heap.size, 1, none⟩ = some (.slice a (mag x1).length c) ∧ w'.cell? ⟨w.heap.size, 2, none⟩ = some (.bool (isNeg x2)) ∧ w'.cell? ⟨w.heap.size, 3, none⟩ = some (.slice b (mag x2).length d) ∧ Hid (Kept [w.heap.size + 1] ww0 w'))
   ((go_split_ands; (try refine ⟨?_, ?_, ?_, ?_, ?_⟩) <;> with_reducible first | exact Kept.set5 (by assumption) | exact cell_set5 (by assumption) (by simp <;> omega) | exact Lib.hid ((Kept.refl _ _).drew) | exact drew_cell (by assumption) | exact Kept.allocH (by assumption) | exact alloc_cell (by assumption) | exact Lib.hid (Kept.trans0 (Hid.out (by assumption)) (by assumption)) | exact Kept.cell (by assumption) (by assumption) (by simp)))
   (first
    | (have g9 := hk1; clear g9; go_at_call 78; go_split_ands; refine (waveSpan_good k x1 x2 _ _ _ _ x1 x1 _ _ _ _ 1 o1 o2 _ (H1.out.kept0 (((Kept.refl [] _).drew).trans0 hk1)) (H2.out.kept0 (((Kept.refl [] _).drew).trans0 hk1)) (H1.out.kept0 (((Kept.refl [] _).drew).trans0 hk1)) (H1.out.kept0 (((Kept.refl [] _).drew).trans0 hk1)) HP.out HF.out HIN.out HY9.out (Or.inl rfl) FO.out HO.out).mono ?_; intro e v2 hh; unfold SpanR at hh; obtain ⟨b2, hh⟩ := hh; obtain ⟨c2, hh⟩ := hh; obtain ⟨d2, hh⟩ := hh; obtain ⟨m2, hh, hs2, ht2, hf2, hg2, hne2, hk2⟩ := hh; (try dsimp only at hh hs2 ht2 hf2 hg2 hne2); subst hh; have hkr := ((((Kept.refl [] ww0).drew).trans0 hk1).trans0 hk2); have rg0 := hkr.cell (p := ⟨w.heap.size + 1, 0, none⟩) nR0.out (by simp); have rg1 := hkr.cell (p := ⟨w.heap.size + 1, 1, none⟩) nR1.out (by simp); have rg2 := hkr.cell (p := ⟨w.heap.size + 1, 2, none⟩) nR2.out (by simp); have rg3 := hkr.cell (p := ⟨w.heap.size + 1, 3, none⟩) nR3.out (by simp); have rg4 := hkr.cell (p := ⟨w.heap.size + 1, 4, none⟩) nR4.out (by simp); have ru0 := hkr.free' (p := ⟨w.heap.size + 1, 0, none⟩) nR0.out fR0.out (by simp); have ru1 := hkr.free' (p := ⟨w.heap.size + 1, 1, none⟩) nR1.out fR1.out (by simp); have ru2 := hkr.free' (p := ⟨w.heap.size + 1, 2, none⟩) nR2.out fR2.out (by simp); have ru3 := hkr.free' (p := ⟨w.heap.size + 1, 3, none⟩) nR3.out fR3.out (by simp); have ru4 := hkr.free' (p := ⟨w.heap.size + 1, 4, none⟩) nR4.out fR4.out (by simp))
    | (go_at_call 79; go_split_ands; refine (spanOfNumber_any x1 _ _ _).mono ?_; intro e v1 hh; obtain ⟨hh, hk1⟩ := hh; subst hh))
  clear tA0 tA1 tA2 tA3
  have zk1 := hk1.size
  have zk2 := hk2.size
  simp only [World.size_drew] at zk1
  have V1 := Lib.hid (hs2.kept0 (Kept.refl [] _))
  have GV1 := Lib.hid (hf2.mono (B' := ww0.heap.size) (by omega))
  have UV1 := Lib.hid V1.out.lt
  have V2 := Lib.hid (ht2.kept0 (Kept.refl [] _))
  have GV2 := Lib.hid (hg2.mono (B' := ww0.heap.size) (by omega))
  have UV2 := Lib.hid V2.out.lt
  have hk := hkr
  clear hkr hk1 hk2
  have z1 := hk.size
  have kq2 := Lib.hid hk
  clear hk
  have HNE := Lib.hid hne2
  clear hne2
  generalize hW : (((((v2.setCell ⟨w.heap.size + 1, 0, none⟩ (.int .i64 0)).setCell ⟨w.heap.size + 1, 1, none⟩ (.bool (isNeg o1))).setCell ⟨w.heap.size + 1, 2, none⟩ (.slice b2 (mag o1).length c2)).setCell ⟨w.heap.size + 1, 3, none⟩ (.bool (isNeg o2))).setCell ⟨w.heap.size + 1, 4, none⟩ (.slice d2 (mag o2).length m2)) = ww2
  have hk : Kept [w.heap.size + 1] v2 ww2 := by rw [← hW]; exact (((((Kept.refl _ _).setCell _ _ (by simp)).setCell _ _ (by simp)).setCell _ _ (by simp)).setCell _ _ (by simp)).setCell _ _ (by simp)
  have hfz : ∀ x, ww2.frozen? x = v2.frozen? x := by rw [← hW]; intro x; simp only [World.frozen?_setCell]
  replace fR0 := kf kq2.out nR0 fR0
  replace nR0 := kc kq2.out nR0
  have e0 : ww2.cell? ⟨w.heap.size + 1, 0, none⟩ = some (.int .i64 0) := by rw [← hW]; rw [World.cell?_setCell_other _ _ _ _ (by simp), World.cell?_setCell_other _ _ _ _ (by simp), World.cell?_setCell_other _ _ _ _ (by simp), World.cell?_setCell_other _ _ _ _ (by simp)]; exact World.cell?_setCell_same _ _ _ (by exact nR0.out)
  replace fR1 := kf kq2.out nR1 fR1
  replace nR1 := kc kq2.out nR1
  have e1 : ww2.cell? ⟨w.heap.size + 1, 1, none⟩ = some (.bool (isNeg o1)) := by rw [← hW]; rw [World.cell?_setCell_other _ _ _ _ (by simp), World.cell?_setCell_other _ _ _ _ (by simp), World.cell?_setCell_other _ _ _ _ (by simp)]; exact World.cell?_setCell_same _ _ _ (by rw [World.cell?_setCell_other _ _ _ _ (by simp)]; exact nR1.out)
  replace fR2 := kf kq2.out nR2 fR2
  replace nR2 := kc kq2.out nR2
  have e2 : ww2.cell? ⟨w.heap.size + 1, 2, none⟩ = some (.slice b2 (mag o1).length c2) := by rw [← hW]; rw [World.cell?_setCell_other _ _ _ _ (by simp), World.cell?_setCell_other _ _ _ _ (by simp)]; exact World.cell?_setCell_same _ _ _ (by rw [World.cell?_setCell_other _ _ _ _ (by simp), World.cell?_setCell_other _ _ _ _ (by simp)]; exact nR2.out)
  replace fR3 := kf kq2.out nR3 fR3
  replace nR3 := kc kq2.out nR3
  have e3 : ww2.cell? ⟨w.heap.size + 1, 3, none⟩ = some (.bool (isNeg o2)) := by rw [← hW]; rw [World.cell?_setCell_other _ _ _ _ (by simp)]; exact World.cell?_setCell_same _ _ _ (by rw [World.cell?_setCell_other _ _ _ _ (by simp), World.cell?_setCell_other _ _ _ _ (by simp), World.cell?_setCell_other _ _ _ _ (by simp)]; exact nR3.out)
  replace fR4 := kf kq2.out nR4 fR4
  replace nR4 := kc kq2.out nR4
  have e4 : ww2.cell? ⟨w.heap.size + 1, 4, none⟩ = some (.slice d2 (mag o2).length m2) := by rw [← hW]; exact World.cell?_setCell_same _ _ _ (by rw [World.cell?_setCell_other _ _ _ _ (by simp), World.cell?_setCell_other _ _ _ _ (by simp), World.cell?_setCell_other _ _ _ _ (by simp), World.cell?_setCell_other _ _ _ _ (by simp)]; exact nR4.out)
  have z2 := hk.size
  have kq3 := Lib.hid hk
  have hz3 := Lib.hid hfz
  replace fR0 := kz hfz fR0
  replace fR1 := kz hfz fR1
  replace fR2 := kz hfz fR2
  replace fR3 := kz hfz fR3
  replace fR4 := kz hfz fR4
  replace nR0 := Lib.hid e0
  replace nR1 := Lib.hid e1
  replace nR2 := Lib.hid e2
  replace nR3 := Lib.hid e3
  replace nR4 := Lib.hid e4
  clear hk hfz hW e0 e1 e2 e3 e4
  go_wp2_with fail
  have e0 := nR0.out
  have e1 := nR1.out
  have e2 := nR2.out
  have e3 := nR3.out
  have e4 := nR4.out
  refine bodyPost_ret (v := .agg #[.int .i64 0, .bool (isNeg o1), .slice b2 (mag o1).length c2, .bool (isNeg o2), .slice d2 (mag o2).length m2]) (by simp [results, Tryz.results37, go_sem, e0, e1, e2, e3, e4]) rfl ?_
  replace KT := Lib.hid (KT.out.trans0 kq2.out)
  replace KT := Lib.hid (KT.out.trans kq3.out (fun x hx hlt => by simp at hx; omega))
  replace V1 := Lib.hid (V1.out.kept kq3.out (fun hn y hy hm => by have h9 := GV1.out hn y hy; simp at hm; omega))
  replace V2 := Lib.hid (V2.out.kept kq3.out (fun hn y hy hm => by have h9 := GV2.out hn y hy; simp at hm; omega))
  exact ⟨_, _, _, _, rfl, V1.out, V2.out, GV1.out.mono (by omega), GV2.out.mono (by omega), HNE.out, KT.out⟩
 ·skip
  rw [waveSS_bad hz]
  have HZ := Lib.hid hz
  have H1 := Lib.hid h1
  have H2 := Lib.hid h2
  have F1 := Lib.hid h1.lt
  have F2 := Lib.hid h2.lt
  clear h1 h2 hz
  obtain ⟨f, hf⟩ : ∃ f, f = farC P 7 p xs q ys := ⟨_, rfl⟩
  rw [← hf]
  have HF := Lib.hid hf
  clear hf
  go_enter Tryz.func37, Tryz.ntmps37
  go_upto_region 1 with fail
  generalize hW : ((w.alloc (.cells #[.bool p, .slice a n c, .bool q, .slice b m d] 26)).alloc (.cells #[.int .i64 0, .bool false, .slice none 0 0, .bool false, .slice none 0 0] 28)) = ww0
  have hkk : Kept [] ((w.alloc (.cells #[.bool p, .slice a n c, .bool q, .slice b m d] 26)).alloc (.cells #[.int .i64 0, .bool false, .slice none 0 0, .bool false, .slice none 0 0] 28)) ww0 := by rw [hW]; exact Kept.refl _ _
  have zzA : w.heap.size + 1 + 1 = ww0.heap.size := by rw [← hW]; simp
  obtain ⟨⟨nA0, nA1, nA2, nA3⟩, _⟩ := tp4 hkk.peel (g := w.heap.size) (by simp) (by simp)
  obtain ⟨⟨nR0, nR1, nR2, nR3, nR4⟩, fR0, fR1, fR2, fR3, fR4⟩ := tp5 hkk (g := w.heap.size + 1) (by simp) (by simp)
  have hk := hkk.peel.peel
  clear hkk hW
  have z0 := hk.size
  have kq1 := Lib.hid hk
  have KT := kq1
  clear hk
  replace H1 := Lib.hid (H1.out.kept0 KT.out)
  replace H2 := Lib.hid (H2.out.kept0 KT.out)
  have tA0 := nA0.out
  have tA1 := nA1.out
  have tA2 := nA2.out
  have tA3 := nA3.out
  go_region_held3 (fun w' => w'.cell? ⟨w.heap.size, 0, none⟩ = some (.bool p) ∧ w'.cell? ⟨w.heap.size, 1, none⟩ = some (.slice a n c) ∧ w'.cell? ⟨w.heap.size, 2, none⟩ = some (.bool q) ∧ w'.cell? ⟨w.heap.size, 3, none⟩ = some (.slice b m d) ∧ Hid (Kept [w.heap.size + 1] ww0 w'))
   ((go_split_ands; (try refine ⟨?_, ?_, ?_, ?_, ?_⟩) <;> with_reducible first | exact Kept.set5 (by assumption) | exact cell_set5 (by assumption) (by simp <;> omega) | exact Lib.hid ((Kept.refl _ _).drew) | exact drew_cell (by assumption) | exact Kept.allocH (by assumption) | exact alloc_cell (by assumption) | exact Lib.hid (Kept.trans0 (Hid.out (by assumption)) (by assumption)) | exact Kept.cell (by assumption) (by assumption) (by simp)))
   (first
    | (have g9 := hk1; clear g9; go_at_call 78; go_split_ands; refine (waveSpan_bad' f P _ _ _ _ _ _ _ _ _ _ _ _ _ _ _ _ _ _ _ _ (H1.out.kept0 (((Kept.refl [] _).drew).trans0 hk1)) (H2.out.kept0 (((Kept.refl [] _).drew).trans0 hk1)) HZ.out HF.out).mono ?_; intro e v2 hh; obtain ⟨hh, hk2⟩ := hh; subst hh; have hkr := ((((Kept.refl [] ww0).drew).trans0 hk1).trans0 hk2); have rg0 := hkr.cell (p := ⟨w.heap.size + 1, 0, none⟩) nR0.out (by simp); have rg1 := hkr.cell (p := ⟨w.heap.size + 1, 1, none⟩) nR1.out (by simp); have rg2 := hkr.cell (p := ⟨w.heap.size + 1, 2, none⟩) nR2.out (by simp); have rg3 := hkr.cell (p := ⟨w.heap.size + 1, 3, none⟩) nR3.out (by simp); have rg4 := hkr.cell (p := ⟨w.heap.size + 1, 4, none⟩) nR4.out (by simp); have ru0 := hkr.free' (p := ⟨w.heap.size + 1, 0, none⟩) nR0.out fR0.out (by simp); have ru1 := hkr.free' (p := ⟨w.heap.size + 1, 1, none⟩) nR1.out fR1.out (by simp); have ru2 := hkr.free' (p := ⟨w.heap.size + 1, 2, none⟩) nR2.out fR2.out (by simp); have ru3 := hkr.free' (p := ⟨w.heap.size + 1, 3, none⟩) nR3.out fR3.out (by simp); have ru4 := hkr.free' (p := ⟨w.heap.size + 1, 4, none⟩) nR4.out fR4.out (by simp))
    | (go_at_call 79; go_split_ands; refine (spanOfNumber_raw p a n c _).mono ?_; intro e v1 hh; obtain ⟨hh, hk1⟩ := hh; subst hh))
  clear tA0 tA1 tA2 tA3
  have zk1 := hk1.size
  have zk2 := hk2.size
  simp only [World.size_drew] at zk1
  have hk := hkr
  clear hkr hk1 hk2
  have z1 := hk.size
  have kq2 := Lib.hid hk
  clear hk
  generalize hW : (((((v2.setCell ⟨w.heap.size + 1, 0, none⟩ (.int .i64 f)).setCell ⟨w.heap.size + 1, 1, none⟩ (.bool false)).setCell ⟨w.heap.size + 1, 2, none⟩ (.slice none 0 0)).setCell ⟨w.heap.size + 1, 3, none⟩ (.bool false)).setCell ⟨w.heap.size + 1, 4, none⟩ (.slice none 0 0)) = ww2
  have hk : Kept [w.heap.size + 1] v2 ww2 := by rw [← hW]; exact (((((Kept.refl _ _).setCell _ _ (by simp)).setCell _ _ (by simp)).setCell _ _ (by simp)).setCell _ _ (by simp)).setCell _ _ (by simp)
  have hfz : ∀ x, ww2.frozen? x = v2.frozen? x := by rw [← hW]; intro x; simp only [World.frozen?_setCell]
  replace fR0 := kf kq2.out nR0 fR0
  replace nR0 := kc kq2.out nR0
  have e0 : ww2.cell? ⟨w.heap.size + 1, 0, none⟩ = some (.int .i64 f) := by rw [← hW]; rw [World.cell?_setCell_other _ _ _ _ (by simp), World.cell?_setCell_other _ _ _ _ (by simp), World.cell?_setCell_other _ _ _ _ (by simp), World.cell?_setCell_other _ _ _ _ (by simp)]; exact World.cell?_setCell_same _ _ _ (by exact nR0.out)
  replace fR1 := kf kq2.out nR1 fR1
  replace nR1 := kc kq2.out nR1
  have e1 : ww2.cell? ⟨w.heap.size + 1, 1, none⟩ = some (.bool false) := by rw [← hW]; rw [World.cell?_setCell_other _ _ _ _ (by simp), World.cell?_setCell_other _ _ _ _ (by simp), World.cell?_setCell_other _ _ _ _ (by simp)]; exact World.cell?_setCell_same _ _ _ (by rw [World.cell?_setCell_other _ _ _ _ (by simp)]; exact nR1.out)
  replace fR2 := kf kq2.out nR2 fR2
  replace nR2 := kc kq2.out nR2
  have e2 : ww2.cell? ⟨w.heap.size + 1, 2, none⟩ = some (.slice none 0 0) := by rw [← hW]; rw [World.cell?_setCell_other _ _ _ _ (by simp), World.cell?_setCell_other _ _ _ _ (by simp)]; exact World.cell?_setCell_same _ _ _ (by rw [World.cell?_setCell_other _ _ _ _ (by simp), World.cell?_setCell_other _ _ _ _ (by simp)]; exact nR2.out)
  replace fR3 := kf kq2.out nR3 fR3
  replace nR3 := kc kq2.out nR3
  have e3 : ww2.cell? ⟨w.heap.size + 1, 3, none⟩ = some (.bool false) := by rw [← hW]; rw [World.cell?_setCell_other _ _ _ _ (by simp)]; exact World.cell?_setCell_same _ _ _ (by rw [World.cell?_setCell_other _ _ _ _ (by simp), World.cell?_setCell_other _ _ _ _ (by simp), World.cell?_setCell_other _ _ _ _ (by simp)]; exact nR3.out)
  replace fR4 := kf kq2.out nR4 fR4
  replace nR4 := kc kq2.out nR4
  have e4 : ww2.cell? ⟨w.heap.size + 1, 4, none⟩ = some (.slice none 0 0) := by rw [← hW]; exact World.cell?_setCell_same _ _ _ (by rw [World.cell?_setCell_other _ _ _ _ (by simp), World.cell?_setCell_other _ _ _ _ (by simp), World.cell?_setCell_other _ _ _ _ (by simp), World.cell?_setCell_other _ _ _ _ (by simp)]; exact nR4.out)
  have z2 := hk.size
  have kq3 := Lib.hid hk
  have hz3 := Lib.hid hfz
  replace fR0 := kz hfz fR0
  replace fR1 := kz hfz fR1
  replace fR2 := kz hfz fR2
  replace fR3 := kz hfz fR3
  replace fR4 := kz hfz fR4
  replace nR0 := Lib.hid e0
  replace nR1 := Lib.hid e1
  replace nR2 := Lib.hid e2
  replace nR3 := Lib.hid e3
  replace nR4 := Lib.hid e4
  clear hk hfz hW e0 e1 e2 e3 e4
  go_wp2_with fail
  have e0 := nR0.out
  have e1 := nR1.out
  have e2 := nR2.out
  have e3 := nR3.out
  have e4 := nR4.out
  refine bodyPost_ret (v := .agg #[.int .i64 f, .bool false, .slice none 0 0, .bool false, .slice none 0 0]) (by simp [results, Tryz.results37, go_sem, e0, e1, e2, e3, e4]) rfl ?_
  replace KT := Lib.hid (KT.out.trans0 kq2.out)
  replace KT := Lib.hid (KT.out.trans kq3.out (fun x hx hlt => by simp at hx; omega))
  exact spanR_no KT.out

end Go.Proofs.YtfafjijoeanbhaaGreat
