/-
 Contracts of hasZero, the model's l3Zero, and outOfUnits. Conditions: the ends have no fault; what is taken out of units has 40 limbs at most.
-/
import Derived.Deep.RegionHeld3
import Derived.Deep.DrawnRows
import Derived.Deep.DeepCutAuto
import Derived.Test.YtfafjijoeanbhaaGreatJ5
import Derived.Test.YtfafjijoeanbhaaGreatJ1
namespace Go.Proofs.YtfafjijoeanbhaaGreat
open Go.RowKit

theorem FloorDiv_w (p q : Bool) (a b : Option Addr) (n c m d : Nat) (xs ys : List Int) (z : Int) (w : World) (h : Sl w a n c xs) (h' : Sl w b m d ys) (hx : BigOk p xs) (hy : BigOk q ys) (hy0 : ys.length ≠ 0) (hl : (mag z).length ≤ 40) (hz : z = divZ false p q (val xs) (val ys)) :
  Calls Tryz.prog 111 #[.agg #[.bool p, .slice a n c], .agg #[.bool q, .slice b m d]] w (BigZ w z) := by
 have := FloorDiv_any p q a b n c m d xs ys w h h'
 rw [divB_w hx hy hy0 hl hz] at this
 exact this
theorem CeilDiv_w (p q : Bool) (a b : Option Addr) (n c m d : Nat) (xs ys : List Int) (z : Int) (w : World) (h : Sl w a n c xs) (h' : Sl w b m d ys) (hx : BigOk p xs) (hy : BigOk q ys) (hy0 : ys.length ≠ 0) (hl : (mag z).length ≤ 40) (hz : z = divZ true p q (val xs) (val ys)) :
  Calls Tryz.prog 112 #[.agg #[.bool p, .slice a n c], .agg #[.bool q, .slice b m d]] w (BigZ w z) := by
 have := CeilDiv_any p q a b n c m d xs ys w h h'
 rw [divB_w hx hy hy0 hl hz] at this
 exact this
attribute [local go_sem ↓] field_big
set_option maxHeartbeats 2000000 in
set_option maxRecDepth 20000 in
theorem hasZero_any (p q : Bool) (a b : Option Addr) (n c m d : Nat) (xs : List Int) (w : World) (h : Sl w a n c xs) (hx : BigOk p xs) :
  Calls Tryz.prog 182 #[.agg #[.bool p, .slice a n c, .bool q, .slice b m d]] w (Ans w (.bool (hasZ p xs q))) := by
 have HS := Lib.hid h
 clear h
 cases q
 ·skip
  obtain ⟨r, hr⟩ : ∃ r, r = decide (sv false [] < sv p xs) := ⟨_, rfl⟩
  have HE := Lib.hid (show hasZ p xs false = !r by rw [hr]; unfold hasZ; rw [show sv false [] = 0 from rfl]; by_cases h9 : sv p xs ≤ 0 <;> simp [h9] <;> omega)
  have HD := Lib.hid hr.symm
  have HX := Lib.hid hx
  have HO := Lib.hid (show BigOk false [] from ⟨by decide, by simp⟩)
  clear hr hx
  go_enter Tryz.func182, Tryz.ntmps182
  go_wp2_with fail
  generalize hW : (w.alloc (.cells #[.bool p, .slice a n c, .bool false, .slice b m d] 26)) = ww0
  have hkk : Kept [] (w.alloc (.cells #[.bool p, .slice a n c, .bool false, .slice b m d] 26)) ww0 := by rw [hW]; exact Kept.refl _ _
  have zzA : w.heap.size + 1 = ww0.heap.size := by rw [← hW]; simp
  obtain ⟨⟨nA0, nA1, nA2, nA3⟩, _⟩ := tp4 hkk (g := w.heap.size) (by simp) (by simp)
  have hk := hkk.peel
  clear hkk hW
  have z0 := hk.size
  have KT := Lib.hid hk
  clear hk
  replace HS := Lib.hid (HS.out.kept0 KT.out)
  refine (isAbove_any _ _ _ _ _ _ _ _ _ _ r _ HS.out (Sl.nil _) HX.out HO.out HD.out).mono ?_
  rintro e ww1 ⟨rfl, hk⟩
  have z1 := hk.size
  replace nA0 := kc hk nA0
  replace nA1 := kc hk nA1
  replace nA2 := kc hk nA2
  replace nA3 := kc hk nA3
  replace HS := Lib.hid (HS.out.kept0 hk)
  replace KT := Lib.hid (KT.out.trans0 hk)
  clear hk
  go_wp2_with fail
  go_ret
  exact ⟨by rw [HE.out] <;> rfl, KT.out⟩
 ·skip
  rw [show hasZ p xs true = false from rfl]
  clear hx
  go_enter Tryz.func182, Tryz.ntmps182
  go_wp2
  go_ret
  exact ⟨rfl, (Kept.refl [] w).alloc _⟩

set_option maxHeartbeats 2000000 in
set_option maxRecDepth 20000 in
theorem l3Zero_any (p q : Bool) (a b : Option Addr) (n c m d : Nat) (xs : List Int) (w : World) (h : Sl w a n c xs) (hx : BigOk p xs) :
  Calls Tryz.prog 189 #[.agg #[.bool p, .slice a n c, .bool q, .slice b m d]] w (Ans w (.bool (hasZ p xs q))) := by
 have hl := h.1
 have hv := canon_nonneg hx.n40.canon
 clear h
 cases p
 ·by_cases hn : n = 0
  ·have hxs : xs = [] := List.eq_nil_of_length_eq_zero (by omega)
   have HE := Lib.hid (show hasZ false xs q = !q by unfold hasZ; rw [hxs]; simp [sv, sg, val])
   have hn0 : ((n : Int) == 0) = true := by rw [beq_iff_eq]; omega
   clear hxs hn
   clear hv hl hx
   go_enter Tryz.func189, Tryz.ntmps189
   go_wp2
   go_ret
   exact ⟨by rw [HE.out] <;> rfl, (Kept.refl [] w).alloc _⟩
  ·have hpos : 0 < val xs := hv.2 (fun e => hn (by rw [← hl, e]; rfl))
   have HE := Lib.hid (show hasZ false xs q = false by unfold hasZ; rw [show sv false xs = val xs from rfl, decide_eq_false (by omega), Bool.and_false])
   have hn0 : ((n : Int) == 0) = false := by rw [beq_eq_false_iff_ne]; omega
   clear hpos hn
   clear hv hl hx
   go_enter Tryz.func189, Tryz.ntmps189
   go_wp2
   go_ret
   exact ⟨by rw [HE.out] <;> rfl, (Kept.refl [] w).alloc _⟩
 ·have HE := Lib.hid (show hasZ true xs q = !q by unfold hasZ; rw [show sv true xs = - val xs from rfl, decide_eq_true (by omega), Bool.and_true])
  clear hv hl hx
  go_enter Tryz.func189, Tryz.ntmps189
  go_wp2
  go_ret
  exact ⟨by rw [HE.out] <;> rfl, (Kept.refl [] w).alloc _⟩

set_option maxHeartbeats 8000000 in
set_option maxRecDepth 20000 in
theorem outOfUnits_any (k : Nat) (a b : Option Addr) (n c m d : Nat) (lo hi : Int) (w : World) (hk : k ≤ 96) (hk0 : 16 ≤ k) (h : Sl w a n c (mag lo)) (h' : Sl w b m d (mag hi)) (hl1 : (mag lo).length ≤ 40) (hl2 : (mag hi).length ≤ 40) :
  Calls Tryz.prog 163 #[.int .i64 (k : Int), .agg #[.bool (isNeg lo), .slice a n c], .agg #[.bool (isNeg hi), .slice b m d]] w (SpanR w (fitS (outZ false lo k) (outZ true hi k))) := by
 have HS := Lib.hid h
 have HS' := Lib.hid h'
 have FS := Lib.hid h.lt
 have FS' := Lib.hid h'.lt
 have HO1 := Lib.hid (bigOk_of hl1)
 have HO2 := Lib.hid (bigOk_of hl2)
 have HP := Lib.hid (p2_ok hk).1
 have HP0 := Lib.hid (show (digits (p2 k)).length ≠ 0 by have h9 := digits_len_pos (show 0 < p2 k by have := p2_pos k; omega); omega)
 obtain ⟨t1, ht1⟩ : ∃ t, t = outZ false lo k := ⟨_, rfl⟩
 obtain ⟨t2, ht2⟩ : ∃ t, t = outZ true hi k := ⟨_, rfl⟩
 have hq1 : (mag t1).length ≤ 40 := by rw [ht1]; exact outZ_len hk0 hl1
 have hq2 : (mag t2).length ≤ 40 := by rw [ht2]; exact outZ_len hk0 hl2
 obtain ⟨r, hr⟩ : ∃ r, r = fitS t1 t2 := ⟨_, rfl⟩
 rw [← ht1, ← ht2, ← hr]
 have HR := Lib.hid hr
 have HT1 := Lib.hid (show t1 = divZ false (isNeg lo) false (val (mag lo)) (val (digits (p2 k))) from ht1)
 have HT2 := Lib.hid (show t2 = divZ true (isNeg hi) false (val (mag hi)) (val (digits (p2 k))) from ht2)
 have hdl := p2_len hk
 clear h h' hr ht1 ht2 hl1 hl2
 obtain ⟨ds, hds⟩ : ∃ ds : List Int, ds = digits (p2 k) := ⟨_, rfl⟩
 have HDS := Lib.hid hds
 rw [← hds] at HP HP0 HT1 HT2 hdl
 clear hds
 go_enter Tryz.func163, Tryz.ntmps163
 go_wp2_with fail
 generalize hW : (((w.alloc (.cells #[.bool (isNeg lo), .slice a n c] 24)).alloc (.cells #[.bool (isNeg hi), .slice b m d] 24)).alloc (.cells #[.int .i64 0, .bool false, .slice none 0 0, .bool false, .slice none 0 0] 28)) = ww0
 have hkk : Kept [] (((w.alloc (.cells #[.bool (isNeg lo), .slice a n c] 24)).alloc (.cells #[.bool (isNeg hi), .slice b m d] 24)).alloc (.cells #[.int .i64 0, .bool false, .slice none 0 0, .bool false, .slice none 0 0] 28)) ww0 := by rw [hW]; exact Kept.refl _ _
 have zzA : w.heap.size + 1 + 1 + 1 = ww0.heap.size := by rw [← hW]; simp
 obtain ⟨⟨nA0, nA1⟩, _⟩ := tp2 hkk.peel.peel (g := w.heap.size) (by simp) (by simp)
 obtain ⟨⟨nB0, nB1⟩, _⟩ := tp2 hkk.peel (g := w.heap.size + 1) (by simp) (by simp)
 obtain ⟨⟨nR0, nR1, nR2, nR3, nR4⟩, fR0, fR1, fR2, fR3, fR4⟩ := tp5 hkk (g := w.heap.size + 1 + 1) (by simp) (by simp)
 have hk := hkk.peel.peel.peel
 clear hkk hW
 have z0 := hk.size
 have KT := Lib.hid hk
 clear hk
 replace HS := Lib.hid (HS.out.kept0 KT.out)
 replace HS' := Lib.hid (HS'.out.kept0 KT.out)
 refine (oneInUnits_any k _ hk).mono ?_
 rintro e ww1 ⟨g1, rfl, hg, hb, hk1⟩
 rw [← HDS.out] at hb ⊢
 have hk9 := hk1
 clear hk1
 have SU := Lib.hid (sl_new hb rfl (by omega))
 clear hb
 have z1 := hk9.size
 replace fR0 := kf hk9 nR0 fR0
 replace fR1 := kf hk9 nR1 fR1
 replace fR2 := kf hk9 nR2 fR2
 replace fR3 := kf hk9 nR3 fR3
 replace fR4 := kf hk9 nR4 fR4
 replace nA0 := kc hk9 nA0
 replace nA1 := kc hk9 nA1
 replace nB0 := kc hk9 nB0
 replace nB1 := kc hk9 nB1
 replace nR0 := kc hk9 nR0
 replace nR1 := kc hk9 nR1
 replace nR2 := kc hk9 nR2
 replace nR3 := kc hk9 nR3
 replace nR4 := kc hk9 nR4
 replace HS := Lib.hid (HS.out.kept0 hk9)
 replace HS' := Lib.hid (HS'.out.kept0 hk9)
 replace KT := Lib.hid (KT.out.trans0 hk9)
 clear hk9
 go_upto_region 2 with fail
 generalize hW : (ww1.alloc (.cells #[.bool false, .slice (some ⟨g1, 0, none⟩) ds.length ds.length] 24)) = ww2
 have hk : Kept [] ww1 ww2 := by rw [← hW]; exact (Kept.refl [] _).alloc _
 have zzU : ww1.heap.size + 1 = ww2.heap.size := by rw [← hW]; simp
 have nU0 := Lib.hid (show ww2.cell? ⟨ww1.heap.size, 0, none⟩ = some (.bool false) by rw [← hW, World.cell?_alloc_new]; rfl)
 have nU1 := Lib.hid (show ww2.cell? ⟨ww1.heap.size, 1, none⟩ = some (.slice (some ⟨g1, 0, none⟩) ds.length ds.length) by rw [← hW, World.cell?_alloc_new]; rfl)
 clear hW
 have z2 := hk.size
 replace fR0 := kf hk nR0 fR0
 replace fR1 := kf hk nR1 fR1
 replace fR2 := kf hk nR2 fR2
 replace fR3 := kf hk nR3 fR3
 replace fR4 := kf hk nR4 fR4
 replace nA0 := kc hk nA0
 replace nA1 := kc hk nA1
 replace nB0 := kc hk nB0
 replace nB1 := kc hk nB1
 replace nR0 := kc hk nR0
 replace nR1 := kc hk nR1
 replace nR2 := kc hk nR2
 replace nR3 := kc hk nR3
 replace nR4 := kc hk nR4
 replace HS := Lib.hid (HS.out.kept0 hk)
 replace HS' := Lib.hid (HS'.out.kept0 hk)
 replace SU := Lib.hid (SU.out.kept0 hk)
 replace KT := Lib.hid (KT.out.trans0 hk)
 clear hk
 have tA0 := nA0.out
 have tA1 := nA1.out
 have tB0 := nB0.out
 have tB1 := nB1.out
 have tU0 := nU0.out
 have tU1 := nU1.out
 go_region_held3 (fun w' => w'.cell? ⟨w.heap.size, 0, none⟩ = some (.bool (isNeg lo)) ∧ w'.cell? ⟨w.heap.size, 1, none⟩ = some (.slice a n c) ∧ w'.cell? ⟨w.heap.size + 1, 0, none⟩ = some (.bool (isNeg hi)) ∧ w'.cell? ⟨w.heap.size + 1, 1, none⟩ = some (.slice b m d) ∧ w'.cell? ⟨ww1.heap.size, 0, none⟩ = some (.bool false) ∧ w'.cell? ⟨ww1.heap.size, 1, none⟩ = some (.slice (some ⟨g1, 0, none⟩) ds.length ds.length) ∧ Hid (Kept [w.heap.size + 1 + 1] ww2 w'))
  ((go_split_ands; (try refine ⟨?_, ?_, ?_, ?_, ?_, ?_, ?_⟩) <;> with_reducible first | exact Kept.set5 (by assumption) | exact cell_set5 (by assumption) (by simp <;> omega) | exact Lib.hid ((Kept.refl _ _).drew) | exact drew_cell (by assumption) | exact Kept.allocH (by assumption) | exact alloc_cell (by assumption) | exact Lib.hid (Kept.trans0 (Hid.out (by assumption)) (by assumption)) | exact Kept.cell (by assumption) (by assumption) (by simp)))
  (first
   | (go_at_call 111; go_split_ands; refine (FloorDiv_w _ _ _ _ _ _ _ _ _ _ _ _ (HS.out.kept0 ((Kept.refl [] _).drew)) (SU.out.kept0 ((Kept.refl [] _).drew)) HO1.out HP.out HP0.out hq1 HT1.out).mono ?_; rintro e v1 ⟨a1, c1, rfl, hs1, hf1, hk1⟩)
   | (go_at_call 112; go_split_ands; refine (CeilDiv_w _ _ _ _ _ _ _ _ _ _ _ _ (HS'.out.kept0 (((Kept.refl [] _).drew).trans0 hk1)) (SU.out.kept0 (((Kept.refl [] _).drew).trans0 hk1)) HO2.out HP.out HP0.out hq2 HT2.out).mono ?_; rintro e v2 ⟨a2, c2, rfl, hs2, hf2, hk2⟩)
   | (go_at_call 73; go_split_ands; refine (spanResult_any _ _ _ _ _ _ _ _ _ (hs1.kept0 hk2) hs2).mono ?_; rintro e v3 ⟨a3, c3, b3, d3, rfl, hs3, hs4, hf3, hf4, hne, hk3⟩; have z12 := (hk1.trans0 hk2).size; simp only [World.size_drew] at z12; have hkr := ((((Kept.refl [] ww2).drew).trans0 hk1).trans0 hk2).trans0 hk3; have rg0 := hkr.cell (p := ⟨w.heap.size + 1 + 1, 0, none⟩) nR0.out (by simp); have rg1 := hkr.cell (p := ⟨w.heap.size + 1 + 1, 1, none⟩) nR1.out (by simp); have rg2 := hkr.cell (p := ⟨w.heap.size + 1 + 1, 2, none⟩) nR2.out (by simp); have rg3 := hkr.cell (p := ⟨w.heap.size + 1 + 1, 3, none⟩) nR3.out (by simp); have rg4 := hkr.cell (p := ⟨w.heap.size + 1 + 1, 4, none⟩) nR4.out (by simp); have ru0 := hkr.free' (p := ⟨w.heap.size + 1 + 1, 0, none⟩) nR0.out fR0.out (by simp); have ru1 := hkr.free' (p := ⟨w.heap.size + 1 + 1, 1, none⟩) nR1.out fR1.out (by simp); have ru2 := hkr.free' (p := ⟨w.heap.size + 1 + 1, 2, none⟩) nR2.out fR2.out (by simp); have ru3 := hkr.free' (p := ⟨w.heap.size + 1 + 1, 3, none⟩) nR3.out fR3.out (by simp); have ru4 := hkr.free' (p := ⟨w.heap.size + 1 + 1, 4, none⟩) nR4.out fR4.out (by simp)))
 clear tA0 tA1 tB0 tB1 tU0 tU1
 have hk := hkr
 clear hkr
 clear hs1 hf1 hs2 hf2 hk1 hk2 hk3
 rw [← HR.out] at hs3 hs4 hf3 hf4 hne ⊢
 have z3 := hk.size
 replace fR0 := kf hk nR0 fR0
 replace fR1 := kf hk nR1 fR1
 replace fR2 := kf hk nR2 fR2
 replace fR3 := kf hk nR3 fR3
 replace fR4 := kf hk nR4 fR4
 replace nA0 := kc hk nA0
 replace nA1 := kc hk nA1
 replace nB0 := kc hk nB0
 replace nB1 := kc hk nB1
 replace nR0 := kc hk nR0
 replace nR1 := kc hk nR1
 replace nR2 := kc hk nR2
 replace nR3 := kc hk nR3
 replace nR4 := kc hk nR4
 replace HS := Lib.hid (HS.out.kept0 hk)
 replace HS' := Lib.hid (HS'.out.kept0 hk)
 replace SU := Lib.hid (SU.out.kept0 hk)
 replace nU0 := kc hk nU0
 replace nU1 := kc hk nU1
 replace KT := Lib.hid (KT.out.trans0 hk)
 clear hk
 have hs3 := Lib.hid hs3
 have hs4 := Lib.hid hs4
 have HNE := Lib.hid hne
 have G3 := Lib.hid (hf3.mono (B' := w.heap.size + 1 + 1 + 1) (by omega))
 have G4 := Lib.hid (hf4.mono (B' := w.heap.size + 1 + 1 + 1) (by omega))
 clear hf3 hf4 hne
 generalize hW : (((((v3.setCell ⟨w.heap.size + 1 + 1, 0, none⟩ (.int .i64 r.code)).setCell ⟨w.heap.size + 1 + 1, 1, none⟩ (.bool (isNeg r.lo))).setCell ⟨w.heap.size + 1 + 1, 2, none⟩ (.slice a3 (mag r.lo).length c3)).setCell ⟨w.heap.size + 1 + 1, 3, none⟩ (.bool (isNeg r.hi))).setCell ⟨w.heap.size + 1 + 1, 4, none⟩ (.slice b3 (mag r.hi).length d3)) = ww4
 have hk : Kept [w.heap.size + 1 + 1] v3 ww4 := by rw [← hW]; exact (((((Kept.refl _ _).setCell _ _ (by simp)).setCell _ _ (by simp)).setCell _ _ (by simp)).setCell _ _ (by simp)).setCell _ _ (by simp)
 have hfz : ∀ x, ww4.frozen? x = v3.frozen? x := by rw [← hW]; intro x; simp only [World.frozen?_setCell]
 obtain ⟨e0, e1, e2, e3, e4⟩ := st5 hW.symm nR0.out nR1.out nR2.out nR3.out nR4.out
 have z4 := hk.size
 replace fR0 := kz hfz fR0
 replace fR1 := kz hfz fR1
 replace fR2 := kz hfz fR2
 replace fR3 := kz hfz fR3
 replace fR4 := kz hfz fR4
 replace nA0 := kd hk nA0 (by simp <;> omega)
 replace nA1 := kd hk nA1 (by simp <;> omega)
 replace nB0 := kd hk nB0 (by simp <;> omega)
 replace nB1 := kd hk nB1 (by simp <;> omega)
 replace HS := Lib.hid (HS.out.kept hk (fun hn y hy hm => by have h9 := FS.out hn y hy; simp at hm; omega))
 replace HS' := Lib.hid (HS'.out.kept hk (fun hn y hy hm => by have h9 := FS'.out hn y hy; simp at hm; omega))
 replace SU := Lib.hid (SU.out.kept hk (fun hn y hy hm => by cases hy; simp at hm; omega))
 replace nU0 := kd hk nU0 (by simp <;> omega)
 replace nU1 := kd hk nU1 (by simp <;> omega)
 replace hs3 := Lib.hid (hs3.out.kept hk (fun hn y hy hm => by have h9 := G3.out hn y hy; simp at hm; omega))
 replace hs4 := Lib.hid (hs4.out.kept hk (fun hn y hy hm => by have h9 := G4.out hn y hy; simp at hm; omega))
 replace nR0 := Lib.hid e0
 replace nR1 := Lib.hid e1
 replace nR2 := Lib.hid e2
 replace nR3 := Lib.hid e3
 replace nR4 := Lib.hid e4
 replace KT := Lib.hid (KT.out.trans hk (fun x hx hlt => by simp at hx; omega))
 clear hk hfz hW e0 e1 e2 e3 e4
 go_wp2_with fail
 have e0 := nR0.out
 have e1 := nR1.out
 have e2 := nR2.out
 have e3 := nR3.out
 have e4 := nR4.out
 refine bodyPost_ret (v := .agg #[.int .i64 r.code, .bool (isNeg r.lo), .slice a3 (mag r.lo).length c3, .bool (isNeg r.hi), .slice b3 (mag r.hi).length d3]) (by simp [results, Tryz.results163, go_sem, e0, e1, e2, e3, e4]) rfl ?_
 exact ⟨a3, c3, b3, d3, rfl, hs3.out, hs4.out, G3.out.mono (by omega), G4.out.mono (by omega), HNE.out, KT.out⟩

end Go.Proofs.YtfafjijoeanbhaaGreat
