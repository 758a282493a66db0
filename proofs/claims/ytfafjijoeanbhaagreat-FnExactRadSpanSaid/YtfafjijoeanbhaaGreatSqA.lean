/-
 Contract of the model's l3Square. Conditions: the precision is one; the ends have no fault and 20 limbs at most.
-/
import Derived.Deep.RegionHeld3
import Derived.Deep.DrawnRows
import Derived.Deep.DeepCutAuto
import Derived.Test.YtfafjijoeanbhaaGreatSpanZ
import Derived.Test.YtfafjijoeanbhaaGreatSpanU
namespace Go.Proofs.YtfafjijoeanbhaaGreat
open Go.RowKit

theorem RowB.kept0 {w w' : World} {g : Nat} {l : List BE} (h : RowB w g l) (k : Kept [] w w') : RowB w' g l := h.kept k (by simp)
theorem OkB.kept0 {w w' : World} {l : List BE} (h : OkB w l) (k : Kept [] w w') : OkB w' l := h.kept k
theorem minZ_len2 {x y : Int} {k : Nat} (h1 : (mag x).length ≤ k) (h2 : (mag y).length ≤ k) : (mag (minZ x y)).length ≤ k := by
 rcases minZ_cases x y with ⟨e, _⟩ | ⟨e, _⟩ <;> rw [e] <;> assumption
theorem maxZ_len2 {x y : Int} {k : Nat} (h1 : (mag x).length ≤ k) (h2 : (mag y).length ≤ k) : (mag (maxZ x y)).length ≤ k := by
 rcases maxZ_cases x y with ⟨e, _⟩ | ⟨e, _⟩ <;> rw [e] <;> assumption
/-- The low end of a square, not yet out of units. -/
def sqLow (p : Bool) (xs : List Int) (q : Bool) (ys : List Int) : Int := if hasZ p xs q = true then 0 else minZ (sv p xs * sv p xs) (sv q ys * sv q ys)
def sqHigh (p : Bool) (xs : List Int) (q : Bool) (ys : List Int) : Int := maxZ (sv p xs * sv p xs) (sv q ys * sv q ys)
theorem isNeg_zero : isNeg 0 = false := isNeg_no (Int.le_refl 0)
theorem l3Down_zero (P : Int) (t : Int) (w : World) (hP : isP P = true) (ht : t = outZ false 0 P.toNat) :
  Calls Tryz.prog 107 #[.int .i64 P, .agg #[.bool false, .slice none 0 0]] w (BigV w.heap.size w t) := by
 have h := l3Down_any P none 0 0 0 t w hP (by rw [mag_zero]; exact Sl.nil _) (by rw [mag_zero]; simp) ht
 rw [isNeg_zero] at h
 exact h

set_option maxHeartbeats 8000000 in
set_option maxRecDepth 20000 in
theorem l3Square_any (P : Int) (p q : Bool) (a b : Option Addr) (n c m d : Nat) (xs ys : List Int) (t1 t2 : Int) (w : World) (h1 : Sl w a n c xs) (h2 : Sl w b m d ys) (hP : isP P = true) (ox : SpanOk p xs q ys) (ht1 : t1 = outZ false (sqLow p xs q ys) P.toNat) (ht2 : t2 = outZ true (sqHigh p xs q ys) P.toNat) :
  Calls Tryz.prog 138 #[.int .i64 P, .agg #[.bool p, .slice a n c, .bool q, .slice b m d]] w (SpanV w t1 t2) := by
 have H1 := Lib.hid h1
 have H2 := Lib.hid h2
 have F1 := Lib.hid h1.lt
 have F2 := Lib.hid h2.lt
 have N1 := Lib.hid ox.lo.n40
 have N2 := Lib.hid ox.hi.n40
 clear h1 h2
 by_cases hz : hasZ p xs q = true
 ·skip
  rw [show sqLow p xs q ys = 0 from by unfold sqLow; rw [if_pos hz]] at ht1
  rw [show sqHigh p xs q ys = maxZ (sv p xs * sv p xs) (sv q ys * sv q ys) from rfl] at ht2
  have HZ := Lib.hid (show hasZ p xs q = true by exact hz)
  clear hz
  obtain ⟨y1, hy1⟩ : ∃ z, z = sv p xs * sv p xs := ⟨_, rfl⟩
  have o1 : (mag y1).length ≤ 40 := by rw [hy1]; exact mul_len N1.out N1.out ox.lx ox.lx
  obtain ⟨y2, hy2⟩ : ∃ z, z = sv q ys * sv q ys := ⟨_, rfl⟩
  have o2 : (mag y2).length ≤ 40 := by rw [hy2]; exact mul_len N2.out N2.out ox.ly ox.ly
  rw [← hy1, ← hy2] at ht2
  have HY1 := Lib.hid hy1
  have HY2 := Lib.hid hy2
  obtain ⟨tm, htm⟩ : ∃ t, t = minZ y1 y2 := ⟨_, rfl⟩
  obtain ⟨tx, htx⟩ : ∃ t, t = maxZ y1 y2 := ⟨_, rfl⟩
  have om : (mag tm).length ≤ 40 := by rw [htm]; exact minZ_len2 o1 o2
  have ox9 : (mag tx).length ≤ 40 := by rw [htx]; exact maxZ_len2 o1 o2
  rw [← htx] at ht2
  have HT1 := Lib.hid ht1
  have HT2 := Lib.hid ht2
  have HTM := Lib.hid (show tm = minZ (sv (isNeg y1) (mag y1)) (sv (isNeg y2) (mag y2)) by rw [sv_mag, sv_mag]; exact htm)
  have HTX := Lib.hid (show tx = maxZ (sv (isNeg y1) (mag y1)) (sv (isNeg y2) (mag y2)) by rw [sv_mag, sv_mag]; exact htx)
  have HP := Lib.hid hP
  have HX := Lib.hid ox.lo
  have BK1 := Lib.hid (bigOk_of o1)
  have BK2 := Lib.hid (bigOk_of o2)
  clear ht1 ht2 htm htx hy1 hy2 hP ox
  go_enter Tryz.func138, Tryz.ntmps138
  go_upto_region 1 with fail
  generalize hW : ((w.alloc (.cells #[.bool p, .slice a n c, .bool q, .slice b m d] 26)).alloc (.cells #[.bool false, .slice none 0 0, .bool false, .slice none 0 0] 26)) = ww0
  have hkk : Kept [] ((w.alloc (.cells #[.bool p, .slice a n c, .bool q, .slice b m d] 26)).alloc (.cells #[.bool false, .slice none 0 0, .bool false, .slice none 0 0] 26)) ww0 := by rw [hW]; exact Kept.refl _ _
  have zzA : w.heap.size + 1 + 1 = ww0.heap.size := by rw [← hW]; simp
  obtain ⟨⟨nA0, nA1, nA2, nA3⟩, _⟩ := tp4 hkk.peel (g := w.heap.size) (by simp) (by simp)
  obtain ⟨⟨nR0, nR1, nR2, nR3⟩, fR0, fR1, fR2, fR3⟩ := tp4 hkk (g := w.heap.size + 1) (by simp) (by simp)
  have hk := hkk.peel.peel
  clear hkk hW
  have z0 := hk.size
  have KT := Lib.hid hk
  clear hk
  replace H1 := Lib.hid (H1.out.kept0 KT.out)
  replace H2 := Lib.hid (H2.out.kept0 KT.out)
  have tA0 := nA0.out
  have tA1 := nA1.out
  have tA2 := nA2.out
  have tA3 := nA3.out
  have kr := Lib.hid (Kept.refl [] ww0)
  go_region_held3 (fun w' => w'.cell? ⟨w.heap.size, 0, none⟩ = some (.bool p) ∧ w'.cell? ⟨w.heap.size, 1, none⟩ = some (.slice a n c) ∧ w'.cell? ⟨w.heap.size, 2, none⟩ = some (.bool q) ∧ w'.cell? ⟨w.heap.size, 3, none⟩ = some (.slice b m d) ∧ Hid (Kept [] ww0 w'))
   ((go_split_ands; (try refine ⟨?_, ?_, ?_, ?_, ?_⟩) <;> with_reducible first | assumption | exact drew_alloc_cell (by assumption) | exact drew_alloc_cell2 (by assumption) | exact drew_cell (by assumption) | exact alloc_cell (by assumption) | exact Lib.hid (Kept.trans0 (Hid.out (by assumption)) (by assumption)) | exact Kept.cell (by assumption) (by assumption) (by simp) | exact Kept.allocH (by assumption) | exact Kept.drewAlloc2H (by assumption) | exact Kept.drewAllocH (by assumption) | exact Kept.drewH (by assumption)))
   (first
    | (go_at_call 108; with_reducible show Calls _ _ #[Value.agg #[Value.bool p, Value.slice a n c], Value.agg #[Value.bool p, Value.slice a n c]] _ _; go_split_ands; refine (l2Mul_z _ _ _ _ _ _ _ _ _ _ _ _ N1.out N1.out (H1.out.kept0 ((Kept.refl [] _).drew)) (H1.out.kept0 ((Kept.refl [] _).drew)) HY1.out).mono ?_; intro e v1 hh; unfold BigV at hh; obtain ⟨b1, hh⟩ := hh; obtain ⟨e1, hh, hs1, hf1, hk1⟩ := hh; subst hh)
    | (go_at_call 108; with_reducible show Calls _ _ #[Value.agg #[Value.bool q, Value.slice b m d], Value.agg #[Value.bool q, Value.slice b m d]] _ _; go_split_ands; refine (l2Mul_z _ _ _ _ _ _ _ _ _ _ _ _ N2.out N2.out (H2.out.kept0 (((Kept.refl [] _).drew).trans0 hk1)) (H2.out.kept0 (((Kept.refl [] _).drew).trans0 hk1)) HY2.out).mono ?_; intro e v2 hh; unfold BigV at hh; obtain ⟨b2, hh⟩ := hh; obtain ⟨e2, hh, hs2, hf2, hk2⟩ := hh; subst hh; have kz := (((Kept.refl [] ww0).drew).trans0 hk1).trans0 hk2))
  clear kr tA0 tA1 tA2 tA3
  have hs1 := hs1.kept0 hk2
  have hrow := rowB2_at (xs := mag y1) (ys := mag y2) (W := v2.alloc (.cells #[.bool (isNeg y1), .slice b1 (mag y1).length e1, .bool (isNeg y2), .slice b2 (mag y2).length e2] 24)) (g := v2.heap.size) rfl rfl
  have hs1 := hs1.kept0 ((Kept.refl [] v2).alloc (.cells #[.bool (isNeg y1), .slice b1 (mag y1).length e1, .bool (isNeg y2), .slice b2 (mag y2).length e2] 24))
  have hs2 := hs2.kept0 ((Kept.refl [] v2).alloc (.cells #[.bool (isNeg y1), .slice b1 (mag y1).length e1, .bool (isNeg y2), .slice b2 (mag y2).length e2] 24))
  have hk := kz.alloc (.cells #[.bool (isNeg y1), .slice b1 (mag y1).length e1, .bool (isNeg y2), .slice b2 (mag y2).length e2] 24)
  generalize hW : (v2.alloc (.cells #[.bool (isNeg y1), .slice b1 (mag y1).length e1, .bool (isNeg y2), .slice b2 (mag y2).length e2] 24)) = ww3 at hrow hs1 hs2 hk ⊢
  have zv2 : v2.heap.size + 1 = ww3.heap.size := by rw [← hW]; simp
  have HROW := Lib.hid hrow
  have S1 := Lib.hid hs1
  have S2 := Lib.hid hs2
  have zq := kz.size
  clear hrow hs1 hs2 hf1 hf2 hk1 hk2 hW kz
  have SF1 := Lib.hid S1.out.lt
  have SF2 := Lib.hid S2.out.lt
  have z3 := hk.size
  replace fR0 := kf hk nR0 fR0
  replace fR1 := kf hk nR1 fR1
  replace fR2 := kf hk nR2 fR2
  replace fR3 := kf hk nR3 fR3
  replace nA0 := kc hk nA0
  replace nA1 := kc hk nA1
  replace nA2 := kc hk nA2
  replace nA3 := kc hk nA3
  replace nR0 := kc hk nR0
  replace nR1 := kc hk nR1
  replace nR2 := kc hk nR2
  replace nR3 := kc hk nR3
  replace H1 := Lib.hid (H1.out.kept0 hk)
  replace H2 := Lib.hid (H2.out.kept0 hk)
  replace KT := Lib.hid (KT.out.trans0 hk)
  clear hk
  go_wp2_with fail
  refine (l3Least_two _ _ _ _ _ _ _ _ _ _ _ _ _ HROW.out S1.out S2.out BK1.out BK2.out HTM.out).mono ?_
  rintro e ww4 ⟨a5, c5, rfl, hs5, hf5, hk⟩
  have HS5 := Lib.hid hs5
  clear hs5 hf5
  have z4 := hk.size
  replace fR0 := kf hk nR0 fR0
  replace fR1 := kf hk nR1 fR1
  replace fR2 := kf hk nR2 fR2
  replace fR3 := kf hk nR3 fR3
  replace nA0 := kc hk nA0
  replace nA1 := kc hk nA1
  replace nA2 := kc hk nA2
  replace nA3 := kc hk nA3
  replace nR0 := kc hk nR0
  replace nR1 := kc hk nR1
  replace nR2 := kc hk nR2
  replace nR3 := kc hk nR3
  replace H1 := Lib.hid (H1.out.kept0 hk)
  replace H2 := Lib.hid (H2.out.kept0 hk)
  replace HROW := Lib.hid (HROW.out.kept0 hk)
  replace S1 := Lib.hid (S1.out.kept0 hk)
  replace S2 := Lib.hid (S2.out.kept0 hk)
  replace KT := Lib.hid (KT.out.trans0 hk)
  clear hk
  go_upto_region 3 with fail
  generalize hW : (ww4.alloc (.cells #[.bool (isNeg tm), .slice a5 (mag tm).length c5] 24)) = ww5
  have hk : Kept [] ww4 ww5 := by rw [← hW]; exact (Kept.refl [] _).alloc _
  have zzU : ww4.heap.size + 1 = ww5.heap.size := by rw [← hW]; simp
  have nU0 := Lib.hid (show ww5.cell? ⟨ww4.heap.size, 0, none⟩ = some (.bool (isNeg tm)) by rw [← hW, World.cell?_alloc_new]; rfl)
  have fU0 := Lib.hid (show ww5.frozen? ⟨ww4.heap.size, 0, none⟩ = false by rw [← hW]; exact frozen_of_row _ _ _ _ _ (heap_alloc_new _ _))
  have nU1 := Lib.hid (show ww5.cell? ⟨ww4.heap.size, 1, none⟩ = some (.slice a5 (mag tm).length c5) by rw [← hW, World.cell?_alloc_new]; rfl)
  have fU1 := Lib.hid (show ww5.frozen? ⟨ww4.heap.size, 1, none⟩ = false by rw [← hW]; exact frozen_of_row _ _ _ _ _ (heap_alloc_new _ _))
  clear hW
  have z5 := hk.size
  replace fR0 := kf hk nR0 fR0
  replace fR1 := kf hk nR1 fR1
  replace fR2 := kf hk nR2 fR2
  replace fR3 := kf hk nR3 fR3
  replace nA0 := kc hk nA0
  replace nA1 := kc hk nA1
  replace nA2 := kc hk nA2
  replace nA3 := kc hk nA3
  replace nR0 := kc hk nR0
  replace nR1 := kc hk nR1
  replace nR2 := kc hk nR2
  replace nR3 := kc hk nR3
  replace H1 := Lib.hid (H1.out.kept0 hk)
  replace H2 := Lib.hid (H2.out.kept0 hk)
  replace HROW := Lib.hid (HROW.out.kept0 hk)
  replace S1 := Lib.hid (S1.out.kept0 hk)
  replace S2 := Lib.hid (S2.out.kept0 hk)
  replace HS5 := Lib.hid (HS5.out.kept0 hk)
  replace KT := Lib.hid (KT.out.trans0 hk)
  clear hk
  have tA0 := nA0.out
  have tA1 := nA1.out
  have tA2 := nA2.out
  have tA3 := nA3.out
  go_wp2_with fail
  clear tA0 tA1 tA2 tA3
  refine (l3Zero_any _ _ _ _ _ _ _ _ _ _ H1.out HX.out).mono ?_
  rintro e ww6 ⟨rfl, hk⟩
  rw [HZ.out]
  have z6 := hk.size
  replace fR0 := kf hk nR0 fR0
  replace fR1 := kf hk nR1 fR1
  replace fR2 := kf hk nR2 fR2
  replace fR3 := kf hk nR3 fR3
  replace fU0 := kf hk nU0 fU0
  replace fU1 := kf hk nU1 fU1
  replace nA0 := kc hk nA0
  replace nA1 := kc hk nA1
  replace nA2 := kc hk nA2
  replace nA3 := kc hk nA3
  replace nR0 := kc hk nR0
  replace nR1 := kc hk nR1
  replace nR2 := kc hk nR2
  replace nR3 := kc hk nR3
  replace H1 := Lib.hid (H1.out.kept0 hk)
  replace H2 := Lib.hid (H2.out.kept0 hk)
  replace HROW := Lib.hid (HROW.out.kept0 hk)
  replace S1 := Lib.hid (S1.out.kept0 hk)
  replace S2 := Lib.hid (S2.out.kept0 hk)
  replace HS5 := Lib.hid (HS5.out.kept0 hk)
  replace nU0 := kc hk nU0
  replace nU1 := kc hk nU1
  replace KT := Lib.hid (KT.out.trans0 hk)
  clear hk
  clear HS5
  have tU0 := nU0.out
  have tU1 := nU1.out
  have uU0 := fU0.out
  have uU1 := fU1.out
  go_upto_region 5 with fail
  clear tU0 tU1 uU0 uU1
  generalize hW : ((ww6.setCell ⟨ww4.heap.size, 0, none⟩ (.bool false)).setCell ⟨ww4.heap.size, 1, none⟩ (.slice none 0 0)) = ww7
  have hk : Kept [ww4.heap.size] ww6 ww7 := by rw [← hW]; exact ((Kept.refl _ _).setCell _ _ (by simp)).setCell _ _ (by simp)
  have hfz : ∀ x, ww7.frozen? x = ww6.frozen? x := by rw [← hW]; intro x; simp only [World.frozen?_setCell]
  obtain ⟨e0, e1⟩ := st2 hW.symm nU0.out nU1.out
  have z7 := hk.size
  replace fR0 := kz hfz fR0
  replace fR1 := kz hfz fR1
  replace fR2 := kz hfz fR2
  replace fR3 := kz hfz fR3
  replace fU0 := kz hfz fU0
  replace fU1 := kz hfz fU1
  replace nA0 := kd hk nA0 (by simp <;> omega)
  replace nA1 := kd hk nA1 (by simp <;> omega)
  replace nA2 := kd hk nA2 (by simp <;> omega)
  replace nA3 := kd hk nA3 (by simp <;> omega)
  replace nR0 := kd hk nR0 (by simp <;> omega)
  replace nR1 := kd hk nR1 (by simp <;> omega)
  replace nR2 := kd hk nR2 (by simp <;> omega)
  replace nR3 := kd hk nR3 (by simp <;> omega)
  replace H1 := Lib.hid (H1.out.kept hk (fun hn y hy hm => by have h9 := F1.out hn y hy; simp at hm; omega))
  replace H2 := Lib.hid (H2.out.kept hk (fun hn y hy hm => by have h9 := F2.out hn y hy; simp at hm; omega))
  replace HROW := Lib.hid (HROW.out.kept hk (by simp <;> omega))
  replace S1 := Lib.hid (S1.out.kept hk (fun hn y hy hm => by have h9 := SF1.out hn y hy; simp at hm; omega))
  replace S2 := Lib.hid (S2.out.kept hk (fun hn y hy hm => by have h9 := SF2.out hn y hy; simp at hm; omega))
  replace nU0 := Lib.hid e0
  replace nU1 := Lib.hid e1
  replace KT := Lib.hid (KT.out.trans hk (fun x hx hlt => by simp at hx; omega))
  clear hk hfz hW e0 e1
  have tU0 := nU0.out
  have tU1 := nU1.out
  go_wp2_with fail
  clear tU0 tU1
  refine (l3Down_zero P t1 _ HP.out HT1.out).mono ?_
  rintro e ww8 ⟨a6, c6, rfl, hs6, hf6, hk⟩
  have hs1 := Lib.hid hs6
  have G1 := Lib.hid (hf6.mono (B' := w.heap.size + 1 + 1) (by omega))
  clear hs6 hf6
  have z8 := hk.size
  replace fR0 := kf hk nR0 fR0
  replace fR1 := kf hk nR1 fR1
  replace fR2 := kf hk nR2 fR2
  replace fR3 := kf hk nR3 fR3
  replace fU0 := kf hk nU0 fU0
  replace fU1 := kf hk nU1 fU1
  replace nA0 := kc hk nA0
  replace nA1 := kc hk nA1
  replace nA2 := kc hk nA2
  replace nA3 := kc hk nA3
  replace nR0 := kc hk nR0
  replace nR1 := kc hk nR1
  replace nR2 := kc hk nR2
  replace nR3 := kc hk nR3
  replace H1 := Lib.hid (H1.out.kept0 hk)
  replace H2 := Lib.hid (H2.out.kept0 hk)
  replace HROW := Lib.hid (HROW.out.kept0 hk)
  replace S1 := Lib.hid (S1.out.kept0 hk)
  replace S2 := Lib.hid (S2.out.kept0 hk)
  replace nU0 := kc hk nU0
  replace nU1 := kc hk nU1
  replace KT := Lib.hid (KT.out.trans0 hk)
  clear hk
  go_wp2_with fail
  refine (l3Most_two _ _ _ _ _ _ _ _ _ _ _ _ _ HROW.out S1.out S2.out BK1.out BK2.out HTX.out).mono ?_
  rintro e ww9 ⟨a7, c7, rfl, hs7, hf7, hk⟩
  have HS7 := Lib.hid hs7
  clear hs7 hf7
  clear HROW S1 S2
  have z9 := hk.size
  replace fR0 := kf hk nR0 fR0
  replace fR1 := kf hk nR1 fR1
  replace fR2 := kf hk nR2 fR2
  replace fR3 := kf hk nR3 fR3
  replace fU0 := kf hk nU0 fU0
  replace fU1 := kf hk nU1 fU1
  replace nA0 := kc hk nA0
  replace nA1 := kc hk nA1
  replace nA2 := kc hk nA2
  replace nA3 := kc hk nA3
  replace nR0 := kc hk nR0
  replace nR1 := kc hk nR1
  replace nR2 := kc hk nR2
  replace nR3 := kc hk nR3
  replace H1 := Lib.hid (H1.out.kept0 hk)
  replace H2 := Lib.hid (H2.out.kept0 hk)
  replace nU0 := kc hk nU0
  replace nU1 := kc hk nU1
  replace hs1 := Lib.hid (hs1.out.kept0 hk)
  replace KT := Lib.hid (KT.out.trans0 hk)
  clear hk
  go_wp2_with fail
  refine (l3Up_any P _ _ _ tx t2 _ HP.out HS7.out ox9 HT2.out).mono ?_
  rintro e ww10 ⟨a8, c8, rfl, hs8, hf8, hk⟩
  clear HS7
  have hs2 := Lib.hid hs8
  have G2 := Lib.hid (hf8.mono (B' := w.heap.size + 1 + 1) (by omega))
  clear hs8 hf8
  have z10 := hk.size
  replace fR0 := kf hk nR0 fR0
  replace fR1 := kf hk nR1 fR1
  replace fR2 := kf hk nR2 fR2
  replace fR3 := kf hk nR3 fR3
  replace fU0 := kf hk nU0 fU0
  replace fU1 := kf hk nU1 fU1
  replace nA0 := kc hk nA0
  replace nA1 := kc hk nA1
  replace nA2 := kc hk nA2
  replace nA3 := kc hk nA3
  replace nR0 := kc hk nR0
  replace nR1 := kc hk nR1
  replace nR2 := kc hk nR2
  replace nR3 := kc hk nR3
  replace H1 := Lib.hid (H1.out.kept0 hk)
  replace H2 := Lib.hid (H2.out.kept0 hk)
  replace nU0 := kc hk nU0
  replace nU1 := kc hk nU1
  replace hs1 := Lib.hid (hs1.out.kept0 hk)
  replace KT := Lib.hid (KT.out.trans0 hk)
  clear hk
  have tR0 := nR0.out
  have tR1 := nR1.out
  have tR2 := nR2.out
  have tR3 := nR3.out
  have uR0 := fR0.out
  have uR1 := fR1.out
  have uR2 := fR2.out
  have uR3 := fR3.out
  go_wp2_with fail
  clear tR0 tR1 tR2 tR3 uR0 uR1 uR2 uR3
  obtain ⟨p9, hp9⟩ : ∃ r, r = isNeg t1 := ⟨_, rfl⟩
  obtain ⟨q9, hq9⟩ : ∃ r, r = isNeg t2 := ⟨_, rfl⟩
  rw [← hp9, ← hq9]
  generalize hW : ((((ww10.setCell ⟨w.heap.size + 1, 0, none⟩ (.bool p9)).setCell ⟨w.heap.size + 1, 1, none⟩ (.slice a6 (mag t1).length c6)).setCell ⟨w.heap.size + 1, 2, none⟩ (.bool q9)).setCell ⟨w.heap.size + 1, 3, none⟩ (.slice a8 (mag t2).length c8)) = ww11
  have hk : Kept [w.heap.size + 1] ww10 ww11 := by rw [← hW]; exact ((((Kept.refl _ _).setCell _ _ (by simp)).setCell _ _ (by simp)).setCell _ _ (by simp)).setCell _ _ (by simp)
  have hfz : ∀ x, ww11.frozen? x = ww10.frozen? x := by rw [← hW]; intro x; simp only [World.frozen?_setCell]
  obtain ⟨e0, e1, e2, e3⟩ := st4 hW.symm nR0.out nR1.out nR2.out nR3.out
  have z11 := hk.size
  replace fR0 := kz hfz fR0
  replace fR1 := kz hfz fR1
  replace fR2 := kz hfz fR2
  replace fR3 := kz hfz fR3
  replace fU0 := kz hfz fU0
  replace fU1 := kz hfz fU1
  replace nA0 := kd hk nA0 (by simp <;> omega)
  replace nA1 := kd hk nA1 (by simp <;> omega)
  replace nA2 := kd hk nA2 (by simp <;> omega)
  replace nA3 := kd hk nA3 (by simp <;> omega)
  replace H1 := Lib.hid (H1.out.kept hk (fun hn y hy hm => by have h9 := F1.out hn y hy; simp at hm; omega))
  replace H2 := Lib.hid (H2.out.kept hk (fun hn y hy hm => by have h9 := F2.out hn y hy; simp at hm; omega))
  replace nU0 := kd hk nU0 (by simp <;> omega)
  replace nU1 := kd hk nU1 (by simp <;> omega)
  replace hs1 := Lib.hid (hs1.out.kept hk (fun hn y hy hm => by have h9 := G1.out hn y hy; simp at hm; omega))
  replace hs2 := Lib.hid (hs2.out.kept hk (fun hn y hy hm => by have h9 := G2.out hn y hy; simp at hm; omega))
  replace nR0 := Lib.hid e0
  replace nR1 := Lib.hid e1
  replace nR2 := Lib.hid e2
  replace nR3 := Lib.hid e3
  replace KT := Lib.hid (KT.out.trans hk (fun x hx hlt => by simp at hx; omega))
  clear hk hfz hW e0 e1 e2 e3
  have HP9 := Lib.hid hp9
  have HQ9 := Lib.hid hq9
  clear hp9 hq9
  go_wp2_with fail
  have e0 := nR0.out
  have e1 := nR1.out
  have e2 := nR2.out
  have e3 := nR3.out
  refine bodyPost_ret (v := .agg #[.bool p9, .slice a6 (mag t1).length c6, .bool q9, .slice a8 (mag t2).length c8]) (by simp [results, Tryz.results138, go_sem, e0, e1, e2, e3]) rfl ?_
  exact spanV_fin HP9.out HQ9.out hs1.out hs2.out (G1.out.mono (by omega)) (G2.out.mono (by omega)) KT.out
 ·skip
  rw [show sqLow p xs q ys = minZ (sv p xs * sv p xs) (sv q ys * sv q ys) from by unfold sqLow; rw [if_neg hz]] at ht1
  rw [show sqHigh p xs q ys = maxZ (sv p xs * sv p xs) (sv q ys * sv q ys) from rfl] at ht2
  have HZ := Lib.hid (show hasZ p xs q = false by simpa using hz)
  clear hz
  obtain ⟨y1, hy1⟩ : ∃ z, z = sv p xs * sv p xs := ⟨_, rfl⟩
  have o1 : (mag y1).length ≤ 40 := by rw [hy1]; exact mul_len N1.out N1.out ox.lx ox.lx
  obtain ⟨y2, hy2⟩ : ∃ z, z = sv q ys * sv q ys := ⟨_, rfl⟩
  have o2 : (mag y2).length ≤ 40 := by rw [hy2]; exact mul_len N2.out N2.out ox.ly ox.ly
  rw [← hy1, ← hy2] at ht1 ht2
  have HY1 := Lib.hid hy1
  have HY2 := Lib.hid hy2
  obtain ⟨tm, htm⟩ : ∃ t, t = minZ y1 y2 := ⟨_, rfl⟩
  obtain ⟨tx, htx⟩ : ∃ t, t = maxZ y1 y2 := ⟨_, rfl⟩
  have om : (mag tm).length ≤ 40 := by rw [htm]; exact minZ_len2 o1 o2
  have ox9 : (mag tx).length ≤ 40 := by rw [htx]; exact maxZ_len2 o1 o2
  rw [← htx] at ht2
  rw [← htm] at ht1
  have HT1 := Lib.hid ht1
  have HT2 := Lib.hid ht2
  have HTM := Lib.hid (show tm = minZ (sv (isNeg y1) (mag y1)) (sv (isNeg y2) (mag y2)) by rw [sv_mag, sv_mag]; exact htm)
  have HTX := Lib.hid (show tx = maxZ (sv (isNeg y1) (mag y1)) (sv (isNeg y2) (mag y2)) by rw [sv_mag, sv_mag]; exact htx)
  have HP := Lib.hid hP
  have HX := Lib.hid ox.lo
  have BK1 := Lib.hid (bigOk_of o1)
  have BK2 := Lib.hid (bigOk_of o2)
  clear ht1 ht2 htm htx hy1 hy2 hP ox
  go_enter Tryz.func138, Tryz.ntmps138
  go_upto_region 1 with fail
  generalize hW : ((w.alloc (.cells #[.bool p, .slice a n c, .bool q, .slice b m d] 26)).alloc (.cells #[.bool false, .slice none 0 0, .bool false, .slice none 0 0] 26)) = ww0
  have hkk : Kept [] ((w.alloc (.cells #[.bool p, .slice a n c, .bool q, .slice b m d] 26)).alloc (.cells #[.bool false, .slice none 0 0, .bool false, .slice none 0 0] 26)) ww0 := by rw [hW]; exact Kept.refl _ _
  have zzA : w.heap.size + 1 + 1 = ww0.heap.size := by rw [← hW]; simp
  obtain ⟨⟨nA0, nA1, nA2, nA3⟩, _⟩ := tp4 hkk.peel (g := w.heap.size) (by simp) (by simp)
  obtain ⟨⟨nR0, nR1, nR2, nR3⟩, fR0, fR1, fR2, fR3⟩ := tp4 hkk (g := w.heap.size + 1) (by simp) (by simp)
  have hk := hkk.peel.peel
  clear hkk hW
  have z0 := hk.size
  have KT := Lib.hid hk
  clear hk
  replace H1 := Lib.hid (H1.out.kept0 KT.out)
  replace H2 := Lib.hid (H2.out.kept0 KT.out)
  have tA0 := nA0.out
  have tA1 := nA1.out
  have tA2 := nA2.out
  have tA3 := nA3.out
  have kr := Lib.hid (Kept.refl [] ww0)
  go_region_held3 (fun w' => w'.cell? ⟨w.heap.size, 0, none⟩ = some (.bool p) ∧ w'.cell? ⟨w.heap.size, 1, none⟩ = some (.slice a n c) ∧ w'.cell? ⟨w.heap.size, 2, none⟩ = some (.bool q) ∧ w'.cell? ⟨w.heap.size, 3, none⟩ = some (.slice b m d) ∧ Hid (Kept [] ww0 w'))
   ((go_split_ands; (try refine ⟨?_, ?_, ?_, ?_, ?_⟩) <;> with_reducible first | assumption | exact drew_alloc_cell (by assumption) | exact drew_alloc_cell2 (by assumption) | exact drew_cell (by assumption) | exact alloc_cell (by assumption) | exact Lib.hid (Kept.trans0 (Hid.out (by assumption)) (by assumption)) | exact Kept.cell (by assumption) (by assumption) (by simp) | exact Kept.allocH (by assumption) | exact Kept.drewAlloc2H (by assumption) | exact Kept.drewAllocH (by assumption) | exact Kept.drewH (by assumption)))
   (first
    | (go_at_call 108; with_reducible show Calls _ _ #[Value.agg #[Value.bool p, Value.slice a n c], Value.agg #[Value.bool p, Value.slice a n c]] _ _; go_split_ands; refine (l2Mul_z _ _ _ _ _ _ _ _ _ _ _ _ N1.out N1.out (H1.out.kept0 ((Kept.refl [] _).drew)) (H1.out.kept0 ((Kept.refl [] _).drew)) HY1.out).mono ?_; intro e v1 hh; unfold BigV at hh; obtain ⟨b1, hh⟩ := hh; obtain ⟨e1, hh, hs1, hf1, hk1⟩ := hh; subst hh)
    | (go_at_call 108; with_reducible show Calls _ _ #[Value.agg #[Value.bool q, Value.slice b m d], Value.agg #[Value.bool q, Value.slice b m d]] _ _; go_split_ands; refine (l2Mul_z _ _ _ _ _ _ _ _ _ _ _ _ N2.out N2.out (H2.out.kept0 (((Kept.refl [] _).drew).trans0 hk1)) (H2.out.kept0 (((Kept.refl [] _).drew).trans0 hk1)) HY2.out).mono ?_; intro e v2 hh; unfold BigV at hh; obtain ⟨b2, hh⟩ := hh; obtain ⟨e2, hh, hs2, hf2, hk2⟩ := hh; subst hh; have kz := (((Kept.refl [] ww0).drew).trans0 hk1).trans0 hk2))
  clear kr tA0 tA1 tA2 tA3
  have hs1 := hs1.kept0 hk2
  have hrow := rowB2_at (xs := mag y1) (ys := mag y2) (W := v2.alloc (.cells #[.bool (isNeg y1), .slice b1 (mag y1).length e1, .bool (isNeg y2), .slice b2 (mag y2).length e2] 24)) (g := v2.heap.size) rfl rfl
  have hs1 := hs1.kept0 ((Kept.refl [] v2).alloc (.cells #[.bool (isNeg y1), .slice b1 (mag y1).length e1, .bool (isNeg y2), .slice b2 (mag y2).length e2] 24))
  have hs2 := hs2.kept0 ((Kept.refl [] v2).alloc (.cells #[.bool (isNeg y1), .slice b1 (mag y1).length e1, .bool (isNeg y2), .slice b2 (mag y2).length e2] 24))
  have hk := kz.alloc (.cells #[.bool (isNeg y1), .slice b1 (mag y1).length e1, .bool (isNeg y2), .slice b2 (mag y2).length e2] 24)
  generalize hW : (v2.alloc (.cells #[.bool (isNeg y1), .slice b1 (mag y1).length e1, .bool (isNeg y2), .slice b2 (mag y2).length e2] 24)) = ww3 at hrow hs1 hs2 hk ⊢
  have zv2 : v2.heap.size + 1 = ww3.heap.size := by rw [← hW]; simp
  have HROW := Lib.hid hrow
  have S1 := Lib.hid hs1
  have S2 := Lib.hid hs2
  have zq := kz.size
  clear hrow hs1 hs2 hf1 hf2 hk1 hk2 hW kz
  have SF1 := Lib.hid S1.out.lt
  have SF2 := Lib.hid S2.out.lt
  have z3 := hk.size
  replace fR0 := kf hk nR0 fR0
  replace fR1 := kf hk nR1 fR1
  replace fR2 := kf hk nR2 fR2
  replace fR3 := kf hk nR3 fR3
  replace nA0 := kc hk nA0
  replace nA1 := kc hk nA1
  replace nA2 := kc hk nA2
  replace nA3 := kc hk nA3
  replace nR0 := kc hk nR0
  replace nR1 := kc hk nR1
  replace nR2 := kc hk nR2
  replace nR3 := kc hk nR3
  replace H1 := Lib.hid (H1.out.kept0 hk)
  replace H2 := Lib.hid (H2.out.kept0 hk)
  replace KT := Lib.hid (KT.out.trans0 hk)
  clear hk
  go_wp2_with fail
  refine (l3Least_two _ _ _ _ _ _ _ _ _ _ _ _ _ HROW.out S1.out S2.out BK1.out BK2.out HTM.out).mono ?_
  rintro e ww4 ⟨a5, c5, rfl, hs5, hf5, hk⟩
  have HS5 := Lib.hid hs5
  clear hs5 hf5
  have z4 := hk.size
  replace fR0 := kf hk nR0 fR0
  replace fR1 := kf hk nR1 fR1
  replace fR2 := kf hk nR2 fR2
  replace fR3 := kf hk nR3 fR3
  replace nA0 := kc hk nA0
  replace nA1 := kc hk nA1
  replace nA2 := kc hk nA2
  replace nA3 := kc hk nA3
  replace nR0 := kc hk nR0
  replace nR1 := kc hk nR1
  replace nR2 := kc hk nR2
  replace nR3 := kc hk nR3
  replace H1 := Lib.hid (H1.out.kept0 hk)
  replace H2 := Lib.hid (H2.out.kept0 hk)
  replace HROW := Lib.hid (HROW.out.kept0 hk)
  replace S1 := Lib.hid (S1.out.kept0 hk)
  replace S2 := Lib.hid (S2.out.kept0 hk)
  replace KT := Lib.hid (KT.out.trans0 hk)
  clear hk
  go_upto_region 3 with fail
  generalize hW : (ww4.alloc (.cells #[.bool (isNeg tm), .slice a5 (mag tm).length c5] 24)) = ww5
  have hk : Kept [] ww4 ww5 := by rw [← hW]; exact (Kept.refl [] _).alloc _
  have zzU : ww4.heap.size + 1 = ww5.heap.size := by rw [← hW]; simp
  have nU0 := Lib.hid (show ww5.cell? ⟨ww4.heap.size, 0, none⟩ = some (.bool (isNeg tm)) by rw [← hW, World.cell?_alloc_new]; rfl)
  have fU0 := Lib.hid (show ww5.frozen? ⟨ww4.heap.size, 0, none⟩ = false by rw [← hW]; exact frozen_of_row _ _ _ _ _ (heap_alloc_new _ _))
  have nU1 := Lib.hid (show ww5.cell? ⟨ww4.heap.size, 1, none⟩ = some (.slice a5 (mag tm).length c5) by rw [← hW, World.cell?_alloc_new]; rfl)
  have fU1 := Lib.hid (show ww5.frozen? ⟨ww4.heap.size, 1, none⟩ = false by rw [← hW]; exact frozen_of_row _ _ _ _ _ (heap_alloc_new _ _))
  clear hW
  have z5 := hk.size
  replace fR0 := kf hk nR0 fR0
  replace fR1 := kf hk nR1 fR1
  replace fR2 := kf hk nR2 fR2
  replace fR3 := kf hk nR3 fR3
  replace nA0 := kc hk nA0
  replace nA1 := kc hk nA1
  replace nA2 := kc hk nA2
  replace nA3 := kc hk nA3
  replace nR0 := kc hk nR0
  replace nR1 := kc hk nR1
  replace nR2 := kc hk nR2
  replace nR3 := kc hk nR3
  replace H1 := Lib.hid (H1.out.kept0 hk)
  replace H2 := Lib.hid (H2.out.kept0 hk)
  replace HROW := Lib.hid (HROW.out.kept0 hk)
  replace S1 := Lib.hid (S1.out.kept0 hk)
  replace S2 := Lib.hid (S2.out.kept0 hk)
  replace HS5 := Lib.hid (HS5.out.kept0 hk)
  replace KT := Lib.hid (KT.out.trans0 hk)
  clear hk
  have tA0 := nA0.out
  have tA1 := nA1.out
  have tA2 := nA2.out
  have tA3 := nA3.out
  go_wp2_with fail
  clear tA0 tA1 tA2 tA3
  refine (l3Zero_any _ _ _ _ _ _ _ _ _ _ H1.out HX.out).mono ?_
  rintro e ww6 ⟨rfl, hk⟩
  rw [HZ.out]
  have z6 := hk.size
  replace fR0 := kf hk nR0 fR0
  replace fR1 := kf hk nR1 fR1
  replace fR2 := kf hk nR2 fR2
  replace fR3 := kf hk nR3 fR3
  replace fU0 := kf hk nU0 fU0
  replace fU1 := kf hk nU1 fU1
  replace nA0 := kc hk nA0
  replace nA1 := kc hk nA1
  replace nA2 := kc hk nA2
  replace nA3 := kc hk nA3
  replace nR0 := kc hk nR0
  replace nR1 := kc hk nR1
  replace nR2 := kc hk nR2
  replace nR3 := kc hk nR3
  replace H1 := Lib.hid (H1.out.kept0 hk)
  replace H2 := Lib.hid (H2.out.kept0 hk)
  replace HROW := Lib.hid (HROW.out.kept0 hk)
  replace S1 := Lib.hid (S1.out.kept0 hk)
  replace S2 := Lib.hid (S2.out.kept0 hk)
  replace HS5 := Lib.hid (HS5.out.kept0 hk)
  replace nU0 := kc hk nU0
  replace nU1 := kc hk nU1
  replace KT := Lib.hid (KT.out.trans0 hk)
  clear hk
  go_upto_region 5 with fail
  have tU0 := nU0.out
  have tU1 := nU1.out
  go_wp2_with fail
  clear tU0 tU1
  refine (l3Down_any P _ _ _ tm t1 _ HP.out HS5.out om HT1.out).mono ?_
  rintro e ww7 ⟨a6, c6, rfl, hs6, hf6, hk⟩
  clear HS5
  have hs1 := Lib.hid hs6
  have G1 := Lib.hid (hf6.mono (B' := w.heap.size + 1 + 1) (by omega))
  clear hs6 hf6
  have z7 := hk.size
  replace fR0 := kf hk nR0 fR0
  replace fR1 := kf hk nR1 fR1
  replace fR2 := kf hk nR2 fR2
  replace fR3 := kf hk nR3 fR3
  replace fU0 := kf hk nU0 fU0
  replace fU1 := kf hk nU1 fU1
  replace nA0 := kc hk nA0
  replace nA1 := kc hk nA1
  replace nA2 := kc hk nA2
  replace nA3 := kc hk nA3
  replace nR0 := kc hk nR0
  replace nR1 := kc hk nR1
  replace nR2 := kc hk nR2
  replace nR3 := kc hk nR3
  replace H1 := Lib.hid (H1.out.kept0 hk)
  replace H2 := Lib.hid (H2.out.kept0 hk)
  replace HROW := Lib.hid (HROW.out.kept0 hk)
  replace S1 := Lib.hid (S1.out.kept0 hk)
  replace S2 := Lib.hid (S2.out.kept0 hk)
  replace nU0 := kc hk nU0
  replace nU1 := kc hk nU1
  replace KT := Lib.hid (KT.out.trans0 hk)
  clear hk
  go_wp2_with fail
  refine (l3Most_two _ _ _ _ _ _ _ _ _ _ _ _ _ HROW.out S1.out S2.out BK1.out BK2.out HTX.out).mono ?_
  rintro e ww8 ⟨a7, c7, rfl, hs7, hf7, hk⟩
  have HS7 := Lib.hid hs7
  clear hs7 hf7
  clear HROW S1 S2
  have z8 := hk.size
  replace fR0 := kf hk nR0 fR0
  replace fR1 := kf hk nR1 fR1
  replace fR2 := kf hk nR2 fR2
  replace fR3 := kf hk nR3 fR3
  replace fU0 := kf hk nU0 fU0
  replace fU1 := kf hk nU1 fU1
  replace nA0 := kc hk nA0
  replace nA1 := kc hk nA1
  replace nA2 := kc hk nA2
  replace nA3 := kc hk nA3
  replace nR0 := kc hk nR0
  replace nR1 := kc hk nR1
  replace nR2 := kc hk nR2
  replace nR3 := kc hk nR3
  replace H1 := Lib.hid (H1.out.kept0 hk)
  replace H2 := Lib.hid (H2.out.kept0 hk)
  replace nU0 := kc hk nU0
  replace nU1 := kc hk nU1
  replace hs1 := Lib.hid (hs1.out.kept0 hk)
  replace KT := Lib.hid (KT.out.trans0 hk)
  clear hk
  go_wp2_with fail
  refine (l3Up_any P _ _ _ tx t2 _ HP.out HS7.out ox9 HT2.out).mono ?_
  rintro e ww9 ⟨a8, c8, rfl, hs8, hf8, hk⟩
  clear HS7
  have hs2 := Lib.hid hs8
  have G2 := Lib.hid (hf8.mono (B' := w.heap.size + 1 + 1) (by omega))
  clear hs8 hf8
  have z9 := hk.size
  replace fR0 := kf hk nR0 fR0
  replace fR1 := kf hk nR1 fR1
  replace fR2 := kf hk nR2 fR2
  replace fR3 := kf hk nR3 fR3
  replace fU0 := kf hk nU0 fU0
  replace fU1 := kf hk nU1 fU1
  replace nA0 := kc hk nA0
  replace nA1 := kc hk nA1
  replace nA2 := kc hk nA2
  replace nA3 := kc hk nA3
  replace nR0 := kc hk nR0
  replace nR1 := kc hk nR1
  replace nR2 := kc hk nR2
  replace nR3 := kc hk nR3
  replace H1 := Lib.hid (H1.out.kept0 hk)
  replace H2 := Lib.hid (H2.out.kept0 hk)
  replace nU0 := kc hk nU0
  replace nU1 := kc hk nU1
  replace hs1 := Lib.hid (hs1.out.kept0 hk)
  replace KT := Lib.hid (KT.out.trans0 hk)
  clear hk
  have tR0 := nR0.out
  have tR1 := nR1.out
  have tR2 := nR2.out
  have tR3 := nR3.out
  have uR0 := fR0.out
  have uR1 := fR1.out
  have uR2 := fR2.out
  have uR3 := fR3.out
  go_wp2_with fail
  clear tR0 tR1 tR2 tR3 uR0 uR1 uR2 uR3
  obtain ⟨p9, hp9⟩ : ∃ r, r = isNeg t1 := ⟨_, rfl⟩
  obtain ⟨q9, hq9⟩ : ∃ r, r = isNeg t2 := ⟨_, rfl⟩
  rw [← hp9, ← hq9]
  generalize hW : ((((ww9.setCell ⟨w.heap.size + 1, 0, none⟩ (.bool p9)).setCell ⟨w.heap.size + 1, 1, none⟩ (.slice a6 (mag t1).length c6)).setCell ⟨w.heap.size + 1, 2, none⟩ (.bool q9)).setCell ⟨w.heap.size + 1, 3, none⟩ (.slice a8 (mag t2).length c8)) = ww10
  have hk : Kept [w.heap.size + 1] ww9 ww10 := by rw [← hW]; exact ((((Kept.refl _ _).setCell _ _ (by simp)).setCell _ _ (by simp)).setCell _ _ (by simp)).setCell _ _ (by simp)
  have hfz : ∀ x, ww10.frozen? x = ww9.frozen? x := by rw [← hW]; intro x; simp only [World.frozen?_setCell]
  obtain ⟨e0, e1, e2, e3⟩ := st4 hW.symm nR0.out nR1.out nR2.out nR3.out
  have z10 := hk.size
  replace fR0 := kz hfz fR0
  replace fR1 := kz hfz fR1
  replace fR2 := kz hfz fR2
  replace fR3 := kz hfz fR3
  replace fU0 := kz hfz fU0
  replace fU1 := kz hfz fU1
  replace nA0 := kd hk nA0 (by simp <;> omega)
  replace nA1 := kd hk nA1 (by simp <;> omega)
  replace nA2 := kd hk nA2 (by simp <;> omega)
  replace nA3 := kd hk nA3 (by simp <;> omega)
  replace H1 := Lib.hid (H1.out.kept hk (fun hn y hy hm => by have h9 := F1.out hn y hy; simp at hm; omega))
  replace H2 := Lib.hid (H2.out.kept hk (fun hn y hy hm => by have h9 := F2.out hn y hy; simp at hm; omega))
  replace nU0 := kd hk nU0 (by simp <;> omega)
  replace nU1 := kd hk nU1 (by simp <;> omega)
  replace hs1 := Lib.hid (hs1.out.kept hk (fun hn y hy hm => by have h9 := G1.out hn y hy; simp at hm; omega))
  replace hs2 := Lib.hid (hs2.out.kept hk (fun hn y hy hm => by have h9 := G2.out hn y hy; simp at hm; omega))
  replace nR0 := Lib.hid e0
  replace nR1 := Lib.hid e1
  replace nR2 := Lib.hid e2
  replace nR3 := Lib.hid e3
  replace KT := Lib.hid (KT.out.trans hk (fun x hx hlt => by simp at hx; omega))
  clear hk hfz hW e0 e1 e2 e3
  have HP9 := Lib.hid hp9
  have HQ9 := Lib.hid hq9
  clear hp9 hq9
  go_wp2_with fail
  have e0 := nR0.out
  have e1 := nR1.out
  have e2 := nR2.out
  have e3 := nR3.out
  refine bodyPost_ret (v := .agg #[.bool p9, .slice a6 (mag t1).length c6, .bool q9, .slice a8 (mag t2).length c8]) (by simp [results, Tryz.results138, go_sem, e0, e1, e2, e3]) rfl ?_
  exact spanV_fin HP9.out HQ9.out hs1.out hs2.out (G1.out.mono (by omega)) (G2.out.mono (by omega)) KT.out

end Go.Proofs.YtfafjijoeanbhaaGreat
