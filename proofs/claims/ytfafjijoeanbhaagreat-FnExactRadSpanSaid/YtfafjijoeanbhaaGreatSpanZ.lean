/-
 Contract of the model's l3Mul. Conditions: the precision is one; the ends have no fault and 20 limbs at most.
-/
import Derived.Deep.RegionHeld3
import Derived.Deep.DrawnRows
import Derived.Deep.DeepCutAuto
import Derived.Test.YtfafjijoeanbhaaGreatSpanY
namespace Go.Proofs.YtfafjijoeanbhaaGreat
open Go.RowKit

theorem min4_len {a b c d : Int} {k : Nat} (h1 : (mag a).length ≤ k) (h2 : (mag b).length ≤ k) (h3 : (mag c).length ≤ k) (h4 : (mag d).length ≤ k) : (mag (min4 a b c d)).length ≤ k := by
 have s : ∀ x y : Int, (mag x).length ≤ k → (mag y).length ≤ k → (mag (minZ x y)).length ≤ k := fun x y hx hy => by
  rcases minZ_cases x y with ⟨e, _⟩ | ⟨e, _⟩ <;> rw [e] <;> assumption
 exact s _ _ (s _ _ (s _ _ h1 h2) h3) h4
theorem max4_len {a b c d : Int} {k : Nat} (h1 : (mag a).length ≤ k) (h2 : (mag b).length ≤ k) (h3 : (mag c).length ≤ k) (h4 : (mag d).length ≤ k) : (mag (max4 a b c d)).length ≤ k := by
 have s : ∀ x y : Int, (mag x).length ≤ k → (mag y).length ≤ k → (mag (maxZ x y)).length ≤ k := fun x y hx hy => by
  rcases maxZ_cases x y with ⟨e, _⟩ | ⟨e, _⟩ <;> rw [e] <;> assumption
 exact s _ _ (s _ _ (s _ _ h1 h2) h3) h4
theorem l2Mul_z (p q : Bool) (a b : Option Addr) (n c m d : Nat) (xs ys : List Int) (z : Int) (w : World) (hx : Nat40 xs) (hy : Nat40 ys) (h : Sl w a n c xs) (h' : Sl w b m d ys) (hz : z = sv p xs * sv q ys) :
  Calls Tryz.prog 108 #[.agg #[.bool p, .slice a n c], .agg #[.bool q, .slice b m d]] w (BigV w.heap.size w z) := by
 subst hz; exact l2Mul_any _ _ _ _ _ _ _ _ _ _ _ hx hy h h'

set_option maxHeartbeats 8000000 in
set_option maxRecDepth 20000 in
theorem l3Mul_any (P : Int) (p q : Bool) (a b : Option Addr) (n c m d : Nat) (xs ys : List Int) (p' q' : Bool) (a' b' : Option Addr) (n' c' m' d' : Nat) (xs' ys' : List Int) (t1 t2 : Int) (w : World) (h1 : Sl w a n c xs) (h2 : Sl w b m d ys) (h3 : Sl w a' n' c' xs') (h4 : Sl w b' m' d' ys') (hP : isP P = true) (ox : SpanOk p xs q ys) (oy : SpanOk p' xs' q' ys') (ht1 : t1 = outZ false (min4 (sv p xs * sv p' xs') (sv p xs * sv q' ys') (sv q ys * sv p' xs') (sv q ys * sv q' ys')) P.toNat) (ht2 : t2 = outZ true (max4 (sv p xs * sv p' xs') (sv p xs * sv q' ys') (sv q ys * sv p' xs') (sv q ys * sv q' ys')) P.toNat) :
  Calls Tryz.prog 88 #[.int .i64 P, .agg #[.bool p, .slice a n c, .bool q, .slice b m d], .agg #[.bool p', .slice a' n' c', .bool q', .slice b' m' d']] w (SpanV w t1 t2) := by
 have H1 := Lib.hid h1
 have H2 := Lib.hid h2
 have H3 := Lib.hid h3
 have H4 := Lib.hid h4
 clear h1 h2 h3 h4
 have F1 := Lib.hid H1.out.lt
 have F2 := Lib.hid H2.out.lt
 have F3 := Lib.hid H3.out.lt
 have F4 := Lib.hid H4.out.lt
 have N1 := Lib.hid ox.lo.n40
 have N2 := Lib.hid ox.hi.n40
 have N3 := Lib.hid oy.lo.n40
 have N4 := Lib.hid oy.hi.n40
 obtain ⟨y1, hy1⟩ : ∃ z, z = sv p xs * sv p' xs' := ⟨_, rfl⟩
 have o1 : (mag y1).length ≤ 40 := by rw [hy1]; exact mul_len N1.out N3.out ox.lx oy.lx
 have HY1 := Lib.hid hy1
 obtain ⟨y2, hy2⟩ : ∃ z, z = sv p xs * sv q' ys' := ⟨_, rfl⟩
 have o2 : (mag y2).length ≤ 40 := by rw [hy2]; exact mul_len N1.out N4.out ox.lx oy.ly
 have HY2 := Lib.hid hy2
 obtain ⟨y3, hy3⟩ : ∃ z, z = sv q ys * sv p' xs' := ⟨_, rfl⟩
 have o3 : (mag y3).length ≤ 40 := by rw [hy3]; exact mul_len N2.out N3.out ox.ly oy.lx
 have HY3 := Lib.hid hy3
 obtain ⟨y4, hy4⟩ : ∃ z, z = sv q ys * sv q' ys' := ⟨_, rfl⟩
 have o4 : (mag y4).length ≤ 40 := by rw [hy4]; exact mul_len N2.out N4.out ox.ly oy.ly
 have HY4 := Lib.hid hy4
 obtain ⟨tm, htm⟩ : ∃ t, t = min4 y1 y2 y3 y4 := ⟨_, rfl⟩
 obtain ⟨tx, htx⟩ : ∃ t, t = max4 y1 y2 y3 y4 := ⟨_, rfl⟩
 have om : (mag tm).length ≤ 40 := by rw [htm]; exact min4_len o1 o2 o3 o4
 have ox9 : (mag tx).length ≤ 40 := by rw [htx]; exact max4_len o1 o2 o3 o4
 have HT1 := Lib.hid (show t1 = outZ false tm P.toNat by rw [ht1, htm, hy1, hy2, hy3, hy4])
 have HT2 := Lib.hid (show t2 = outZ true tx P.toNat by rw [ht2, htx, hy1, hy2, hy3, hy4])
 have HTM := Lib.hid htm
 have HTX := Lib.hid htx
 have HP := Lib.hid hP
 clear ht1 ht2 htm htx hy1 hy2 hy3 hy4 hP ox oy
 go_enter Tryz.func88, Tryz.ntmps88
 go_upto_region 1 with fail
 generalize hW : (((w.alloc (.cells #[.bool p, .slice a n c, .bool q, .slice b m d] 26)).alloc (.cells #[.bool p', .slice a' n' c', .bool q', .slice b' m' d'] 26)).alloc (.cells #[.bool false, .slice none 0 0, .bool false, .slice none 0 0] 26)) = ww0
 have hkk : Kept [] (((w.alloc (.cells #[.bool p, .slice a n c, .bool q, .slice b m d] 26)).alloc (.cells #[.bool p', .slice a' n' c', .bool q', .slice b' m' d'] 26)).alloc (.cells #[.bool false, .slice none 0 0, .bool false, .slice none 0 0] 26)) ww0 := by rw [hW]; exact Kept.refl _ _
 have zzA : w.heap.size + 1 + 1 + 1 = ww0.heap.size := by rw [← hW]; simp
 obtain ⟨⟨nA0, nA1, nA2, nA3⟩, _⟩ := tp4 hkk.peel.peel (g := w.heap.size) (by simp) (by simp)
 obtain ⟨⟨nB0, nB1, nB2, nB3⟩, _⟩ := tp4 hkk.peel (g := w.heap.size + 1) (by simp) (by simp)
 obtain ⟨⟨nR0, nR1, nR2, nR3⟩, fR0, fR1, fR2, fR3⟩ := tp4 hkk (g := w.heap.size + 1 + 1) (by simp) (by simp)
 have hk := hkk.peel.peel.peel
 clear hkk hW
 have z0 := hk.size
 have KT := Lib.hid hk
 clear hk
 replace H1 := Lib.hid (H1.out.kept0 KT.out)
 replace H2 := Lib.hid (H2.out.kept0 KT.out)
 replace H3 := Lib.hid (H3.out.kept0 KT.out)
 replace H4 := Lib.hid (H4.out.kept0 KT.out)
 have tA0 := nA0.out
 have tA1 := nA1.out
 have tA2 := nA2.out
 have tA3 := nA3.out
 have tB0 := nB0.out
 have tB1 := nB1.out
 have tB2 := nB2.out
 have tB3 := nB3.out
 have kr := Lib.hid (Kept.refl [] ww0)
 go_region_held3 (fun w' => w'.cell? ⟨w.heap.size, 0, none⟩ = some (.bool p) ∧ w'.cell? ⟨w.heap.size, 1, none⟩ = some (.slice a n c) ∧ w'.cell? ⟨w.heap.size, 2, none⟩ = some (.bool q) ∧ w'.cell? ⟨w.heap.size, 3, none⟩ = some (.slice b m d) ∧ w'.cell? ⟨w.heap.size + 1, 0, none⟩ = some (.bool p') ∧ w'.cell? ⟨w.heap.size + 1, 1, none⟩ = some (.slice a' n' c') ∧ w'.cell? ⟨w.heap.size + 1, 2, none⟩ = some (.bool q') ∧ w'.cell? ⟨w.heap.size + 1, 3, none⟩ = some (.slice b' m' d') ∧ Hid (Kept [] ww0 w'))
  ((go_split_ands; (try refine ⟨?_, ?_, ?_, ?_, ?_, ?_, ?_, ?_, ?_⟩) <;> with_reducible first | assumption | exact drew_alloc_cell (by assumption) | exact drew_alloc_cell2 (by assumption) | exact drew_cell (by assumption) | exact alloc_cell (by assumption) | exact Lib.hid (Kept.trans0 (Hid.out (by assumption)) (by assumption)) | exact Kept.cell (by assumption) (by assumption) (by simp) | exact Kept.allocH (by assumption) | exact Kept.drewAlloc2H (by assumption) | exact Kept.drewAllocH (by assumption) | exact Kept.drewH (by assumption)))
  (first
   | (go_at_call 108; with_reducible show Calls _ _ #[Value.agg #[Value.bool p, Value.slice a n c], Value.agg #[Value.bool p', Value.slice a' n' c']] _ _; go_split_ands; refine (l2Mul_z _ _ _ _ _ _ _ _ _ _ _ _ N1.out N3.out (H1.out.kept0 ((Kept.refl [] _).drew)) (H3.out.kept0 ((Kept.refl [] _).drew)) HY1.out).mono ?_; intro e v1 hh; unfold BigV at hh; obtain ⟨b1, hh⟩ := hh; obtain ⟨e1, hh, hs1, hf1, hk1⟩ := hh; subst hh)
   | (go_at_call 108; with_reducible show Calls _ _ #[Value.agg #[Value.bool p, Value.slice a n c], Value.agg #[Value.bool q', Value.slice b' m' d']] _ _; go_split_ands; refine (l2Mul_z _ _ _ _ _ _ _ _ _ _ _ _ N1.out N4.out (H1.out.kept0 (((Kept.refl [] _).drew).trans0 hk1)) (H4.out.kept0 (((Kept.refl [] _).drew).trans0 hk1)) HY2.out).mono ?_; intro e v2 hh; unfold BigV at hh; obtain ⟨b2, hh⟩ := hh; obtain ⟨e2, hh, hs2, hf2, hk2⟩ := hh; subst hh)
   | (go_at_call 108; with_reducible show Calls _ _ #[Value.agg #[Value.bool q, Value.slice b m d], Value.agg #[Value.bool p', Value.slice a' n' c']] _ _; go_split_ands; refine (l2Mul_z _ _ _ _ _ _ _ _ _ _ _ _ N2.out N3.out (H2.out.kept0 ((((Kept.refl [] _).drew).trans0 hk1).trans0 hk2)) (H3.out.kept0 ((((Kept.refl [] _).drew).trans0 hk1).trans0 hk2)) HY3.out).mono ?_; intro e v3 hh; unfold BigV at hh; obtain ⟨b3, hh⟩ := hh; obtain ⟨e3, hh, hs3, hf3, hk3⟩ := hh; subst hh)
   | (go_at_call 108; with_reducible show Calls _ _ #[Value.agg #[Value.bool q, Value.slice b m d], Value.agg #[Value.bool q', Value.slice b' m' d']] _ _; go_split_ands; refine (l2Mul_z _ _ _ _ _ _ _ _ _ _ _ _ N2.out N4.out (H2.out.kept0 (((((Kept.refl [] _).drew).trans0 hk1).trans0 hk2).trans0 hk3)) (H4.out.kept0 (((((Kept.refl [] _).drew).trans0 hk1).trans0 hk2).trans0 hk3)) HY4.out).mono ?_; intro e v4 hh; unfold BigV at hh; obtain ⟨b4, hh⟩ := hh; obtain ⟨e4, hh, hs4, hf4, hk4⟩ := hh; subst hh; have kz := (((((Kept.refl [] ww0).drew).trans0 hk1).trans0 hk2).trans0 hk3).trans0 hk4))
 clear kr tA0 tA1 tA2 tA3 tB0 tB1 tB2 tB3
 have hs1 := hs1.kept0 ((hk2.trans0 hk3).trans0 hk4)
 have hs2 := hs2.kept0 (hk3.trans0 hk4)
 have hs3 := hs3.kept0 hk4
 have hrow := rowB4_at (W := v4.alloc (.cells #[.bool (isNeg y1), .slice b1 (mag y1).length e1, .bool (isNeg y2), .slice b2 (mag y2).length e2, .bool (isNeg y3), .slice b3 (mag y3).length e3, .bool (isNeg y4), .slice b4 (mag y4).length e4] 24)) (g := v4.heap.size) rfl rfl
 have hok := okB4 (hs1.kept0 ((Kept.refl [] v4).alloc (.cells #[.bool (isNeg y1), .slice b1 (mag y1).length e1, .bool (isNeg y2), .slice b2 (mag y2).length e2, .bool (isNeg y3), .slice b3 (mag y3).length e3, .bool (isNeg y4), .slice b4 (mag y4).length e4] 24))) (hs2.kept0 ((Kept.refl [] v4).alloc _)) (hs3.kept0 ((Kept.refl [] v4).alloc _)) (hs4.kept0 ((Kept.refl [] v4).alloc _)) o1 o2 o3 o4
 have hk := kz.alloc (.cells #[.bool (isNeg y1), .slice b1 (mag y1).length e1, .bool (isNeg y2), .slice b2 (mag y2).length e2, .bool (isNeg y3), .slice b3 (mag y3).length e3, .bool (isNeg y4), .slice b4 (mag y4).length e4] 24)
 generalize hW : (v4.alloc (.cells #[.bool (isNeg y1), .slice b1 (mag y1).length e1, .bool (isNeg y2), .slice b2 (mag y2).length e2, .bool (isNeg y3), .slice b3 (mag y3).length e3, .bool (isNeg y4), .slice b4 (mag y4).length e4] 24)) = ww1 at hrow hok hk ⊢
 have HROW := Lib.hid hrow
 have HOK := Lib.hid hok
 have zq := kz.size
 clear hrow hok hs1 hs2 hs3 hs4 hf1 hf2 hf3 hf4 hk1 hk2 hk3 hk4 hW
 clear kz
 have z1 := hk.size
 replace fR0 := kf hk nR0 fR0
 replace fR1 := kf hk nR1 fR1
 replace fR2 := kf hk nR2 fR2
 replace fR3 := kf hk nR3 fR3
 replace nA0 := kc hk nA0
 replace nA1 := kc hk nA1
 replace nA2 := kc hk nA2
 replace nA3 := kc hk nA3
 replace nB0 := kc hk nB0
 replace nB1 := kc hk nB1
 replace nB2 := kc hk nB2
 replace nB3 := kc hk nB3
 replace nR0 := kc hk nR0
 replace nR1 := kc hk nR1
 replace nR2 := kc hk nR2
 replace nR3 := kc hk nR3
 replace H1 := Lib.hid (H1.out.kept0 hk)
 replace H2 := Lib.hid (H2.out.kept0 hk)
 replace H3 := Lib.hid (H3.out.kept0 hk)
 replace H4 := Lib.hid (H4.out.kept0 hk)
 replace KT := Lib.hid (KT.out.trans0 hk)
 clear hk
 have tA0 := nA0.out
 have tA1 := nA1.out
 have tA2 := nA2.out
 have tA3 := nA3.out
 go_wp2_with fail
 clear tA0 tA1 tA2 tA3
 refine (l3Least_four _ y1 y2 y3 y4 tm _ _ _ _ _ _ _ _ _ HROW.out HOK.out HTM.out).mono ?_
 rintro e ww2 ⟨a5, c5, rfl, hs5, hf5, hk⟩
 replace HROW := Lib.hid (HROW.out.kept hk (by simp))
 replace HOK := Lib.hid (HOK.out.kept hk)
 have HS5 := Lib.hid hs5
 clear hs5 hf5
 have z2 := hk.size
 replace fR0 := kf hk nR0 fR0
 replace fR1 := kf hk nR1 fR1
 replace fR2 := kf hk nR2 fR2
 replace fR3 := kf hk nR3 fR3
 replace nA0 := kc hk nA0
 replace nA1 := kc hk nA1
 replace nA2 := kc hk nA2
 replace nA3 := kc hk nA3
 replace nB0 := kc hk nB0
 replace nB1 := kc hk nB1
 replace nB2 := kc hk nB2
 replace nB3 := kc hk nB3
 replace nR0 := kc hk nR0
 replace nR1 := kc hk nR1
 replace nR2 := kc hk nR2
 replace nR3 := kc hk nR3
 replace H1 := Lib.hid (H1.out.kept0 hk)
 replace H2 := Lib.hid (H2.out.kept0 hk)
 replace H3 := Lib.hid (H3.out.kept0 hk)
 replace H4 := Lib.hid (H4.out.kept0 hk)
 replace KT := Lib.hid (KT.out.trans0 hk)
 clear hk
 have tA0 := nA0.out
 have tA1 := nA1.out
 have tA2 := nA2.out
 have tA3 := nA3.out
 go_wp2_with fail
 clear tA0 tA1 tA2 tA3
 refine (l3Down_any P _ _ _ tm t1 _ HP.out HS5.out om HT1.out).mono ?_
 rintro e ww3 ⟨a6, c6, rfl, hs6, hf6, hk⟩
 replace HROW := Lib.hid (HROW.out.kept hk (by simp))
 replace HOK := Lib.hid (HOK.out.kept hk)
 have hs1 := Lib.hid hs6
 have G1 := Lib.hid (hf6.mono (B' := w.heap.size + 1 + 1 + 1) (by omega))
 clear hs6 hf6
 have z3 := hk.size
 replace fR0 := kf hk nR0 fR0
 replace fR1 := kf hk nR1 fR1
 replace fR2 := kf hk nR2 fR2
 replace fR3 := kf hk nR3 fR3
 replace nA0 := kc hk nA0
 replace nA1 := kc hk nA1
 replace nA2 := kc hk nA2
 replace nA3 := kc hk nA3
 replace nB0 := kc hk nB0
 replace nB1 := kc hk nB1
 replace nB2 := kc hk nB2
 replace nB3 := kc hk nB3
 replace nR0 := kc hk nR0
 replace nR1 := kc hk nR1
 replace nR2 := kc hk nR2
 replace nR3 := kc hk nR3
 replace H1 := Lib.hid (H1.out.kept0 hk)
 replace H2 := Lib.hid (H2.out.kept0 hk)
 replace H3 := Lib.hid (H3.out.kept0 hk)
 replace H4 := Lib.hid (H4.out.kept0 hk)
 replace KT := Lib.hid (KT.out.trans0 hk)
 clear hk
 have tA0 := nA0.out
 have tA1 := nA1.out
 have tA2 := nA2.out
 have tA3 := nA3.out
 go_wp2_with fail
 clear tA0 tA1 tA2 tA3
 refine (l3Most_four _ y1 y2 y3 y4 tx _ _ _ _ _ _ _ _ _ HROW.out HOK.out HTX.out).mono ?_
 rintro e ww4 ⟨a7, c7, rfl, hs7, hf7, hk⟩
 have HS7 := Lib.hid hs7
 clear hs7 hf7 HROW HOK
 have z4 := hk.size
 replace fR0 := kf hk nR0 fR0
 replace fR1 := kf hk nR1 fR1
 replace fR2 := kf hk nR2 fR2
 replace fR3 := kf hk nR3 fR3
 replace nA0 := kc hk nA0
 replace nA1 := kc hk nA1
 replace nA2 := kc hk nA2
 replace nA3 := kc hk nA3
 replace nB0 := kc hk nB0
 replace nB1 := kc hk nB1
 replace nB2 := kc hk nB2
 replace nB3 := kc hk nB3
 replace nR0 := kc hk nR0
 replace nR1 := kc hk nR1
 replace nR2 := kc hk nR2
 replace nR3 := kc hk nR3
 replace H1 := Lib.hid (H1.out.kept0 hk)
 replace H2 := Lib.hid (H2.out.kept0 hk)
 replace H3 := Lib.hid (H3.out.kept0 hk)
 replace H4 := Lib.hid (H4.out.kept0 hk)
 replace hs1 := Lib.hid (hs1.out.kept0 hk)
 replace KT := Lib.hid (KT.out.trans0 hk)
 clear hk
 have tA0 := nA0.out
 have tA1 := nA1.out
 have tA2 := nA2.out
 have tA3 := nA3.out
 go_wp2_with fail
 clear tA0 tA1 tA2 tA3
 refine (l3Up_any P _ _ _ tx t2 _ HP.out HS7.out ox9 HT2.out).mono ?_
 rintro e ww5 ⟨a8, c8, rfl, hs8, hf8, hk⟩
 have hs2 := Lib.hid hs8
 have G2 := Lib.hid (hf8.mono (B' := w.heap.size + 1 + 1 + 1) (by omega))
 clear hs8 hf8
 have z5 := hk.size
 replace fR0 := kf hk nR0 fR0
 replace fR1 := kf hk nR1 fR1
 replace fR2 := kf hk nR2 fR2
 replace fR3 := kf hk nR3 fR3
 replace nA0 := kc hk nA0
 replace nA1 := kc hk nA1
 replace nA2 := kc hk nA2
 replace nA3 := kc hk nA3
 replace nB0 := kc hk nB0
 replace nB1 := kc hk nB1
 replace nB2 := kc hk nB2
 replace nB3 := kc hk nB3
 replace nR0 := kc hk nR0
 replace nR1 := kc hk nR1
 replace nR2 := kc hk nR2
 replace nR3 := kc hk nR3
 replace H1 := Lib.hid (H1.out.kept0 hk)
 replace H2 := Lib.hid (H2.out.kept0 hk)
 replace H3 := Lib.hid (H3.out.kept0 hk)
 replace H4 := Lib.hid (H4.out.kept0 hk)
 replace hs1 := Lib.hid (hs1.out.kept0 hk)
 replace KT := Lib.hid (KT.out.trans0 hk)
 clear hk
 have tR0 := nR0.out
 have tR1 := nR1.out
 have tR2 := nR2.out
 have tR3 := nR3.out
 have uR0 := fR0.out
 have uR1 := fR1.out
 have uR2 := fR2.out
 have uR3 := fR3.out
 go_wp2_with fail
 clear tR0 tR1 tR2 tR3 uR0 uR1 uR2 uR3
 obtain ⟨p9, hp9⟩ : ∃ r, r = isNeg t1 := ⟨_, rfl⟩
 obtain ⟨q9, hq9⟩ : ∃ r, r = isNeg t2 := ⟨_, rfl⟩
 rw [← hp9, ← hq9]
 generalize hW : ((((ww5.setCell ⟨w.heap.size + 1 + 1, 0, none⟩ (.bool p9)).setCell ⟨w.heap.size + 1 + 1, 1, none⟩ (.slice a6 (mag t1).length c6)).setCell ⟨w.heap.size + 1 + 1, 2, none⟩ (.bool q9)).setCell ⟨w.heap.size + 1 + 1, 3, none⟩ (.slice a8 (mag t2).length c8)) = ww6
 have hk : Kept [w.heap.size + 1 + 1] ww5 ww6 := by rw [← hW]; exact ((((Kept.refl _ _).setCell _ _ (by simp)).setCell _ _ (by simp)).setCell _ _ (by simp)).setCell _ _ (by simp)
 have hfz : ∀ x, ww6.frozen? x = ww5.frozen? x := by rw [← hW]; intro x; simp only [World.frozen?_setCell]
 obtain ⟨e0, e1, e2, e3⟩ := st4 hW.symm nR0.out nR1.out nR2.out nR3.out
 have z6 := hk.size
 replace fR0 := kz hfz fR0
 replace fR1 := kz hfz fR1
 replace fR2 := kz hfz fR2
 replace fR3 := kz hfz fR3
 replace nA0 := kd hk nA0 (by simp <;> omega)
 replace nA1 := kd hk nA1 (by simp <;> omega)
 replace nA2 := kd hk nA2 (by simp <;> omega)
 replace nA3 := kd hk nA3 (by simp <;> omega)
 replace nB0 := kd hk nB0 (by simp <;> omega)
 replace nB1 := kd hk nB1 (by simp <;> omega)
 replace nB2 := kd hk nB2 (by simp <;> omega)
 replace nB3 := kd hk nB3 (by simp <;> omega)
 replace H1 := Lib.hid (H1.out.kept hk (fun hn y hy hm => by have h9 := F1.out hn y hy; simp at hm; omega))
 replace H2 := Lib.hid (H2.out.kept hk (fun hn y hy hm => by have h9 := F2.out hn y hy; simp at hm; omega))
 replace H3 := Lib.hid (H3.out.kept hk (fun hn y hy hm => by have h9 := F3.out hn y hy; simp at hm; omega))
 replace H4 := Lib.hid (H4.out.kept hk (fun hn y hy hm => by have h9 := F4.out hn y hy; simp at hm; omega))
 replace hs1 := Lib.hid (hs1.out.kept hk (fun hn y hy hm => by have h9 := G1.out hn y hy; simp at hm; omega))
 replace hs2 := Lib.hid (hs2.out.kept hk (fun hn y hy hm => by have h9 := G2.out hn y hy; simp at hm; omega))
 replace nR0 := Lib.hid e0
 replace nR1 := Lib.hid e1
 replace nR2 := Lib.hid e2
 replace nR3 := Lib.hid e3
 replace KT := Lib.hid (KT.out.trans hk (fun x hx hlt => by simp at hx; omega))
 clear hk hfz hW e0 e1 e2 e3
 have HP9 := Lib.hid hp9
 have HQ9 := Lib.hid hq9
 clear hp9 hq9
 go_wp2_with fail
 have e0 := nR0.out
 have e1 := nR1.out
 have e2 := nR2.out
 have e3 := nR3.out
 refine bodyPost_ret (v := .agg #[.bool p9, .slice a6 (mag t1).length c6, .bool q9, .slice a8 (mag t2).length c8]) (by simp [results, Tryz.results88, go_sem, e0, e1, e2, e3]) rfl ?_
 exact spanV_fin HP9.out HQ9.out hs1.out hs2.out (G1.out.mono (by omega)) (G2.out.mono (by omega)) KT.out

end Go.Proofs.YtfafjijoeanbhaaGreat
