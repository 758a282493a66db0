/-
  Joined texts.
-/
import Derived.Deep.RegionHeld3
import Derived.Deep.DrawnRows
import Derived.Deep.DeepCutAuto
import Derived.Test.YtfafjijoeanbhaaGreatArcSpec
import Derived.Test.YtfafjijoeanbhaaGreatSumT
import Derived.Test.YtfafjijoeanbhaaGreatArcFn
import Derived.Test.YtfafjijoeanbhaaGreatTermsB
import Derived.Test.YtfafjijoeanbhaaGreatArcA
import Derived.Test.YtfafjijoeanbhaaGreatJ5
import Derived.Test.YtfafjijoeanbhaaGreatSpanY
namespace Go.Proofs.YtfafjijoeanbhaaGreat
open Go.RowKit

attribute [local go_sem ↓] field_big field_span field_end0 field_end1
theorem ArcCap.kept {k : Nat} {s1 s2 : Int} {gp gq : Nat} {a b : Option Addr} {c d : Nat} {w A B : World} {L : List Nat} (hw : ArcCap k s1 s2 gp gq a b c d w) (h : ArcCap k s1 s2 gp gq a b c d A) (hk : Kept L A B) (hL : ∀ x, x ∈ L → w.heap.size ≤ x) : ArcCap k s1 s2 gp gq a b c d B := by
 obtain ⟨u0, u1, _, _, _, t3, t4⟩ := hw
 have l0 := World.block_lt_of_cell? w _ u0
 have l1 := World.block_lt_of_cell? w _ u1
 dsimp only at l0 l1
 obtain ⟨v0, v1, v2, v3, v4, r3, r4⟩ := h
 have n0 : gp ∉ L := fun hm => by have := hL _ hm; omega
 have n1 : gq ∉ L := fun hm => by have := hL _ hm; omega
 exact ⟨hk.cell v0 n0, hk.cell v1 n1, hk.cell v2 n1, hk.cell v3 n1, hk.cell v4 n1, r3.kept hk (fun hn y hy hm => by have h8 := hL _ hm; have h9 := t3.lt hn y hy; omega), r4.kept hk (fun hn y hy hm => by have h8 := hL _ hm; have h9 := t4.lt hn y hy; omega)⟩
set_option maxHeartbeats 4000000 in
set_option maxRecDepth 20000 in
theorem arcSum_zz (k c0 : Nat) (x1 x2 q1 q2 o1 o2 : Int) (gA gN gF gp gq : Nat) (a b a' b' : Option Addr) (c d c' d' : Nat) (w : World)
  (hA0 : w.cell? ⟨gA, 0, none⟩ = some (.bool (isNeg x1))) (hA1 : w.cell? ⟨gA, 1, none⟩ = some (.slice a (mag x1).length c)) (hA2 : w.cell? ⟨gA, 2, none⟩ = some (.bool (isNeg x2))) (hA3 : w.cell? ⟨gA, 3, none⟩ = some (.slice b (mag x2).length d)) (h1 : Sl w a (mag x1).length c (mag x1)) (h2 : Sl w b (mag x2).length d (mag x2))
  (hNc : w.cell? ⟨gN, 0, none⟩ = some (.int .i64 (c0 : Int))) (hF : w.cell? ⟨gF, 0, none⟩ = some (.func (.func 122) #[] #[.pointer (some ⟨gp, 0, none⟩), .pointer (some ⟨gq, 0, none⟩)])) (hcap : ArcCap k q1 q2 gp gq a' b' c' d' w)
  (hP : isP (k : Int) = true) (hin : In2 (p2 k) ⟨x1, x2⟩) (hq : (⟨q1, q2⟩ : Z2) = sq2 k ⟨x1, x2⟩) (hc0 : c0 = k / 4) (fo : Fit2 ⟨o1, o2⟩) (ho : (⟨o1, o2⟩ : Z2) = arc2 k ⟨x1, x2⟩) :
  Calls Tryz.prog 123 #[.agg #[.bool (isNeg x1), .slice a (mag x1).length c, .bool (isNeg x2), .slice b (mag x2).length d], .func (.func 183) #[] #[.pointer (some ⟨gA, 0, none⟩), .pointer (some ⟨gN, 0, none⟩), .pointer (some ⟨gF, 0, none⟩)], .func (.func 124) #[] #[]] w (SpanR w ⟨0, o1, o2⟩) := by
 have hk96 : k ≤ 96 := by rcases isP_cases hP with h | h | h <;> omega
 have fq : Fit2 ⟨q1, q2⟩ := by have h := sq2_one hin; rw [← hq, ← Int.one_mul (p2 k)] at h; exact h.fitU hk96 (by omega)
 have ho' : (⟨o1, o2⟩ : Z2) = add2 (arcS k ⟨x1, x2⟩ c0) (swing2 (arcT k ⟨x1, x2⟩ c0)) := by rw [ho]; unfold arc2; rw [hc0]
 exact sumOfTerms_zz (arcT k ⟨x1, x2⟩) (fun j => part2 (2 * ((j : Nat) : Int) + 1) (arcT k ⟨x1, x2⟩ j)) (arcS k ⟨x1, x2⟩) c0 (by omega) gA gN gF 122 124 #[.pointer (some ⟨gp, 0, none⟩), .pointer (some ⟨gq, 0, none⟩)] (ArcCap k q1 q2 gp gq a' b' c' d') w a b a b c d c d o1 o2 hA0 hA1 hA2 hA3 h1 h2 h1 h2 hNc hF
  (enters_of Tryz.func122 (by kernel_rfl) rfl) (enters_of Tryz.func124 (by kernel_rfl) rfl) hcap (fun A B L hA hk hL => hcap.kept hA hk hL)
  (fun j W ta tb tc td _ hc s1 s2 => arcNext_zz k ((j : Int) + 1) q1 q2 gp gq a' b' c' d' (arcT k ⟨x1, x2⟩ j).lo (arcT k ⟨x1, x2⟩ j).hi ta tb tc td (arcT k ⟨x1, x2⟩ (j + 1)).lo (arcT k ⟨x1, x2⟩ (j + 1)).hi W s1 s2 hc hP (fitT hin hk96 j) fq (fitT hin hk96 (j + 1)) (by show arcT k ⟨x1, x2⟩ (j + 1) = mul2 k (arcT k ⟨x1, x2⟩ j) ⟨q1, q2⟩; rw [hq]; rfl))
  (fun j W ta tb tc td hj s1 s2 => arcAdd_zz j (arcT k ⟨x1, x2⟩ (j + 1)).lo (arcT k ⟨x1, x2⟩ (j + 1)).hi ta tb tc td _ _ W s1 s2 (by omega) (fitT hin hk96 (j + 1)).2.1 (fitT hin hk96 (j + 1)).2.2 rfl)
  rfl (fun j _ => arcS_succ k _ j) (fun j hj => fitSum hin hk96 j (by omega)) (fun j _ => fitP hin hk96 j) (fun j _ => fitT hin hk96 j) (fitSw hin hk96 c0) fo ho'

set_option maxHeartbeats 8000000 in
set_option maxRecDepth 20000 in
theorem ArcSeries_any (P : Int) (p q : Bool) (a b : Option Addr) (n c m d : Nat) (xs ys : List Int) (w : World) (h1 : Sl w a n c xs) (h2 : Sl w b m d ys) :
  Calls Tryz.prog 67 #[.int .i64 P, .agg #[.bool p, .slice a n c, .bool q, .slice b m d]] w (SpanR w (arcSS P p xs q ys)) := by
 by_cases hz : farC P 1 p xs q ys = 0
 ·skip
  obtain ⟨hP, hf0⟩ := precS_zero (farC_pre hz)
  obtain ⟨k, rfl, hk96, hk16⟩ := isP_nat hP
  obtain ⟨x1, x2, rfl, rfl, rfl, rfl, fx⟩ := ok_letters (spanFault_zero hf0)
  have ea := h1.1
  have eb := h2.1
  subst ea eb
  have hin := far_in fx.1 (farC_pre hz) hz
  rw [Int.one_mul] at hin
  obtain ⟨o1, o2, ho⟩ : ∃ o1 o2 : Int, (⟨o1, o2⟩ : Z2) = arc2 k ⟨x1, x2⟩ := ⟨_, _, rfl⟩
  have fo : Fit2 ⟨o1, o2⟩ := by rw [ho]; exact (arc2_in hin hk96).fitU hk96 (by omega)
  rw [arcSS_ok hz, ← ho]
  obtain ⟨q1, q2, hq⟩ : ∃ q1 q2 : Int, (⟨q1, q2⟩ : Z2) = sq2 k ⟨x1, x2⟩ := ⟨_, _, rfl⟩
  have fq : Fit2 ⟨q1, q2⟩ := by have h := sq2_one hin; rw [← hq, ← Int.one_mul (p2 k)] at h; exact h.fitU hk96 (by omega)
  obtain ⟨c0, hc0⟩ : ∃ c0 : Nat, c0 = k / 4 := ⟨_, rfl⟩
  have hc1 : (k : Int) / 4 = (c0 : Int) := by omega
  have hk0 : (0 : Int) ≤ (k : Int) := by omega
  have H1 := Lib.hid h1
  have H2 := Lib.hid h2
  have F1 := Lib.hid h1.lt
  have F2 := Lib.hid h2.lt
  have HF := Lib.hid hz
  have HP := Lib.hid hP
  have HIN := Lib.hid hin
  have HO := Lib.hid ho
  have FX := Lib.hid fx
  have FO := Lib.hid fo
  have HQ := Lib.hid hq
  have FQ := Lib.hid fq
  have HC := Lib.hid hc1
  have HC0 := Lib.hid hc0
  clear h1 h2 hz hP hf0 hin ho fx fo hq fq hc1 hc0
  go_enter Tryz.func67, Tryz.ntmps67
  go_wp2_with fail
  generalize hW : (((w.alloc (.cells #[.int .i64 (k : Int)] 2)).alloc (.cells #[.bool (isNeg x1), .slice a (mag x1).length c, .bool (isNeg x2), .slice b (mag x2).length d] 26)).alloc (.cells #[.int .i64 0, .bool false, .slice none 0 0, .bool false, .slice none 0 0] 28)) = ww0
  have hkk : Kept [] (((w.alloc (.cells #[.int .i64 (k : Int)] 2)).alloc (.cells #[.bool (isNeg x1), .slice a (mag x1).length c, .bool (isNeg x2), .slice b (mag x2).length d] 26)).alloc (.cells #[.int .i64 0, .bool false, .slice none 0 0, .bool false, .slice none 0 0] 28)) ww0 := by rw [hW]; exact Kept.refl _ _
  have zzA : w.heap.size + 1 + 1 + 1 = ww0.heap.size := by rw [← hW]; simp
  obtain ⟨nP0, _⟩ := tp1 hkk.peel.peel (g := w.heap.size) (by simp) (by simp)
  obtain ⟨⟨nA0, nA1, nA2, nA3⟩, _⟩ := tp4 hkk.peel (g := w.heap.size + 1) (by simp) (by simp)
  obtain ⟨⟨nR0, nR1, nR2, nR3, nR4⟩, fR0, fR1, fR2, fR3, fR4⟩ := tp5 hkk (g := w.heap.size + 1 + 1) (by simp) (by simp)
  have hk := hkk.peel.peel.peel
  clear hkk hW
  have z0 := hk.size
  have kq1 := Lib.hid hk
  have KT := kq1
  clear hk
  replace H1 := Lib.hid (H1.out.kept0 KT.out)
  replace H2 := Lib.hid (H2.out.kept0 KT.out)
  have tP0 := nP0.out
  have tA0 := nA0.out
  have tA1 := nA1.out
  have tA2 := nA2.out
  have tA3 := nA3.out
  go_wp2_with fail
  clear tP0 tA0 tA1 tA2 tA3
  refine (farFault_any (k : Int) 1 _ _ _ _ _ _ _ _ _ _ _ H1.out H2.out (by omega) (by omega)).mono ?_
  intro e v1 hh; obtain ⟨hh, hk1⟩ := hh; subst hh
  have hk := hk1
  have z1 := hk.size
  have kq2 := Lib.hid hk
  clear hk
  rw [HF.out]
  replace nP0 := kc kq2.out nP0
  have tP0 := nP0.out
  replace nA0 := kc kq2.out nA0
  have tA0 := nA0.out
  replace nA1 := kc kq2.out nA1
  have tA1 := nA1.out
  replace nA2 := kc kq2.out nA2
  have tA2 := nA2.out
  replace nA3 := kc kq2.out nA3
  have tA3 := nA3.out
  go_wp2_with fail
  clear tP0 tA0 tA1 tA2 tA3
  replace H1 := Lib.hid (H1.out.kept0 kq2.out)
  replace H2 := Lib.hid (H2.out.kept0 kq2.out)
  refine (SquareSpan_zz k x1 x2 _ _ _ _ q1 q2 _ H1.out H2.out HP.out FX.out FQ.out HQ.out).mono ?_
  intro e v2 hh; unfold SpanRZ at hh; obtain ⟨b2, hh⟩ := hh; obtain ⟨c2, hh⟩ := hh; obtain ⟨d2, hh⟩ := hh; obtain ⟨m2, hh, hs2, ht2, hf2, hg2, hk2⟩ := hh; subst hh
  have S1 := Lib.hid hs2
  have GS1 := Lib.hid (hf2.mono (B' := v1.heap.size) (by simp))
  have US1 := Lib.hid S1.out.lt
  have S2 := Lib.hid ht2
  have GS2 := Lib.hid (hg2.mono (B' := v1.heap.size) (by simp))
  have US2 := Lib.hid S2.out.lt
  have hk := hk2
  have z2 := hk.size
  have kq3 := Lib.hid hk
  clear hk
  go_upto_region 5 with fail
  generalize hW : (v2.alloc (.cells #[.bool (isNeg q1), .slice b2 (mag q1).length c2, .bool (isNeg q2), .slice d2 (mag q2).length m2] 26)) = ww3
  have hk : Kept [] v2 ww3 := by rw [← hW]; exact (Kept.refl [] _).alloc _
  have zzQ : v2.heap.size + 1 = ww3.heap.size := by rw [← hW]; simp
  have nQ0 := Lib.hid (show ww3.cell? ⟨v2.heap.size, 0, none⟩ = some (.bool (isNeg q1)) by rw [← hW, World.cell?_alloc_new]; rfl)
  have fQ0 := Lib.hid (show ww3.frozen? ⟨v2.heap.size, 0, none⟩ = false by rw [← hW]; exact frozen_of_row _ _ _ _ _ (heap_alloc_new _ _))
  have nQ1 := Lib.hid (show ww3.cell? ⟨v2.heap.size, 1, none⟩ = some (.slice b2 (mag q1).length c2) by rw [← hW, World.cell?_alloc_new]; rfl)
  have fQ1 := Lib.hid (show ww3.frozen? ⟨v2.heap.size, 1, none⟩ = false by rw [← hW]; exact frozen_of_row _ _ _ _ _ (heap_alloc_new _ _))
  have nQ2 := Lib.hid (show ww3.cell? ⟨v2.heap.size, 2, none⟩ = some (.bool (isNeg q2)) by rw [← hW, World.cell?_alloc_new]; rfl)
  have fQ2 := Lib.hid (show ww3.frozen? ⟨v2.heap.size, 2, none⟩ = false by rw [← hW]; exact frozen_of_row _ _ _ _ _ (heap_alloc_new _ _))
  have nQ3 := Lib.hid (show ww3.cell? ⟨v2.heap.size, 3, none⟩ = some (.slice d2 (mag q2).length m2) by rw [← hW, World.cell?_alloc_new]; rfl)
  have fQ3 := Lib.hid (show ww3.frozen? ⟨v2.heap.size, 3, none⟩ = false by rw [← hW]; exact frozen_of_row _ _ _ _ _ (heap_alloc_new _ _))
  clear hW
  have z3 := hk.size
  have kq4 := Lib.hid hk
  clear hk
  have kj1 := Lib.hid (kq3.out.trans0 kq4.out)
  replace nP0 := kc kj1.out nP0
  have tP0 := nP0.out
  replace nA0 := kc kj1.out nA0
  have tA0 := nA0.out
  replace nA1 := kc kj1.out nA1
  have tA1 := nA1.out
  replace nA2 := kc kj1.out nA2
  have tA2 := nA2.out
  replace nA3 := kc kj1.out nA3
  have tA3 := nA3.out
  go_wp2_with fail
  clear tP0 tA0 tA1 tA2 tA3
  refine (termsBehind_any (isNeg x1) (isNeg x2) a b (mag x1).length c (mag x2).length d _ 122 _ _).mono ?_
  intro e v3 hh; obtain ⟨hh, y0, y1, y2, y3, y4, y5, hsz, hk⟩ := hh; subst hh
  rw [HC.out] at y4
  have Y0 := Lib.hid y0
  have Y1 := Lib.hid y1
  have Y2 := Lib.hid y2
  have Y3 := Lib.hid y3
  have Y4 := Lib.hid y4
  have Y5 := Lib.hid y5
  clear y0 y1 y2 y3 y4 y5 hsz
  have z4 := hk.size
  have kq5 := Lib.hid hk
  clear hk
  replace nA0 := kc kq5.out nA0
  have tA0 := nA0.out
  replace nA1 := kc kq5.out nA1
  have tA1 := nA1.out
  replace nA2 := kc kq5.out nA2
  have tA2 := nA2.out
  replace nA3 := kc kq5.out nA3
  have tA3 := nA3.out
  go_wp2_with fail
  clear tA0 tA1 tA2 tA3
  have kj2 := Lib.hid (kj1.out.trans0 kq5.out)
  replace H1 := Lib.hid (H1.out.kept0 kj2.out)
  replace H2 := Lib.hid (H2.out.kept0 kj2.out)
  have kj3 := Lib.hid (kq4.out.trans0 kq5.out)
  replace S1 := Lib.hid (S1.out.kept0 kj3.out)
  replace S2 := Lib.hid (S2.out.kept0 kj3.out)
  replace nP0 := kc kq5.out nP0
  replace fQ0 := kf kq5.out nQ0 fQ0
  replace nQ0 := kc kq5.out nQ0
  replace fQ1 := kf kq5.out nQ1 fQ1
  replace nQ1 := kc kq5.out nQ1
  replace fQ2 := kf kq5.out nQ2 fQ2
  replace nQ2 := kc kq5.out nQ2
  replace fQ3 := kf kq5.out nQ3 fQ3
  replace nQ3 := kc kq5.out nQ3
  refine (arcSum_zz k c0 x1 x2 q1 q2 o1 o2 _ _ _ _ _ a b _ _ c d _ _ _ Y0.out Y1.out Y2.out Y3.out H1.out H2.out Y4.out Y5.out ⟨nP0.out, nQ0.out, nQ1.out, nQ2.out, nQ3.out, S1.out, S2.out⟩ HP.out HIN.out HQ.out HC0.out FO.out HO.out).mono ?_
  intro e v4 hh; unfold SpanR at hh; obtain ⟨b9, hh⟩ := hh; obtain ⟨c9, hh⟩ := hh; obtain ⟨d9, hh⟩ := hh; obtain ⟨m9, hh, hs3, hs4, hf3, hf4, hne, hk⟩ := hh; dsimp only at hh hs3 hs4 hf3 hf4 hne; subst hh
  have G3 := Lib.hid (hf3.mono (B' := w.heap.size + 1 + 1 + 1) (by omega)); have G4 := Lib.hid (hf4.mono (B' := w.heap.size + 1 + 1 + 1) (by omega)); have S3 := Lib.hid hs3; have S4 := Lib.hid hs4; have HNE := Lib.hid hne; clear hs3 hs4 hf3 hf4 hne Y0 Y1 Y2 Y3 Y4 Y5
  have z5 := hk.size
  have kq6 := Lib.hid hk
  clear hk
  have kj4 := Lib.hid ((((kq2.out.trans0 kq3.out).trans0 kq4.out).trans0 kq5.out).trans0 kq6.out)
  replace fR0 := kf kj4.out nR0 fR0
  replace nR0 := kc kj4.out nR0
  have tR0 := nR0.out
  replace fR1 := kf kj4.out nR1 fR1
  replace nR1 := kc kj4.out nR1
  have tR1 := nR1.out
  replace fR2 := kf kj4.out nR2 fR2
  replace nR2 := kc kj4.out nR2
  have tR2 := nR2.out
  replace fR3 := kf kj4.out nR3 fR3
  replace nR3 := kc kj4.out nR3
  have tR3 := nR3.out
  replace fR4 := kf kj4.out nR4 fR4
  replace nR4 := kc kj4.out nR4
  have tR4 := nR4.out
  have uR0 := fR0.out
  have uR1 := fR1.out
  have uR2 := fR2.out
  have uR3 := fR3.out
  have uR4 := fR4.out
  go_wp2_with fail
  clear tR0 tR1 tR2 tR3 tR4 uR0 uR1 uR2 uR3 uR4
  generalize hW : (((((v4.setCell ⟨w.heap.size + 1 + 1, 0, none⟩ (.int .i64 0)).setCell ⟨w.heap.size + 1 + 1, 1, none⟩ (.bool (isNeg o1))).setCell ⟨w.heap.size + 1 + 1, 2, none⟩ (.slice b9 (mag o1).length c9)).setCell ⟨w.heap.size + 1 + 1, 3, none⟩ (.bool (isNeg o2))).setCell ⟨w.heap.size + 1 + 1, 4, none⟩ (.slice d9 (mag o2).length m9)) = ww6
  have hk : Kept [w.heap.size + 1 + 1] v4 ww6 := by rw [← hW]; exact (((((Kept.refl _ _).setCell _ _ (by simp)).setCell _ _ (by simp)).setCell _ _ (by simp)).setCell _ _ (by simp)).setCell _ _ (by simp)
  have hfz : ∀ x, ww6.frozen? x = v4.frozen? x := by rw [← hW]; intro x; simp only [World.frozen?_setCell]
  obtain ⟨e0, e1, e2, e3, e4⟩ := st5 hW.symm nR0.out nR1.out nR2.out nR3.out nR4.out
  have z6 := hk.size
  have kq7 := Lib.hid hk
  have hz7 := Lib.hid hfz
  replace fR0 := kz hfz fR0
  replace fR1 := kz hfz fR1
  replace fR2 := kz hfz fR2
  replace fR3 := kz hfz fR3
  replace fR4 := kz hfz fR4
  replace nR0 := Lib.hid e0
  replace nR1 := Lib.hid e1
  replace nR2 := Lib.hid e2
  replace nR3 := Lib.hid e3
  replace nR4 := Lib.hid e4
  clear hk hfz hW e0 e1 e2 e3 e4
  have e0 := nR0.out
  have e1 := nR1.out
  have e2 := nR2.out
  have e3 := nR3.out
  have e4 := nR4.out
  refine bodyPost_ret (v := .agg #[.int .i64 0, .bool (isNeg o1), .slice b9 (mag o1).length c9, .bool (isNeg o2), .slice d9 (mag o2).length m9]) (by simp [results, Tryz.results67, go_sem, e0, e1, e2, e3, e4]) rfl ?_
  replace KT := Lib.hid (KT.out.trans0 kj4.out)
  replace KT := Lib.hid (KT.out.trans kq7.out (fun x hx hlt => by simp at hx; omega))
  replace S3 := Lib.hid (S3.out.kept kq7.out (fun hn y hy hm => by have h9 := G3.out hn y hy; simp at hm; omega))
  replace S4 := Lib.hid (S4.out.kept kq7.out (fun hn y hy hm => by have h9 := G4.out hn y hy; simp at hm; omega))
  exact ⟨_, _, _, _, rfl, S3.out, S4.out, G3.out.mono (by omega), G4.out.mono (by omega), HNE.out, KT.out⟩
 ·skip
  rw [arcSS_bad hz]
  obtain ⟨f, hf⟩ : ∃ f, f = farC P 1 p xs q ys := ⟨_, rfl⟩
  rw [← hf] at hz ⊢
  have hne : (f == 0) = false := by rw [beq_eq_false_iff_ne]; exact hz
  have ea := h1.1
  have eb := h2.1
  have H1 := Lib.hid h1
  have H2 := Lib.hid h2
  have F1 := Lib.hid h1.lt
  have F2 := Lib.hid h2.lt
  have HF := Lib.hid hf
  clear h1 h2 hf hz ea eb
  go_enter Tryz.func67, Tryz.ntmps67
  go_wp2_with fail
  generalize hW : (((w.alloc (.cells #[.int .i64 P] 2)).alloc (.cells #[.bool p, .slice a n c, .bool q, .slice b m d] 26)).alloc (.cells #[.int .i64 0, .bool false, .slice none 0 0, .bool false, .slice none 0 0] 28)) = ww0
  have hkk : Kept [] (((w.alloc (.cells #[.int .i64 P] 2)).alloc (.cells #[.bool p, .slice a n c, .bool q, .slice b m d] 26)).alloc (.cells #[.int .i64 0, .bool false, .slice none 0 0, .bool false, .slice none 0 0] 28)) ww0 := by rw [hW]; exact Kept.refl _ _
  have zzA : w.heap.size + 1 + 1 + 1 = ww0.heap.size := by rw [← hW]; simp
  obtain ⟨nP0, _⟩ := tp1 hkk.peel.peel (g := w.heap.size) (by simp) (by simp)
  obtain ⟨⟨nA0, nA1, nA2, nA3⟩, _⟩ := tp4 hkk.peel (g := w.heap.size + 1) (by simp) (by simp)
  obtain ⟨⟨nR0, nR1, nR2, nR3, nR4⟩, fR0, fR1, fR2, fR3, fR4⟩ := tp5 hkk (g := w.heap.size + 1 + 1) (by simp) (by simp)
  have hk := hkk.peel.peel.peel
  clear hkk hW
  have z0 := hk.size
  have kq1 := Lib.hid hk
  have KT := kq1
  clear hk
  replace H1 := Lib.hid (H1.out.kept0 KT.out)
  replace H2 := Lib.hid (H2.out.kept0 KT.out)
  have tP0 := nP0.out
  have tA0 := nA0.out
  have tA1 := nA1.out
  have tA2 := nA2.out
  have tA3 := nA3.out
  go_wp2_with fail
  clear tP0 tA0 tA1 tA2 tA3
  refine (farFault_any P 1 _ _ _ _ _ _ _ _ _ _ _ H1.out H2.out (by omega) (by omega)).mono ?_
  intro e v1 hh; obtain ⟨hh, hk1⟩ := hh; subst hh
  have hk := hk1
  have z1 := hk.size
  have kq2 := Lib.hid hk
  clear hk
  rw [← HF.out]
  replace fR0 := kf kq2.out nR0 fR0
  replace nR0 := kc kq2.out nR0
  have tR0 := nR0.out
  replace fR1 := kf kq2.out nR1 fR1
  replace nR1 := kc kq2.out nR1
  have tR1 := nR1.out
  replace fR2 := kf kq2.out nR2 fR2
  replace nR2 := kc kq2.out nR2
  have tR2 := nR2.out
  replace fR3 := kf kq2.out nR3 fR3
  replace nR3 := kc kq2.out nR3
  have tR3 := nR3.out
  replace fR4 := kf kq2.out nR4 fR4
  replace nR4 := kc kq2.out nR4
  have tR4 := nR4.out
  have uR0 := fR0.out
  have uR1 := fR1.out
  have uR2 := fR2.out
  have uR3 := fR3.out
  have uR4 := fR4.out
  go_wp2_with fail
  clear tR0 tR1 tR2 tR3 tR4 uR0 uR1 uR2 uR3 uR4
  generalize hW : (((((v1.setCell ⟨w.heap.size + 1 + 1, 0, none⟩ (.int .i64 f)).setCell ⟨w.heap.size + 1 + 1, 1, none⟩ (.bool false)).setCell ⟨w.heap.size + 1 + 1, 2, none⟩ (.slice none 0 0)).setCell ⟨w.heap.size + 1 + 1, 3, none⟩ (.bool false)).setCell ⟨w.heap.size + 1 + 1, 4, none⟩ (.slice none 0 0)) = ww2
  have hk : Kept [w.heap.size + 1 + 1] v1 ww2 := by rw [← hW]; exact (((((Kept.refl _ _).setCell _ _ (by simp)).setCell _ _ (by simp)).setCell _ _ (by simp)).setCell _ _ (by simp)).setCell _ _ (by simp)
  have hfz : ∀ x, ww2.frozen? x = v1.frozen? x := by rw [← hW]; intro x; simp only [World.frozen?_setCell]
  obtain ⟨e0, e1, e2, e3, e4⟩ := st5 hW.symm nR0.out nR1.out nR2.out nR3.out nR4.out
  have z2 := hk.size
  have kq3 := Lib.hid hk
  have hz3 := Lib.hid hfz
  replace fR0 := kz hfz fR0
  replace fR1 := kz hfz fR1
  replace fR2 := kz hfz fR2
  replace fR3 := kz hfz fR3
  replace fR4 := kz hfz fR4
  replace nR0 := Lib.hid e0
  replace nR1 := Lib.hid e1
  replace nR2 := Lib.hid e2
  replace nR3 := Lib.hid e3
  replace nR4 := Lib.hid e4
  clear hk hfz hW e0 e1 e2 e3 e4
  have e0 := nR0.out
  have e1 := nR1.out
  have e2 := nR2.out
  have e3 := nR3.out
  have e4 := nR4.out
  refine bodyPost_ret (v := .agg #[.int .i64 f, .bool false, .slice none 0 0, .bool false, .slice none 0 0]) (by simp [results, Tryz.results67, go_sem, e0, e1, e2, e3, e4]) rfl ?_
  replace KT := Lib.hid (KT.out.trans0 kq2.out)
  replace KT := Lib.hid (KT.out.trans kq3.out (fun x hx hlt => by simp at hx; omega))
  exact spanR_no KT.out

end Go.Proofs.YtfafjijoeanbhaaGreat
namespace Go.Proofs.YtfafjijoeanbhaaGreat
open Go.RowKit

/-- A quotient in units. -/
def rat2 (k : Nat) (n d : Int) : Z2 := ⟨n * p2 k / d, cdiv (n * p2 k) d⟩
theorem ratS_zz {k : Nat} {n d : Int} {z : Z2} (hP : isP (k : Int) = true) (ln : (mag n).length ≤ 20) (ld : (mag d).length ≤ 20) (hd : 0 < d) (fz : Fit2 z) (hz : z = rat2 k n d) :
  ratS (k : Int) (isNeg n) (mag n) (isNeg d) (mag d) = ⟨0, z.lo, z.hi⟩ := by
 have hv : val (mag d) = d := by rw [val_mag, if_neg (by omega)]
 have hu : inU (k : Int) (isNeg n) (mag n) = n * p2 k := by unfold inU; rw [sv_mag, toNat_of]
 have h0 : (mag d).length ≠ 0 := fun h => by
  have h1 : mag d = [] := List.eq_nil_of_length_eq_zero h
  rw [h1] at hv; simp [val] at hv; omega
 unfold ratS
 rw [if_pos hP, twoS_zero (bigFault2_of (bigOk_of (by omega)) (bigOk_of (by omega))), if_neg h0, if_neg (by omega), hu, hv, show isNeg d = false from isNeg_no (by omega), divZ_f hd, divZ_c hd]
 subst hz
 exact fit_S fz
theorem RatSpan_zz (k : Nat) (n d : Int) (a b : Option Addr) (c e : Nat) (z1 z2 : Int) (w : World) (h : Sl w a (mag n).length c (mag n)) (h' : Sl w b (mag d).length e (mag d)) (hP : isP (k : Int) = true) (ln : (mag n).length ≤ 20) (ld : (mag d).length ≤ 20) (hd : 0 < d) (fz : Fit2 ⟨z1, z2⟩) (hz : (⟨z1, z2⟩ : Z2) = rat2 k n d) :
  Calls Tryz.prog 63 #[.int .i64 (k : Int), .agg #[.bool (isNeg n), .slice a (mag n).length c], .agg #[.bool (isNeg d), .slice b (mag d).length e]] w (SpanRZ w z1 z2) := by
 have h9 := RatSpan_any (k : Int) (isNeg n) (isNeg d) a b _ c _ e (mag n) (mag d) w h h'
 rw [ratS_zz hP ln ld hd fz hz] at h9
 exact h9.mono fun e w' h => spanRZ_of h
theorem l3Rat_zz (k : Nat) (n d : Int) (a b : Option Addr) (c e : Nat) (z1 z2 : Int) (w : World) (h : Sl w a (mag n).length c (mag n)) (h' : Sl w b (mag d).length e (mag d)) (hP : isP (k : Int) = true) (ln : (mag n).length ≤ 20) (ld : (mag d).length ≤ 20) (hd : 0 < d) (hz : (⟨z1, z2⟩ : Z2) = rat2 k n d) :
  Calls Tryz.prog 89 #[.int .i64 (k : Int), .agg #[.bool (isNeg n), .slice a (mag n).length c], .agg #[.bool (isNeg d), .slice b (mag d).length e]] w (SpanV w z1 z2) := by
 have hv : val (mag d) = d := by rw [val_mag, if_neg (by omega)]
 have hu : inU (k : Int) (isNeg n) (mag n) = n * p2 k := by unfold inU; rw [sv_mag, toNat_of]
 have h0 : (mag d).length ≠ 0 := fun h => by
  have h1 : mag d = [] := List.eq_nil_of_length_eq_zero h
  rw [h1] at hv; simp [val] at hv; omega
 have hl := inU_len (P := (k : Int)) hP (bigOk_of (z := n) (by omega)) ln
 refine l3Rat_any (k : Int) _ _ _ _ _ _ _ _ _ _ (n * p2 k) z1 z2 w h h' hP (bigOk_of (by omega)) (bigOk_of (by omega)) ln h0 ?_ hu.symm ?_ ?_
 ·rw [← hu]; exact hl
 ·rw [hv, show isNeg d = false from isNeg_no (by omega), divZ_f hd]; exact congrArg Z2.lo hz
 ·rw [hv, show isNeg d = false from isNeg_no (by omega), divZ_c hd]; exact congrArg Z2.hi hz
/-- A quotient of two numbers, of which the upper one is c times the lower one at most. -/
theorem rat2_in {k : Nat} {n d c : Int} (hd : 0 < d) (h1 : -(c * d) ≤ n) (h2 : n ≤ c * d) : In2 (c * p2 k) (rat2 k n d) := by
 have hp := p2_pos k
 have m1 := Int.mul_le_mul_of_nonneg_right h1 (show 0 ≤ p2 k by omega)
 have m2 := Int.mul_le_mul_of_nonneg_right h2 (show 0 ≤ p2 k by omega)
 have e1 : -(c * d) * p2 k = -(c * p2 k) * d := by rw [Int.neg_mul, Int.neg_mul]; congr 1; ac_rfl
 have e2 : c * d * p2 k = c * p2 k * d := by ac_rfl
 refine ⟨le_fdiv hd (by omega), ?_, cdiv_le hd (by omega)⟩
 show n * p2 k / d ≤ -(-(n * p2 k) / d)
 have a1 := Int.mul_ediv_add_emod (n * p2 k) d
 have a2 := Int.emod_nonneg (n * p2 k) (show d ≠ 0 by omega)
 have a3 := Int.mul_ediv_add_emod (-(n * p2 k)) d
 have a4 := Int.emod_nonneg (-(n * p2 k)) (show d ≠ 0 by omega)
 have a5 : d * (n * p2 k / d) ≤ d * (-(-(n * p2 k) / d)) := by rw [Int.mul_neg]; omega
 exact Int.le_of_mul_le_mul_left a5 hd
theorem SubSpan_zr (x1 x2 : Int) (a b : Option Addr) (c d : Nat) (y1 y2 : Int) (a' b' : Option Addr) (c' d' : Nat) (z1 z2 : Int) (w : World) (h1 : Sl w a (mag x1).length c (mag x1)) (h2 : Sl w b (mag x2).length d (mag x2)) (h3 : Sl w a' (mag y1).length c' (mag y1)) (h4 : Sl w b' (mag y2).length d' (mag y2)) (fx : Fit2 ⟨x1, x2⟩) (fy : Fit2 ⟨y1, y2⟩) (fz : Fit2 ⟨z1, z2⟩) (hz : (⟨z1, z2⟩ : Z2) = sub2 ⟨x1, x2⟩ ⟨y1, y2⟩) :
  Calls Tryz.prog 65 #[.agg #[.bool (isNeg x1), .slice a (mag x1).length c, .bool (isNeg x2), .slice b (mag x2).length d], .agg #[.bool (isNeg y1), .slice a' (mag y1).length c', .bool (isNeg y2), .slice b' (mag y2).length d']] w (SpanR w ⟨0, z1, z2⟩) := by
 have h := SubSpan_any (isNeg x1) (isNeg x2) a b _ c _ d (mag x1) (mag x2) (isNeg y1) (isNeg y2) a' b' _ c' _ d' (mag y1) (mag y2) w h1 h2 h3 h4
 rw [subS_zz (x := ⟨x1, x2⟩) (y := ⟨y1, y2⟩) (z := ⟨z1, z2⟩) fx fy fz hz] at h
 exact h
end Go.Proofs.YtfafjijoeanbhaaGreat
namespace Go.Proofs.YtfafjijoeanbhaaGreat
open Go.RowKit

/-- The number of the circle. -/
def piA (k : Nat) : Z2 := arc2 k (rat2 k 1 5)
def piB (k : Nat) : Z2 := arc2 k (rat2 k 1 239)
def pi2 (k : Nat) : Z2 := sub2 (times2 16 (piA k)) (times2 4 (piB k))
theorem rat_five (k : Nat) : In2 (p2 k) (rat2 k 1 5) := by have h := rat2_in (k := k) (n := 1) (d := 5) (c := 1) (by decide) (by decide) (by decide); rwa [Int.one_mul] at h
theorem rat_239 (k : Nat) : In2 (p2 k) (rat2 k 1 239) := by have h := rat2_in (k := k) (n := 1) (d := 239) (c := 1) (by decide) (by decide) (by decide); rwa [Int.one_mul] at h
theorem piA_in {k : Nat} (hk : k ≤ 96) : In2 (26 * p2 k) (piA k) := arc2_in (rat_five k) hk
theorem piB_in {k : Nat} (hk : k ≤ 96) : In2 (26 * p2 k) (piB k) := arc2_in (rat_239 k) hk
theorem tA_in {k : Nat} (hk : k ≤ 96) : In2 (416 * p2 k) (times2 16 (piA k)) := by
 have h := times2_in (n := 16) (by decide) (piA_in hk)
 rwa [show 26 * p2 k * 16 = 416 * p2 k by omega] at h
theorem tB_in {k : Nat} (hk : k ≤ 96) : In2 (104 * p2 k) (times2 4 (piB k)) := by
 have h := times2_in (n := 4) (by decide) (piB_in hk)
 rwa [show 26 * p2 k * 4 = 104 * p2 k by omega] at h
theorem pi2_in {k : Nat} (hk : k ≤ 96) : In2 (520 * p2 k) (pi2 k) := by
 have h := sub2_in (tA_in hk) (tB_in hk)
 rwa [show 416 * p2 k + 104 * p2 k = 520 * p2 k by omega] at h
theorem one_len {n : Int} (h : -1000000000000000 ≤ n) (h' : n ≤ 1000000000000000) : (mag n).length ≤ 20 := small_len (by omega) (by omega)
theorem rat_fit {k : Nat} {x : Z2} (h : In2 (p2 k) x) (hk : k ≤ 96) : Fit2 x := by rw [← Int.one_mul (p2 k)] at h; exact h.fitU hk (by omega)
theorem far_zero {k : Nat} {n x1 x2 : Int} (hP : isP (k : Int) = true) (fx : Fit2 ⟨x1, x2⟩) (hin : In2 (n * p2 k) ⟨x1, x2⟩) : farC (k : Int) n (isNeg x1) (mag x1) (isNeg x2) (mag x2) = 0 := by
 have hp : precS (k : Int) (spanFault (isNeg x1) (mag x1) (isNeg x2) (mag x2)) = 0 := by
  have h9 := fit_fault fx
  dsimp only at h9
  unfold precS; rw [if_pos hP, h9]
 rw [farC_ok hp]
 obtain ⟨h1, h2, h3⟩ := hin
 dsimp only at h1 h2 h3
 obtain ⟨m, hm⟩ : ∃ m, m = n * p2 k := ⟨_, rfl⟩
 rw [← hm] at h1 h3 ⊢
 rw [if_neg]
 unfold away2 maxZ abZ
 dsimp only
 (repeat' split) <;> omega
theorem ArcSeries_zz (k : Nat) (x1 x2 : Int) (a b : Option Addr) (c d : Nat) (o1 o2 : Int) (w : World) (h1 : Sl w a (mag x1).length c (mag x1)) (h2 : Sl w b (mag x2).length d (mag x2)) (hP : isP (k : Int) = true) (hin : In2 (p2 k) ⟨x1, x2⟩) (hz : (⟨o1, o2⟩ : Z2) = arc2 k ⟨x1, x2⟩) :
  Calls Tryz.prog 67 #[.int .i64 (k : Int), .agg #[.bool (isNeg x1), .slice a (mag x1).length c, .bool (isNeg x2), .slice b (mag x2).length d]] w (SpanRZ w o1 o2) := by
 have hk96 : k ≤ 96 := by rcases isP_cases hP with h | h | h <;> omega
 have h9 := ArcSeries_any (k : Int) (isNeg x1) (isNeg x2) a b _ c _ d (mag x1) (mag x2) w h1 h2
 have hin1 : In2 (1 * p2 k) ⟨x1, x2⟩ := by rw [Int.one_mul]; exact hin
 have fx : Fit2 ⟨x1, x2⟩ := rat_fit hin hk96
 have hf := far_zero hP fx hin1
 rw [arcSS_ok hf, ← hz] at h9
 exact h9.mono fun e w' h => spanRZ_of h
def piS (P : Int) : SV := if isP P = true then ⟨0, (pi2 P.toNat).lo, (pi2 P.toNat).hi⟩ else noSpan 3
end Go.Proofs.YtfafjijoeanbhaaGreat
