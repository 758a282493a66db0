/-
 Contract of the model's l4Arc. Conditions: the precision is one; the ends are one at most.
-/
import Derived.Deep.RegionHeld3
import Derived.Deep.DrawnRows
import Derived.Deep.DeepCutAuto
import Derived.Test.YtfafjijoeanbhaaGreatArcl4Put
import Derived.Test.YtfafjijoeanbhaaGreatArcl4Part
import Derived.Test.YtfafjijoeanbhaaGreatArcl4Swing
import Derived.Test.YtfafjijoeanbhaaGreatArcM
import Derived.Test.YtfafjijoeanbhaaGreatRange
namespace Go.Proofs.YtfafjijoeanbhaaGreat
open Go.RowKit

attribute [local go_sem ↓] field_big field_span field_end0 field_end1
/-- What the region reads first; only the box g was written. -/
def RdW (w0 : World) (g gt : Nat) (v0 v1 v2 v3 : Value) (w : World) : Prop :=
 w.cell? ⟨gt, 0, none⟩ = some v0 ∧ w.cell? ⟨gt, 1, none⟩ = some v1 ∧ w.cell? ⟨gt, 2, none⟩ = some v2 ∧ w.cell? ⟨gt, 3, none⟩ = some v3 ∧ Kept [g] w0 w
theorem RdW.kept {w0 w w' : World} {g gt : Nat} {v0 v1 v2 v3 : Value} (h : RdW w0 g gt v0 v1 v2 v3 w) (k : Kept [] w w') : RdW w0 g gt v0 v1 v2 v3 w' := by
 obtain ⟨t0, t1, t2, t3, hk⟩ := h
 exact ⟨k.cell t0 (by simp), k.cell t1 (by simp), k.cell t2 (by simp), k.cell t3 (by simp), hk.trans0 k⟩
theorem RdW.set {w0 w w' : World} {g gt : Nat} {v0 v1 v2 v3 : Value} (h : RdW w0 g gt v0 v1 v2 v3 w) (k : Kept [g] w w') (h2 : gt ≠ g) : RdW w0 g gt v0 v1 v2 v3 w' := by
 obtain ⟨t0, t1, t2, t3, hk⟩ := h
 exact ⟨k.cell t0 (by simpa using h2), k.cell t1 (by simpa using h2), k.cell t2 (by simpa using h2), k.cell t3 (by simpa using h2), hk.trans k (fun x hx _ => hx)⟩
/-- A slice whose memory, if it has any, is none of these blocks. -/
def Off (L : List Nat) (a : Option Addr) (n : Nat) : Prop := 0 < n → ∀ x, a = some x → x.block ∉ L
/-- A box with a span, told by its numbers, that may be written; its ends lie in none of these blocks. -/
def SpAt (L : List Nat) (w : World) (g : Nat) (x1 x2 : Int) : Prop :=
 ∃ a c b d, w.cell? ⟨g, 0, none⟩ = some (.bool (isNeg x1)) ∧ w.cell? ⟨g, 1, none⟩ = some (.slice a (mag x1).length c) ∧ w.cell? ⟨g, 2, none⟩ = some (.bool (isNeg x2)) ∧ w.cell? ⟨g, 3, none⟩ = some (.slice b (mag x2).length d) ∧
  w.frozen? ⟨g, 0, none⟩ = false ∧ w.frozen? ⟨g, 1, none⟩ = false ∧ w.frozen? ⟨g, 2, none⟩ = false ∧ w.frozen? ⟨g, 3, none⟩ = false ∧ Sl w a (mag x1).length c (mag x1) ∧ Sl w b (mag x2).length d (mag x2) ∧ Off L a (mag x1).length ∧ Off L b (mag x2).length

theorem l4Put_n (j : Nat) (n : Int) (x1 x2 : Int) (a b : Option Addr) (c d : Nat) (y1 y2 : Int) (a' b' : Option Addr) (c' d' : Nat) (z1 z2 : Int) (w : World) (h1 : Sl w a (mag x1).length c (mag x1)) (h2 : Sl w b (mag x2).length d (mag x2)) (h3 : Sl w a' (mag y1).length c' (mag y1)) (h4 : Sl w b' (mag y2).length d' (mag y2)) (hn : n = (j : Int)) (hj : j ≤ 1000) (fx : Fit2 ⟨x1, x2⟩) (fy : Fit2 ⟨y1, y2⟩) (hz : (⟨z1, z2⟩ : Z2) = put2 ⟨x1, x2⟩ ⟨y1, y2⟩ j) :
  Calls Tryz.prog 141 #[.agg #[.bool (isNeg x1), .slice a (mag x1).length c, .bool (isNeg x2), .slice b (mag x2).length d], .agg #[.bool (isNeg y1), .slice a' (mag y1).length c', .bool (isNeg y2), .slice b' (mag y2).length d'], .int .i64 n] w (SpanV w z1 z2) := by
 subst hn; exact l4Put_zz j x1 x2 a b c d y1 y2 a' b' c' d' z1 z2 w h1 h2 h3 h4 hj fx fy hz
theorem fitT {k : Nat} {x : Z2} (h : In2 (p2 k) x) (hk : k ≤ 96) (j : Nat) : Fit2 (arcT k x j) := by
 have h1 := arcT_in h j
 rw [← Int.one_mul (p2 k)] at h1
 exact h1.fitU hk (by omega)
theorem fitP {k : Nat} {x : Z2} (h : In2 (p2 k) x) (hk : k ≤ 96) (j : Nat) : Fit2 (part2 (2 * ((j : Nat) : Int) + 1) (arcT k x j)) := by
 have h1 := arcP_in h j
 rw [← Int.one_mul (p2 k)] at h1
 exact h1.fitU hk (by omega)
theorem fitSum {k : Nat} {x : Z2} (h : In2 (p2 k) x) (hk : k ≤ 96) (j : Nat) (hj : j ≤ 100) : Fit2 (arcS k x j) := (arcS_in h j).fitU hk (by omega)
theorem fitSw {k : Nat} {x : Z2} (h : In2 (p2 k) x) (hk : k ≤ 96) (j : Nat) : Fit2 (swing2 (arcT k x j)) := by
 have h1 := swing2_in (arcT_in h j)
 rw [← Int.one_mul (p2 k)] at h1
 exact h1.fitU hk (by omega)
theorem arcT_succ (k : Nat) (x : Z2) (j : Nat) : arcT k x (j + 1) = mul2 k (arcT k x j) (sq2 k x) := rfl
theorem arcS_succ (k : Nat) (x : Z2) (j : Nat) : arcS k x (j + 1) = put2 (arcS k x j) (part2 (2 * ((j + 1 : Nat) : Int) + 1) (arcT k x (j + 1))) (j + 1) := rfl

set_option maxHeartbeats 8000000 in
set_option maxRecDepth 20000 in
theorem l4Arc_zz (k : Nat) (x1 x2 : Int) (a b : Option Addr) (c d : Nat) (o1 o2 : Int) (w : World) (h1 : Sl w a (mag x1).length c (mag x1)) (h2 : Sl w b (mag x2).length d (mag x2)) (hP : isP (k : Int) = true) (hin : In2 (p2 k) ⟨x1, x2⟩) (hz : (⟨o1, o2⟩ : Z2) = arc2 k ⟨x1, x2⟩) :
  Calls Tryz.prog 91 #[.int .i64 (k : Int), .agg #[.bool (isNeg x1), .slice a (mag x1).length c, .bool (isNeg x2), .slice b (mag x2).length d]] w (SpanV w o1 o2) := by
 obtain ⟨q1, q2, hq⟩ : ∃ q1 q2 : Int, (⟨q1, q2⟩ : Z2) = sq2 k ⟨x1, x2⟩ := ⟨_, _, rfl⟩
 have hk96 : k ≤ 96 := by rcases isP_cases hP with h | h | h <;> omega
 have fx : Fit2 ⟨x1, x2⟩ := fitT hin hk96 0
 have fq : Fit2 ⟨q1, q2⟩ := by have h := sq2_one hin; rw [← hq, ← Int.one_mul (p2 k)] at h; exact h.fitU hk96 (by omega)
 obtain ⟨c0, hc0⟩ : ∃ c0 : Nat, c0 = k / 4 := ⟨_, rfl⟩
 have hc1 : (k : Int) / 4 = (c0 : Int) := by omega
 have hc2 : c0 ≤ 24 := by omega
 have hk0 : (0 : Int) ≤ (k : Int) := by omega
 have H1 := Lib.hid h1
 have H2 := Lib.hid h2
 have F1 := Lib.hid h1.lt
 have F2 := Lib.hid h2.lt
 have HQ := Lib.hid hq
 have HP := Lib.hid hP
 have HIN := Lib.hid hin
 have FX := Lib.hid fx
 have FQ := Lib.hid fq
 have HZ := Lib.hid hz
 have HC := Lib.hid hc1
 have HC0 := Lib.hid hc0
 clear h1 h2 hq hP hin fx fq hz hc1 hc0
 go_enter Tryz.func91, Tryz.ntmps91
 go_upto_region 1 with fail
 generalize hW : ((w.alloc (.cells #[.bool (isNeg x1), .slice a (mag x1).length c, .bool (isNeg x2), .slice b (mag x2).length d] 26)).alloc (.cells #[.bool false, .slice none 0 0, .bool false, .slice none 0 0] 26)) = ww0
 have hkk : Kept [] ((w.alloc (.cells #[.bool (isNeg x1), .slice a (mag x1).length c, .bool (isNeg x2), .slice b (mag x2).length d] 26)).alloc (.cells #[.bool false, .slice none 0 0, .bool false, .slice none 0 0] 26)) ww0 := by rw [hW]; exact Kept.refl _ _
 have zzA : w.heap.size + 1 + 1 = ww0.heap.size := by rw [← hW]; simp
 obtain ⟨⟨nA0, nA1, nA2, nA3⟩, _⟩ := tp4 hkk.peel (g := w.heap.size) (by simp) (by simp)
 obtain ⟨⟨nR0, nR1, nR2, nR3⟩, fR0, fR1, fR2, fR3⟩ := tp4 hkk (g := w.heap.size + 1) (by simp) (by simp)
 have hk := hkk.peel.peel
 clear hkk hW
 have z0 := hk.size
 have kq1 := Lib.hid hk
 have KT := kq1
 clear hk
 replace H1 := Lib.hid (H1.out.kept0 KT.out)
 replace H2 := Lib.hid (H2.out.kept0 KT.out)
 have tA0 := nA0.out
 have tA1 := nA1.out
 have tA2 := nA2.out
 have tA3 := nA3.out
 go_wp2_with fail
 clear tA0 tA1 tA2 tA3
 refine (l3Square_zz k x1 x2 _ _ _ _ q1 q2 _ H1.out H2.out HP.out FX.out HQ.out).mono ?_
 intro e v1 hh; unfold SpanV at hh; obtain ⟨b1, hh⟩ := hh; obtain ⟨c1, hh⟩ := hh; obtain ⟨d1, hh⟩ := hh; obtain ⟨m1, hh, hs1, ht1, hf1, hg1, hk1⟩ := hh; subst hh
 have S1 := Lib.hid hs1
 have GS1 := Lib.hid (hf1.mono (B' := ww0.heap.size) (by simp))
 have US1 := Lib.hid S1.out.lt
 have S2 := Lib.hid ht1
 have GS2 := Lib.hid (hg1.mono (B' := ww0.heap.size) (by simp))
 have US2 := Lib.hid S2.out.lt
 have hk := hk1
 have z1 := hk.size
 have kq2 := Lib.hid hk
 clear hk
 go_upto_region 2 with fail
 generalize hW : (v1.alloc (.cells #[.bool (isNeg q1), .slice b1 (mag q1).length c1, .bool (isNeg q2), .slice d1 (mag q2).length m1] 26)) = ww2
 have hk : Kept [] v1 ww2 := by rw [← hW]; exact (Kept.refl [] _).alloc _
 have zzQ : v1.heap.size + 1 = ww2.heap.size := by rw [← hW]; simp
 have nQ0 := Lib.hid (show ww2.cell? ⟨v1.heap.size, 0, none⟩ = some (.bool (isNeg q1)) by rw [← hW, World.cell?_alloc_new]; rfl)
 have fQ0 := Lib.hid (show ww2.frozen? ⟨v1.heap.size, 0, none⟩ = false by rw [← hW]; exact frozen_of_row _ _ _ _ _ (heap_alloc_new _ _))
 have nQ1 := Lib.hid (show ww2.cell? ⟨v1.heap.size, 1, none⟩ = some (.slice b1 (mag q1).length c1) by rw [← hW, World.cell?_alloc_new]; rfl)
 have fQ1 := Lib.hid (show ww2.frozen? ⟨v1.heap.size, 1, none⟩ = false by rw [← hW]; exact frozen_of_row _ _ _ _ _ (heap_alloc_new _ _))
 have nQ2 := Lib.hid (show ww2.cell? ⟨v1.heap.size, 2, none⟩ = some (.bool (isNeg q2)) by rw [← hW, World.cell?_alloc_new]; rfl)
 have fQ2 := Lib.hid (show ww2.frozen? ⟨v1.heap.size, 2, none⟩ = false by rw [← hW]; exact frozen_of_row _ _ _ _ _ (heap_alloc_new _ _))
 have nQ3 := Lib.hid (show ww2.cell? ⟨v1.heap.size, 3, none⟩ = some (.slice d1 (mag q2).length m1) by rw [← hW, World.cell?_alloc_new]; rfl)
 have fQ3 := Lib.hid (show ww2.frozen? ⟨v1.heap.size, 3, none⟩ = false by rw [← hW]; exact frozen_of_row _ _ _ _ _ (heap_alloc_new _ _))
 clear hW
 have z2 := hk.size
 have kq3 := Lib.hid hk
 clear hk
 have kj1 := Lib.hid (kq2.out.trans0 kq3.out)
 replace nA0 := kc kj1.out nA0
 have tA0 := nA0.out
 replace nA1 := kc kj1.out nA1
 have tA1 := nA1.out
 replace nA2 := kc kj1.out nA2
 have tA2 := nA2.out
 replace nA3 := kc kj1.out nA3
 have tA3 := nA3.out
 go_upto_region 3 with fail
 generalize hW : (ww2.alloc (.cells #[.bool (isNeg x1), .slice a (mag x1).length c, .bool (isNeg x2), .slice b (mag x2).length d] 26)) = ww3
 have hk : Kept [] ww2 ww3 := by rw [← hW]; exact (Kept.refl [] _).alloc _
 have zzT : ww2.heap.size + 1 = ww3.heap.size := by rw [← hW]; simp
 have nT0 := Lib.hid (show ww3.cell? ⟨ww2.heap.size, 0, none⟩ = some (.bool (isNeg x1)) by rw [← hW, World.cell?_alloc_new]; rfl)
 have fT0 := Lib.hid (show ww3.frozen? ⟨ww2.heap.size, 0, none⟩ = false by rw [← hW]; exact frozen_of_row _ _ _ _ _ (heap_alloc_new _ _))
 have nT1 := Lib.hid (show ww3.cell? ⟨ww2.heap.size, 1, none⟩ = some (.slice a (mag x1).length c) by rw [← hW, World.cell?_alloc_new]; rfl)
 have fT1 := Lib.hid (show ww3.frozen? ⟨ww2.heap.size, 1, none⟩ = false by rw [← hW]; exact frozen_of_row _ _ _ _ _ (heap_alloc_new _ _))
 have nT2 := Lib.hid (show ww3.cell? ⟨ww2.heap.size, 2, none⟩ = some (.bool (isNeg x2)) by rw [← hW, World.cell?_alloc_new]; rfl)
 have fT2 := Lib.hid (show ww3.frozen? ⟨ww2.heap.size, 2, none⟩ = false by rw [← hW]; exact frozen_of_row _ _ _ _ _ (heap_alloc_new _ _))
 have nT3 := Lib.hid (show ww3.cell? ⟨ww2.heap.size, 3, none⟩ = some (.slice b (mag x2).length d) by rw [← hW, World.cell?_alloc_new]; rfl)
 have fT3 := Lib.hid (show ww3.frozen? ⟨ww2.heap.size, 3, none⟩ = false by rw [← hW]; exact frozen_of_row _ _ _ _ _ (heap_alloc_new _ _))
 clear hW
 have z3 := hk.size
 have kq4 := Lib.hid hk
 clear hk
 clear tA0 tA1 tA2 tA3
 replace nA0 := kc kq4.out nA0
 have tA0 := nA0.out
 replace nA1 := kc kq4.out nA1
 have tA1 := nA1.out
 replace nA2 := kc kq4.out nA2
 have tA2 := nA2.out
 replace nA3 := kc kq4.out nA3
 have tA3 := nA3.out
 go_upto_region 4 with fail
 generalize hW : (ww3.alloc (.cells #[.bool (isNeg x1), .slice a (mag x1).length c, .bool (isNeg x2), .slice b (mag x2).length d] 26)) = ww4
 have hk : Kept [] ww3 ww4 := by rw [← hW]; exact (Kept.refl [] _).alloc _
 have zzS : ww3.heap.size + 1 = ww4.heap.size := by rw [← hW]; simp
 have nS0 := Lib.hid (show ww4.cell? ⟨ww3.heap.size, 0, none⟩ = some (.bool (isNeg x1)) by rw [← hW, World.cell?_alloc_new]; rfl)
 have fS0 := Lib.hid (show ww4.frozen? ⟨ww3.heap.size, 0, none⟩ = false by rw [← hW]; exact frozen_of_row _ _ _ _ _ (heap_alloc_new _ _))
 have nS1 := Lib.hid (show ww4.cell? ⟨ww3.heap.size, 1, none⟩ = some (.slice a (mag x1).length c) by rw [← hW, World.cell?_alloc_new]; rfl)
 have fS1 := Lib.hid (show ww4.frozen? ⟨ww3.heap.size, 1, none⟩ = false by rw [← hW]; exact frozen_of_row _ _ _ _ _ (heap_alloc_new _ _))
 have nS2 := Lib.hid (show ww4.cell? ⟨ww3.heap.size, 2, none⟩ = some (.bool (isNeg x2)) by rw [← hW, World.cell?_alloc_new]; rfl)
 have fS2 := Lib.hid (show ww4.frozen? ⟨ww3.heap.size, 2, none⟩ = false by rw [← hW]; exact frozen_of_row _ _ _ _ _ (heap_alloc_new _ _))
 have nS3 := Lib.hid (show ww4.cell? ⟨ww3.heap.size, 3, none⟩ = some (.slice b (mag x2).length d) by rw [← hW, World.cell?_alloc_new]; rfl)
 have fS3 := Lib.hid (show ww4.frozen? ⟨ww3.heap.size, 3, none⟩ = false by rw [← hW]; exact frozen_of_row _ _ _ _ _ (heap_alloc_new _ _))
 clear hW
 have z4 := hk.size
 have kq5 := Lib.hid hk
 clear hk
 clear tA0 tA1 tA2 tA3
 go_wp2_with fail
 have QH1 := Lib.hid (show Off [w.heap.size + 1, ww2.heap.size, ww3.heap.size] a (mag x1).length from fun hn x hx hm => by have h9 := F1.out hn x hx; simp at hm; omega)
 have QH2 := Lib.hid (show Off [w.heap.size + 1, ww2.heap.size, ww3.heap.size] b (mag x2).length from fun hn x hx hm => by have h9 := F2.out hn x hx; simp at hm; omega)
 have kj2 := Lib.hid ((kj1.out.trans0 kq4.out).trans0 kq5.out)
 replace KT := Lib.hid (KT.out.trans0 kj2.out)
 have hKU := KT
 replace fR0 := kf kj2.out nR0 fR0
 replace nR0 := kc kj2.out nR0
 replace fR1 := kf kj2.out nR1 fR1
 replace nR1 := kc kj2.out nR1
 replace fR2 := kf kj2.out nR2 fR2
 replace nR2 := kc kj2.out nR2
 replace fR3 := kf kj2.out nR3 fR3
 replace nR3 := kc kj2.out nR3
 replace H1 := Lib.hid (H1.out.kept0 kj2.out)
 replace H2 := Lib.hid (H2.out.kept0 kj2.out)
 have kj3 := Lib.hid ((kq3.out.trans0 kq4.out).trans0 kq5.out)
 replace S1 := Lib.hid (S1.out.kept0 kj3.out)
 replace S2 := Lib.hid (S2.out.kept0 kj3.out)
 have kj4 := Lib.hid (kq4.out.trans0 kq5.out)
 replace fQ0 := kf kj4.out nQ0 fQ0
 replace nQ0 := kc kj4.out nQ0
 replace fQ1 := kf kj4.out nQ1 fQ1
 replace nQ1 := kc kj4.out nQ1
 replace fQ2 := kf kj4.out nQ2 fQ2
 replace nQ2 := kc kj4.out nQ2
 replace fQ3 := kf kj4.out nQ3 fQ3
 replace nQ3 := kc kj4.out nQ3
 replace nA0 := kc kq5.out nA0
 replace nA1 := kc kq5.out nA1
 replace nA2 := kc kq5.out nA2
 replace nA3 := kc kq5.out nA3
 replace fT0 := kf kq5.out nT0 fT0
 replace nT0 := kc kq5.out nT0
 replace fT1 := kf kq5.out nT1 fT1
 replace nT1 := kc kq5.out nT1
 replace fT2 := kf kq5.out nT2 fT2
 replace nT2 := kc kq5.out nT2
 replace fT3 := kf kq5.out nT3 fT3
 replace nT3 := kc kq5.out nT3
 go_loopw [8] (fun i wr => ∃ (j : Nat) (t1 t2 s1 s2 : Int), j ≤ c0 ∧ i = .int .i64 ((j : Int) + 1) ∧ Hid ((⟨t1, t2⟩ : Z2) = arcT k ⟨x1, x2⟩ j) ∧ Hid ((⟨s1, s2⟩ : Z2) = arcS k ⟨x1, x2⟩ j) ∧ Hid (SpAt [w.heap.size + 1, ww2.heap.size, ww3.heap.size] wr (ww2.heap.size) t1 t2) ∧ Hid (SpAt [w.heap.size + 1, ww2.heap.size, ww3.heap.size] wr (ww3.heap.size) s1 s2) ∧ Hid (Kept [ww2.heap.size, ww3.heap.size] ww4 wr)) (fun i _ => c0 + 1 - (intOf i).toNat)
 case atStart => exact ⟨0, x1, x2, x1, x2, by omega, rfl, rfl, rfl, ⟨_, _, _, _, nT0.out, nT1.out, nT2.out, nT3.out, fT0.out, fT1.out, fT2.out, fT3.out, H1.out, H2.out, QH1.out, QH2.out⟩, ⟨_, _, _, _, nS0.out, nS1.out, nS2.out, nS3.out, fS0.out, fS1.out, fS2.out, fS3.out, H1.out, H2.out, QH1.out, QH2.out⟩, Kept.refl _ _⟩
 case round =>
  obtain ⟨j, t1, t2, s1, s2, hj, rfl, HT, HS, HBT, HBS, HK⟩ := hrel
  have hzz := HK.out.size
  have mQ0 := Lib.hid (HK.out.cell (p := ⟨v1.heap.size, 0, none⟩) nQ0.out (by simp; omega))
  have mQ1 := Lib.hid (HK.out.cell (p := ⟨v1.heap.size, 1, none⟩) nQ1.out (by simp; omega))
  have mQ2 := Lib.hid (HK.out.cell (p := ⟨v1.heap.size, 2, none⟩) nQ2.out (by simp; omega))
  have mQ3 := Lib.hid (HK.out.cell (p := ⟨v1.heap.size, 3, none⟩) nQ3.out (by simp; omega))
  have mR0 := Lib.hid (HK.out.cell (p := ⟨w.heap.size + 1, 0, none⟩) nR0.out (by simp; omega))
  have mR1 := Lib.hid (HK.out.cell (p := ⟨w.heap.size + 1, 1, none⟩) nR1.out (by simp; omega))
  have mR2 := Lib.hid (HK.out.cell (p := ⟨w.heap.size + 1, 2, none⟩) nR2.out (by simp; omega))
  have mR3 := Lib.hid (HK.out.cell (p := ⟨w.heap.size + 1, 3, none⟩) nR3.out (by simp; omega))
  have wR0 := Lib.hid (HK.out.free' (p := ⟨w.heap.size + 1, 0, none⟩) nR0.out fR0.out (by simp; omega))
  have wR1 := Lib.hid (HK.out.free' (p := ⟨w.heap.size + 1, 1, none⟩) nR1.out fR1.out (by simp; omega))
  have wR2 := Lib.hid (HK.out.free' (p := ⟨w.heap.size + 1, 2, none⟩) nR2.out fR2.out (by simp; omega))
  have wR3 := Lib.hid (HK.out.free' (p := ⟨w.heap.size + 1, 3, none⟩) nR3.out fR3.out (by simp; omega))
  have VS1 := Lib.hid (S1.out.kept HK.out (fun hn y hy hm => by have h9 := US1.out hn y hy; simp at hm; omega))
  have VS2 := Lib.hid (S2.out.kept HK.out (fun hn y hy hm => by have h9 := US2.out hn y hy; simp at hm; omega))
  clear nT0 fT0 nT1 fT1 nT2 fT2 nT3 fT3 nS0 fS0 nS1 fS1 nS2 fS2 nS3 fS3 KT
  clear nA0 nA1 nA2 nA3 H1 H2 QH1 QH2
  replace nQ0 := mQ0
  clear mQ0
  replace nQ1 := mQ1
  clear mQ1
  replace nQ2 := mQ2
  clear mQ2
  replace nQ3 := mQ3
  clear mQ3
  replace nR0 := mR0
  clear mR0
  replace nR1 := mR1
  clear mR1
  replace nR2 := mR2
  clear mR2
  replace nR3 := mR3
  clear mR3
  replace fR0 := wR0
  clear wR0
  replace fR1 := wR1
  clear wR1
  replace fR2 := wR2
  clear wR2
  replace fR3 := wR3
  clear wR3
  replace S1 := VS1
  clear VS1
  replace S2 := VS2
  clear VS2
  obtain ⟨aT, hb9⟩ := HBT.out
  obtain ⟨cT, hb9⟩ := hb9
  obtain ⟨bT, hb9⟩ := hb9
  obtain ⟨dT, e0, e1, e2, e3, g0, g1, g2, g3, hs9, ht9, q1, q2⟩ := hb9
  have nT0 := Lib.hid e0
  have fT0 := Lib.hid g0
  have nT1 := Lib.hid e1
  have fT1 := Lib.hid g1
  have nT2 := Lib.hid e2
  have fT2 := Lib.hid g2
  have nT3 := Lib.hid e3
  have fT3 := Lib.hid g3
  have T1 := Lib.hid hs9
  have T2 := Lib.hid ht9
  have QT1 := Lib.hid q1
  have QT2 := Lib.hid q2
  clear e0 e1 e2 e3 g0 g1 g2 g3 hs9 ht9 q1 q2 HBT
  obtain ⟨aS, hb9⟩ := HBS.out
  obtain ⟨cS, hb9⟩ := hb9
  obtain ⟨bS, hb9⟩ := hb9
  obtain ⟨dS, e0, e1, e2, e3, g0, g1, g2, g3, hs9, ht9, q1, q2⟩ := hb9
  have nS0 := Lib.hid e0
  have fS0 := Lib.hid g0
  have nS1 := Lib.hid e1
  have fS1 := Lib.hid g1
  have nS2 := Lib.hid e2
  have fS2 := Lib.hid g2
  have nS3 := Lib.hid e3
  have fS3 := Lib.hid g3
  have S91 := Lib.hid hs9
  have S92 := Lib.hid ht9
  have QS91 := Lib.hid q1
  have QS92 := Lib.hid q2
  clear e0 e1 e2 e3 g0 g1 g2 g3 hs9 ht9 q1 q2 HBS
  have FT : Hid (Fit2 ⟨t1, t2⟩) := by have h := fitT HIN.out hk96 j; rw [← HT.out] at h; exact Lib.hid h
  have FS : Hid (Fit2 ⟨s1, s2⟩) := by have h := fitSum HIN.out hk96 j (by omega); rw [← HS.out] at h; exact Lib.hid h
  have hw1 : IntKind.i64.wrap ((j : Int) + 1 + 1) = (j : Int) + 1 + 1 := IntWalk.i64_in _ (by omega)
  by_cases hlt : j < c0
  ·skip
   have KT := HK
   have hle : (j : Int) + 1 ≤ (k : Int) / 4 := by rw [HC.out]; omega
   have hj1 : j + 1 ≤ c0 := by omega
   obtain ⟨u1, u2, hu⟩ : ∃ u1 u2 : Int, (⟨u1, u2⟩ : Z2) = arcT k ⟨x1, x2⟩ (j + 1) := ⟨_, _, rfl⟩
   have FU : Hid (Fit2 ⟨u1, u2⟩) := by have h := fitT HIN.out hk96 (j + 1); rw [← hu] at h; exact Lib.hid h
   obtain ⟨p1, p2_, hp⟩ : ∃ p1 p2_ : Int, (⟨p1, p2_⟩ : Z2) = part2 (2 * ((j + 1 : Nat) : Int) + 1) ⟨u1, u2⟩ := ⟨_, _, rfl⟩
   have FP : Hid (Fit2 ⟨p1, p2_⟩) := by have h := fitP HIN.out hk96 (j + 1); rw [← hu, ← hp] at h; exact Lib.hid h
   obtain ⟨r1, r2, hr⟩ : ∃ r1 r2 : Int, (⟨r1, r2⟩ : Z2) = put2 ⟨s1, s2⟩ ⟨p1, p2_⟩ (j + 1) := ⟨_, _, rfl⟩
   have hrs : (⟨r1, r2⟩ : Z2) = arcS k ⟨x1, x2⟩ (j + 1) := by rw [hr, hp, hu, HS.out]; rfl
   have hum : (⟨u1, u2⟩ : Z2) = mul2 k ⟨t1, t2⟩ ⟨q1, q2⟩ := by rw [hu, arcT_succ, HT.out, HQ.out]
   have hn1 : IntKind.i64.wrap (2 * ((j : Int) + 1)) = 2 * ((j : Int) + 1) := IntWalk.i64_in _ (by omega)
   have hn2 : IntKind.i64.wrap (2 * ((j : Int) + 1) + 1) = 2 * ((j : Int) + 1) + 1 := IntWalk.i64_in _ (by omega)
   have HUT := Lib.hid hu
   have HPP := Lib.hid (show (⟨p1, p2_⟩ : Z2) = part2 (2 * ((j : Int) + 1) + 1) ⟨u1, u2⟩ from hp)
   have HRR := Lib.hid hr
   have HRS := Lib.hid hrs
   have HUM := Lib.hid hum
   have HN1 := Lib.hid hn1
   have HN2 := Lib.hid hn2
   have HW1 := Lib.hid hw1
   clear hu hp hr hrs hum hn1 hn2 hw1 hlt
   have lu1 := FU.out.2.1; have lu2 := FU.out.2.2
   have tT0 := nT0.out
   have tT1 := nT1.out
   have tT2 := nT2.out
   have tT3 := nT3.out
   have tQ0 := nQ0.out
   have tQ1 := nQ1.out
   have tQ2 := nQ2.out
   have tQ3 := nQ3.out
   go_wp2_with fail
   clear tT0 tT1 tT2 tT3 tQ0 tQ1 tQ2 tQ3
   refine (l3Mul_zz k t1 t2 _ _ _ _ q1 q2 _ _ _ _ u1 u2 _ T1.out T2.out S1.out S2.out HP.out FT.out FQ.out HUM.out).mono ?_
   intro e v2 hh; unfold SpanV at hh; obtain ⟨b2, hh⟩ := hh; obtain ⟨c2, hh⟩ := hh; obtain ⟨d2, hh⟩ := hh; obtain ⟨m2, hh, hs2, ht2, hf2, hg2, hk2⟩ := hh; subst hh
   have M1 := Lib.hid hs2
   have GM1 := Lib.hid (hf2.mono (B' := wr.heap.size) (by simp))
   have UM1 := Lib.hid M1.out.lt
   have M2 := Lib.hid ht2
   have GM2 := Lib.hid (hg2.mono (B' := wr.heap.size) (by simp))
   have UM2 := Lib.hid M2.out.lt
   have hk := hk2
   have z5 := hk.size
   have kq1 := Lib.hid hk
   clear hk
   have QM1 := Lib.hid (show Off [w.heap.size + 1, ww2.heap.size, ww3.heap.size] _ _ from fun hn x hx hm => by have h9 := GM1.out hn x hx; simp at hm; omega)
   have QM2 := Lib.hid (show Off [w.heap.size + 1, ww2.heap.size, ww3.heap.size] _ _ from fun hn x hx hm => by have h9 := GM2.out hn x hx; simp at hm; omega)
   have hn1 := HN1.out; have hn2 := HN2.out
   replace fT0 := kf kq1.out nT0 fT0
   replace nT0 := kc kq1.out nT0
   have tT0 := nT0.out
   replace fT1 := kf kq1.out nT1 fT1
   replace nT1 := kc kq1.out nT1
   have tT1 := nT1.out
   replace fT2 := kf kq1.out nT2 fT2
   replace nT2 := kc kq1.out nT2
   have tT2 := nT2.out
   replace fT3 := kf kq1.out nT3 fT3
   replace nT3 := kc kq1.out nT3
   have tT3 := nT3.out
   have uT0 := fT0.out
   have uT1 := fT1.out
   have uT2 := fT2.out
   have uT3 := fT3.out
   go_upto_region 8 with fail
   clear tT0 tT1 tT2 tT3 uT0 uT1 uT2 uT3
   clear T1 T2
   generalize hW : ((((v2.setCell ⟨ww2.heap.size, 0, none⟩ (.bool (isNeg u1))).setCell ⟨ww2.heap.size, 1, none⟩ (.slice b2 (mag u1).length c2)).setCell ⟨ww2.heap.size, 2, none⟩ (.bool (isNeg u2))).setCell ⟨ww2.heap.size, 3, none⟩ (.slice d2 (mag u2).length m2)) = ww6
   have hk : Kept [ww2.heap.size] v2 ww6 := by rw [← hW]; exact ((((Kept.refl _ _).setCell _ _ (by simp)).setCell _ _ (by simp)).setCell _ _ (by simp)).setCell _ _ (by simp)
   have hfz : ∀ x, ww6.frozen? x = v2.frozen? x := by rw [← hW]; intro x; simp only [World.frozen?_setCell]
   obtain ⟨e0, e1, e2, e3⟩ := st4 hW.symm nT0.out nT1.out nT2.out nT3.out
   have z6 := hk.size
   have kq2 := Lib.hid hk
   have hz2 := Lib.hid hfz
   replace fT0 := kz hfz fT0
   replace fT1 := kz hfz fT1
   replace fT2 := kz hfz fT2
   replace fT3 := kz hfz fT3
   replace nT0 := Lib.hid e0
   replace nT1 := Lib.hid e1
   replace nT2 := Lib.hid e2
   replace nT3 := Lib.hid e3
   clear hk hfz hW e0 e1 e2 e3
   have tT0 := nT0.out
   have tT1 := nT1.out
   have tT2 := nT2.out
   have tT3 := nT3.out
   have hHeld : RdW ww6 (ww3.heap.size) (ww2.heap.size) (.bool (isNeg u1)) (.slice b2 (mag u1).length c2) (.bool (isNeg u2)) (.slice d2 (mag u2).length m2) ww6.drew := ⟨tT0, tT1, tT2, tT3, (Kept.refl [ww3.heap.size] ww6).drew⟩
   replace nQ0 := kc kq1.out nQ0
   replace nQ0 := kd kq2.out nQ0 (by simp <;> omega)
   replace nQ1 := kc kq1.out nQ1
   replace nQ1 := kd kq2.out nQ1 (by simp <;> omega)
   replace nQ2 := kc kq1.out nQ2
   replace nQ2 := kd kq2.out nQ2 (by simp <;> omega)
   replace nQ3 := kc kq1.out nQ3
   replace nQ3 := kd kq2.out nQ3 (by simp <;> omega)
   replace fR0 := kf kq1.out nR0 fR0
   replace nR0 := kc kq1.out nR0
   replace fR0 := kz hz2.out fR0
   replace nR0 := kd kq2.out nR0 (by simp <;> omega)
   replace fR1 := kf kq1.out nR1 fR1
   replace nR1 := kc kq1.out nR1
   replace fR1 := kz hz2.out fR1
   replace nR1 := kd kq2.out nR1 (by simp <;> omega)
   replace fR2 := kf kq1.out nR2 fR2
   replace nR2 := kc kq1.out nR2
   replace fR2 := kz hz2.out fR2
   replace nR2 := kd kq2.out nR2 (by simp <;> omega)
   replace fR3 := kf kq1.out nR3 fR3
   replace nR3 := kc kq1.out nR3
   replace fR3 := kz hz2.out fR3
   replace nR3 := kd kq2.out nR3 (by simp <;> omega)
   replace S1 := Lib.hid (S1.out.kept0 kq1.out)
   replace S1 := Lib.hid (S1.out.kept kq2.out (fun hn y hy hm => by have h9 := US1.out hn y hy; simp at hm; omega))
   replace S2 := Lib.hid (S2.out.kept0 kq1.out)
   replace S2 := Lib.hid (S2.out.kept kq2.out (fun hn y hy hm => by have h9 := US2.out hn y hy; simp at hm; omega))
   replace fS0 := kf kq1.out nS0 fS0
   replace nS0 := kc kq1.out nS0
   replace fS0 := kz hz2.out fS0
   replace nS0 := kd kq2.out nS0 (by simp <;> omega)
   replace fS1 := kf kq1.out nS1 fS1
   replace nS1 := kc kq1.out nS1
   replace fS1 := kz hz2.out fS1
   replace nS1 := kd kq2.out nS1 (by simp <;> omega)
   replace fS2 := kf kq1.out nS2 fS2
   replace nS2 := kc kq1.out nS2
   replace fS2 := kz hz2.out fS2
   replace nS2 := kd kq2.out nS2 (by simp <;> omega)
   replace fS3 := kf kq1.out nS3 fS3
   replace nS3 := kc kq1.out nS3
   replace fS3 := kz hz2.out fS3
   replace nS3 := kd kq2.out nS3 (by simp <;> omega)
   replace S91 := Lib.hid (S91.out.kept0 kq1.out)
   replace S91 := Lib.hid (S91.out.kept kq2.out (fun hn y hy hm => by exact QS91.out hn y hy (by simp at hm; simp [hm])))
   replace S92 := Lib.hid (S92.out.kept0 kq1.out)
   replace S92 := Lib.hid (S92.out.kept kq2.out (fun hn y hy hm => by exact QS92.out hn y hy (by simp at hm; simp [hm])))
   replace KT := Lib.hid (KT.out.trans0 kq1.out)
   replace KT := Lib.hid (KT.out.trans kq2.out (fun x hx hlt => by simp at hx; simp [hx]))
   replace M1 := Lib.hid (M1.out.kept kq2.out (fun hn y hy hm => by have h9 := GM1.out hn y hy; simp at hm; omega))
   replace M2 := Lib.hid (M2.out.kept kq2.out (fun hn y hy hm => by have h9 := GM2.out hn y hy; simp at hm; omega))
   refine wp_region_held_drew (S := RdW ww6 (ww3.heap.size) (ww2.heap.size) (.bool (isNeg u1)) (.slice b2 (mag u1).length c2) (.bool (isNeg u2)) (.slice d2 (mag u2).length m2)) (by kernel_rfl) hHeld (fun hHeld => ?_)
   refine take_d (i := 1) (d := 25) (v := Value.agg #[.bool (isNeg u1), .slice b2 (mag u1).length c2, .bool (isNeg u2), .slice d2 (mag u2).length m2]) rfl rfl (by kernel_rfl) (by kernel_rfl) (by kernel_rfl) (fun _ _ _ h => h) (by rfl) ?_ hHeld ?_
   ·intro w9 hS9; obtain ⟨t0, t1, t2, t3, _⟩ := hS9; go_simp
   simp only [List.setIfInBounds_toArray, List.set_cons_zero, List.set_cons_succ]
   refine take_d (i := 2) (d := 26) (v := .int .i64 ((j : Int) + 1)) rfl rfl (by kernel_rfl) (by kernel_rfl) (by kernel_rfl) (fun _ _ _ h => h) (by rfl) ?_ hHeld ?_
   ·intro w9 hS9; obtain ⟨t0, t1, t2, t3, _⟩ := hS9; go_simp
   simp only [List.setIfInBounds_toArray, List.set_cons_zero, List.set_cons_succ]
   refine take_d (i := 3) (d := 27) (v := .int .i64 (2 * ((j : Int) + 1))) rfl rfl (by kernel_rfl) (by kernel_rfl) (by kernel_rfl) (fun _ _ _ h => h) (by rfl) ?_ hHeld ?_
   ·intro w9 hS9; obtain ⟨t0, t1, t2, t3, _⟩ := hS9; go_simp
   simp only [List.setIfInBounds_toArray, List.set_cons_zero, List.set_cons_succ]
   refine take_d (i := 4) (d := 28) (v := .int .i64 (2 * ((j : Int) + 1) + 1)) rfl rfl (by kernel_rfl) (by kernel_rfl) (by kernel_rfl) (fun _ _ _ h => h) (by rfl) ?_ hHeld ?_
   ·intro w9 hS9; obtain ⟨t0, t1, t2, t3, _⟩ := hS9; go_simp
   simp only [List.setIfInBounds_toArray, List.set_cons_zero, List.set_cons_succ]
   refine take_d (i := 6) (d := 30) (v := .int .i64 ((j : Int) + 1)) rfl rfl (by kernel_rfl) (by kernel_rfl) (by kernel_rfl) (fun _ _ _ h => h) (by rfl) ?_ hHeld ?_
   ·intro w9 hS9; obtain ⟨t0, t1, t2, t3, _⟩ := hS9; go_simp
   simp only [List.setIfInBounds_toArray, List.set_cons_zero, List.set_cons_succ]
   refine wpAnyH_ready (rs := [0, 5]) (by kernel_rfl) (by simp) ?_
   refine AllReadyH.cons rfl (fun K hK => ?_) (AllReadyH.cons rfl (fun K hK => ?_) AllReadyH.nil)
   focus
    have d0 := (((Kept.refl [] ww6).drew)).cell (p := ⟨ww3.heap.size, 0, none⟩) nS0.out (by simp)
    have d1 := (((Kept.refl [] ww6).drew)).cell (p := ⟨ww3.heap.size, 1, none⟩) nS1.out (by simp)
    have d2 := (((Kept.refl [] ww6).drew)).cell (p := ⟨ww3.heap.size, 2, none⟩) nS2.out (by simp)
    have d3 := (((Kept.refl [] ww6).drew)).cell (p := ⟨ww3.heap.size, 3, none⟩) nS3.out (by simp)
    go_simp
    refine hK.out _ _ hHeld (fun hHeld => ?_)
    clear hK d0 d1 d2 d3
    try simp only [Act.put, List.setIfInBounds_toArray, List.set_cons_zero, List.set_cons_succ]
    refine wpAnyH_ready (rs := [5]) (by kernel_rfl) (by simp) ?_
    refine AllReadyH.cons rfl (fun K hK => ?_) AllReadyH.nil
    go_simp
    refine (l4Part_zz (2 * ((j : Int) + 1) + 1) u1 u2 _ _ _ _ p1 p2_ _ (M1.out.kept0 ((Kept.refl [] _).drew)) (M2.out.kept0 ((Kept.refl [] _).drew)) (by omega) (by omega) (by omega) lu1 lu2 HPP.out).mono ?_
    intro e v3 hh; unfold SpanV at hh; obtain ⟨b3, hh⟩ := hh; obtain ⟨c3, hh⟩ := hh; obtain ⟨d3, hh⟩ := hh; obtain ⟨m3, hh, hs3, ht3, hf3, hg3, hk3⟩ := hh; subst hh
    refine hK.out _ _ (hHeld.kept hk3) (fun hHeld => ?_)
    clear hK
    try simp only [Act.put, List.setIfInBounds_toArray, List.set_cons_zero, List.set_cons_succ]
    refine wpAnyH_ready (rs := [7]) (by kernel_rfl) (by simp) ?_
    refine AllReadyH.cons rfl (fun K hK => ?_) AllReadyH.nil
    go_simp
    refine (l4Put_n (_ + 1) _ s1 s2 _ _ _ _ p1 p2_ _ _ _ _ r1 r2 _ (S91.out.kept0 (((Kept.refl [] _).drew).trans0 hk3)) (S92.out.kept0 (((Kept.refl [] _).drew).trans0 hk3)) (hs3.kept0 (Kept.refl [] _)) (ht3.kept0 (Kept.refl [] _)) rfl (by omega) FS.out FP.out HRR.out).mono ?_
    intro e v4 hh; unfold SpanV at hh; obtain ⟨b4, hh⟩ := hh; obtain ⟨c4, hh⟩ := hh; obtain ⟨d4, hh⟩ := hh; obtain ⟨m4, hh, hs4, ht4, hf4, hg4, hk4⟩ := hh; subst hh
    refine hK.out _ _ (hHeld.kept hk4) (fun hHeld => ?_)
    clear hK
    try simp only [Act.put, List.setIfInBounds_toArray, List.set_cons_zero, List.set_cons_succ]
    have hkr := ((((Kept.refl [] ww6).drew).trans0 hk3).trans0 hk4); have rg0 := hkr.cell (p := ⟨ww3.heap.size, 0, none⟩) nS0.out (by simp); have rg1 := hkr.cell (p := ⟨ww3.heap.size, 1, none⟩) nS1.out (by simp); have rg2 := hkr.cell (p := ⟨ww3.heap.size, 2, none⟩) nS2.out (by simp); have rg3 := hkr.cell (p := ⟨ww3.heap.size, 3, none⟩) nS3.out (by simp); have ru0 := hkr.free' (p := ⟨ww3.heap.size, 0, none⟩) nS0.out fS0.out (by simp); have ru1 := hkr.free' (p := ⟨ww3.heap.size, 1, none⟩) nS1.out fS1.out (by simp); have ru2 := hkr.free' (p := ⟨ww3.heap.size, 2, none⟩) nS2.out fS2.out (by simp); have ru3 := hkr.free' (p := ⟨ww3.heap.size, 3, none⟩) nS3.out fS3.out (by simp)
    refine wpAnyH_ready (rs := [8]) (by kernel_rfl) (by simp) ?_
    refine AllReadyH.cons rfl (fun K hK => ?_) AllReadyH.nil
    go_simp
    refine hK.out _ _ (hHeld.set (by with_reducible repeat (first | exact Kept.refl _ _ | refine Kept.setCell ?_ _ _ (by simp))) (by omega)) (fun hHeld => ?_)
    clear hK
    refine wpAnyH_done (by kernel_rfl) ?_ _
    try simp only [Act.put, List.setIfInBounds_toArray, List.set_cons_zero, List.set_cons_succ]
   rotate_left 1
   focus
    go_simp
    refine (l4Part_zz (2 * ((j : Int) + 1) + 1) u1 u2 _ _ _ _ p1 p2_ _ (M1.out.kept0 ((Kept.refl [] _).drew)) (M2.out.kept0 ((Kept.refl [] _).drew)) (by omega) (by omega) (by omega) lu1 lu2 HPP.out).mono ?_
    intro e v3 hh; unfold SpanV at hh; obtain ⟨b3, hh⟩ := hh; obtain ⟨c3, hh⟩ := hh; obtain ⟨d3, hh⟩ := hh; obtain ⟨m3, hh, hs3, ht3, hf3, hg3, hk3⟩ := hh; subst hh
    refine hK.out _ _ (hHeld.kept hk3) (fun hHeld => ?_)
    clear hK
    try simp only [Act.put, List.setIfInBounds_toArray, List.set_cons_zero, List.set_cons_succ]
    refine wpAnyH_ready (rs := [0]) (by kernel_rfl) (by simp) ?_
    refine AllReadyH.cons rfl (fun K hK => ?_) AllReadyH.nil
    have d0 := (((((Kept.refl [] ww6).drew).trans0 hk3))).cell (p := ⟨ww3.heap.size, 0, none⟩) nS0.out (by simp)
    have d1 := (((((Kept.refl [] ww6).drew).trans0 hk3))).cell (p := ⟨ww3.heap.size, 1, none⟩) nS1.out (by simp)
    have d2 := (((((Kept.refl [] ww6).drew).trans0 hk3))).cell (p := ⟨ww3.heap.size, 2, none⟩) nS2.out (by simp)
    have d3 := (((((Kept.refl [] ww6).drew).trans0 hk3))).cell (p := ⟨ww3.heap.size, 3, none⟩) nS3.out (by simp)
    go_simp
    refine hK.out _ _ hHeld (fun hHeld => ?_)
    clear hK d0 d1 d2 d3
    try simp only [Act.put, List.setIfInBounds_toArray, List.set_cons_zero, List.set_cons_succ]
    refine wpAnyH_ready (rs := [7]) (by kernel_rfl) (by simp) ?_
    refine AllReadyH.cons rfl (fun K hK => ?_) AllReadyH.nil
    go_simp
    refine (l4Put_n (_ + 1) _ s1 s2 _ _ _ _ p1 p2_ _ _ _ _ r1 r2 _ (S91.out.kept0 (((Kept.refl [] _).drew).trans0 hk3)) (S92.out.kept0 (((Kept.refl [] _).drew).trans0 hk3)) (hs3.kept0 (Kept.refl [] _)) (ht3.kept0 (Kept.refl [] _)) rfl (by omega) FS.out FP.out HRR.out).mono ?_
    intro e v4 hh; unfold SpanV at hh; obtain ⟨b4, hh⟩ := hh; obtain ⟨c4, hh⟩ := hh; obtain ⟨d4, hh⟩ := hh; obtain ⟨m4, hh, hs4, ht4, hf4, hg4, hk4⟩ := hh; subst hh
    refine hK.out _ _ (hHeld.kept hk4) (fun hHeld => ?_)
    clear hK
    try simp only [Act.put, List.setIfInBounds_toArray, List.set_cons_zero, List.set_cons_succ]
    have hkr := ((((Kept.refl [] ww6).drew).trans0 hk3).trans0 hk4); have rg0 := hkr.cell (p := ⟨ww3.heap.size, 0, none⟩) nS0.out (by simp); have rg1 := hkr.cell (p := ⟨ww3.heap.size, 1, none⟩) nS1.out (by simp); have rg2 := hkr.cell (p := ⟨ww3.heap.size, 2, none⟩) nS2.out (by simp); have rg3 := hkr.cell (p := ⟨ww3.heap.size, 3, none⟩) nS3.out (by simp); have ru0 := hkr.free' (p := ⟨ww3.heap.size, 0, none⟩) nS0.out fS0.out (by simp); have ru1 := hkr.free' (p := ⟨ww3.heap.size, 1, none⟩) nS1.out fS1.out (by simp); have ru2 := hkr.free' (p := ⟨ww3.heap.size, 2, none⟩) nS2.out fS2.out (by simp); have ru3 := hkr.free' (p := ⟨ww3.heap.size, 3, none⟩) nS3.out fS3.out (by simp)
    refine wpAnyH_ready (rs := [8]) (by kernel_rfl) (by simp) ?_
    refine AllReadyH.cons rfl (fun K hK => ?_) AllReadyH.nil
    go_simp
    refine hK.out _ _ (hHeld.set (by with_reducible repeat (first | exact Kept.refl _ _ | refine Kept.setCell ?_ _ _ (by simp))) (by omega)) (fun hHeld => ?_)
    clear hK
    refine wpAnyH_done (by kernel_rfl) ?_ _
    try simp only [Act.put, List.setIfInBounds_toArray, List.set_cons_zero, List.set_cons_succ]
   all_goals
    clear tT0 tT1 tT2 tT3
    have zk3 := hk3.size
    have zk4 := hk4.size
    simp only [World.size_drew] at zk3 hf3 hg3
    have N1 := Lib.hid (hs4.kept0 (Kept.refl [] _))
    have GN1 := Lib.hid (hf4.mono (B' := ww6.heap.size) (by omega))
    have UN1 := Lib.hid N1.out.lt
    have N2 := Lib.hid (ht4.kept0 (Kept.refl [] _))
    have GN2 := Lib.hid (hg4.mono (B' := ww6.heap.size) (by omega))
    have UN2 := Lib.hid N2.out.lt
    have hk := hkr
    clear hkr hk3 hk4
    have z7 := hk.size
    have kq3 := Lib.hid hk
    clear hk
    have QN1 := Lib.hid (show Off [w.heap.size + 1, ww2.heap.size, ww3.heap.size] _ _ from fun hn x hx hm => by have h9 := GN1.out hn x hx; simp at hm; omega)
    have QN2 := Lib.hid (show Off [w.heap.size + 1, ww2.heap.size, ww3.heap.size] _ _ from fun hn x hx hm => by have h9 := GN2.out hn x hx; simp at hm; omega)
    clear S91 S92
    generalize hW : ((((v4.setCell ⟨ww3.heap.size, 0, none⟩ (.bool (isNeg r1))).setCell ⟨ww3.heap.size, 1, none⟩ (.slice b4 (mag r1).length c4)).setCell ⟨ww3.heap.size, 2, none⟩ (.bool (isNeg r2))).setCell ⟨ww3.heap.size, 3, none⟩ (.slice d4 (mag r2).length m4)) = ww8
    have hk : Kept [ww3.heap.size] v4 ww8 := by rw [← hW]; exact ((((Kept.refl _ _).setCell _ _ (by simp)).setCell _ _ (by simp)).setCell _ _ (by simp)).setCell _ _ (by simp)
    have hfz : ∀ x, ww8.frozen? x = v4.frozen? x := by rw [← hW]; intro x; simp only [World.frozen?_setCell]
    replace fS0 := kf kq3.out nS0 fS0
    replace nS0 := kc kq3.out nS0
    have e0 : ww8.cell? ⟨ww3.heap.size, 0, none⟩ = some (.bool (isNeg r1)) := by rw [← hW]; rw [World.cell?_setCell_other _ _ _ _ (by simp), World.cell?_setCell_other _ _ _ _ (by simp), World.cell?_setCell_other _ _ _ _ (by simp)]; exact World.cell?_setCell_same _ _ _ (by exact nS0.out)
    replace fS1 := kf kq3.out nS1 fS1
    replace nS1 := kc kq3.out nS1
    have e1 : ww8.cell? ⟨ww3.heap.size, 1, none⟩ = some (.slice b4 (mag r1).length c4) := by rw [← hW]; rw [World.cell?_setCell_other _ _ _ _ (by simp), World.cell?_setCell_other _ _ _ _ (by simp)]; exact World.cell?_setCell_same _ _ _ (by rw [World.cell?_setCell_other _ _ _ _ (by simp)]; exact nS1.out)
    replace fS2 := kf kq3.out nS2 fS2
    replace nS2 := kc kq3.out nS2
    have e2 : ww8.cell? ⟨ww3.heap.size, 2, none⟩ = some (.bool (isNeg r2)) := by rw [← hW]; rw [World.cell?_setCell_other _ _ _ _ (by simp)]; exact World.cell?_setCell_same _ _ _ (by rw [World.cell?_setCell_other _ _ _ _ (by simp), World.cell?_setCell_other _ _ _ _ (by simp)]; exact nS2.out)
    replace fS3 := kf kq3.out nS3 fS3
    replace nS3 := kc kq3.out nS3
    have e3 : ww8.cell? ⟨ww3.heap.size, 3, none⟩ = some (.slice d4 (mag r2).length m4) := by rw [← hW]; exact World.cell?_setCell_same _ _ _ (by rw [World.cell?_setCell_other _ _ _ _ (by simp), World.cell?_setCell_other _ _ _ _ (by simp), World.cell?_setCell_other _ _ _ _ (by simp)]; exact nS3.out)
    have z8 := hk.size
    have kq4 := Lib.hid hk
    have hz4 := Lib.hid hfz
    replace fS0 := kz hfz fS0
    replace fS1 := kz hfz fS1
    replace fS2 := kz hfz fS2
    replace fS3 := kz hfz fS3
    replace nS0 := Lib.hid e0
    replace nS1 := Lib.hid e1
    replace nS2 := Lib.hid e2
    replace nS3 := Lib.hid e3
    clear hk hfz hW e0 e1 e2 e3
    clear hn1 hn2
    have hw1 := HW1.out
    go_wp2_with fail
    go_roundw
    replace nQ0 := kc kq3.out nQ0
    replace nQ0 := kd kq4.out nQ0 (by simp <;> omega)
    replace nQ1 := kc kq3.out nQ1
    replace nQ1 := kd kq4.out nQ1 (by simp <;> omega)
    replace nQ2 := kc kq3.out nQ2
    replace nQ2 := kd kq4.out nQ2 (by simp <;> omega)
    replace nQ3 := kc kq3.out nQ3
    replace nQ3 := kd kq4.out nQ3 (by simp <;> omega)
    replace fR0 := kf kq3.out nR0 fR0
    replace nR0 := kc kq3.out nR0
    replace fR0 := kz hz4.out fR0
    replace nR0 := kd kq4.out nR0 (by simp <;> omega)
    replace fR1 := kf kq3.out nR1 fR1
    replace nR1 := kc kq3.out nR1
    replace fR1 := kz hz4.out fR1
    replace nR1 := kd kq4.out nR1 (by simp <;> omega)
    replace fR2 := kf kq3.out nR2 fR2
    replace nR2 := kc kq3.out nR2
    replace fR2 := kz hz4.out fR2
    replace nR2 := kd kq4.out nR2 (by simp <;> omega)
    replace fR3 := kf kq3.out nR3 fR3
    replace nR3 := kc kq3.out nR3
    replace fR3 := kz hz4.out fR3
    replace nR3 := kd kq4.out nR3 (by simp <;> omega)
    replace S1 := Lib.hid (S1.out.kept0 kq3.out)
    replace S1 := Lib.hid (S1.out.kept kq4.out (fun hn y hy hm => by have h9 := US1.out hn y hy; simp at hm; omega))
    replace S2 := Lib.hid (S2.out.kept0 kq3.out)
    replace S2 := Lib.hid (S2.out.kept kq4.out (fun hn y hy hm => by have h9 := US2.out hn y hy; simp at hm; omega))
    replace fT0 := kf kq3.out nT0 fT0
    replace nT0 := kc kq3.out nT0
    replace fT0 := kz hz4.out fT0
    replace nT0 := kd kq4.out nT0 (by simp <;> omega)
    replace fT1 := kf kq3.out nT1 fT1
    replace nT1 := kc kq3.out nT1
    replace fT1 := kz hz4.out fT1
    replace nT1 := kd kq4.out nT1 (by simp <;> omega)
    replace fT2 := kf kq3.out nT2 fT2
    replace nT2 := kc kq3.out nT2
    replace fT2 := kz hz4.out fT2
    replace nT2 := kd kq4.out nT2 (by simp <;> omega)
    replace fT3 := kf kq3.out nT3 fT3
    replace nT3 := kc kq3.out nT3
    replace fT3 := kz hz4.out fT3
    replace nT3 := kd kq4.out nT3 (by simp <;> omega)
    replace M1 := Lib.hid (M1.out.kept0 kq3.out)
    replace M1 := Lib.hid (M1.out.kept kq4.out (fun hn y hy hm => by have h9 := GM1.out hn y hy; simp at hm; omega))
    replace M2 := Lib.hid (M2.out.kept0 kq3.out)
    replace M2 := Lib.hid (M2.out.kept kq4.out (fun hn y hy hm => by have h9 := GM2.out hn y hy; simp at hm; omega))
    replace KT := Lib.hid (KT.out.trans0 kq3.out)
    replace KT := Lib.hid (KT.out.trans kq4.out (fun x hx hlt => by simp at hx; simp [hx]))
    replace N1 := Lib.hid (N1.out.kept kq4.out (fun hn y hy hm => by have h9 := GN1.out hn y hy; simp at hm; omega))
    replace N2 := Lib.hid (N2.out.kept kq4.out (fun hn y hy hm => by have h9 := GN2.out hn y hy; simp at hm; omega))
    case rel => exact ⟨j + 1, u1, u2, r1, r2, by omega, by first | rfl | (congr 1; omega), HUT, HRS, Lib.hid ⟨_, _, _, _, nT0.out, nT1.out, nT2.out, nT3.out, fT0.out, fT1.out, fT2.out, fT3.out, M1.out, M2.out, QM1.out, QM2.out⟩, Lib.hid ⟨_, _, _, _, nS0.out, nS1.out, nS2.out, nS3.out, fS0.out, fS1.out, fS2.out, fS3.out, N1.out, N2.out, QN1.out, QN2.out⟩, KT⟩
    case measure => simp [intOf]; omega
  ·skip
   obtain rfl : j = c0 := by omega
   have hle : ¬ (j : Int) + 1 ≤ (k : Int) / 4 := by rw [HC.out]; omega
   have KT := Lib.hid (hKU.out.trans HK.out (fun x hx hlt => by simp at hx; omega))
   clear HK hw1 hlt
   obtain ⟨y1, y2, hy⟩ : ∃ y1 y2 : Int, (⟨y1, y2⟩ : Z2) = swing2 ⟨t1, t2⟩ := ⟨_, _, rfl⟩
   have FY : Hid (Fit2 ⟨y1, y2⟩) := by have h := fitSw HIN.out hk96 j; rw [← HT.out, ← hy] at h; exact Lib.hid h
   have hoo : (⟨o1, o2⟩ : Z2) = add2 ⟨s1, s2⟩ ⟨y1, y2⟩ := by rw [HZ.out, hy, HS.out, HT.out]; unfold arc2; rw [← HC0.out]
   have HY := Lib.hid hy
   have HOO := Lib.hid hoo
   clear hy hoo
   have lt1 := FT.out.2.1; have lt2 := FT.out.2.2
   go_upto_region 9 with fail
   have tT0 := nT0.out
   have tT1 := nT1.out
   have tT2 := nT2.out
   have tT3 := nT3.out
   have tS0 := nS0.out
   have tS1 := nS1.out
   have tS2 := nS2.out
   have tS3 := nS3.out
   go_region_held3 (fun w' => w'.cell? ⟨ww2.heap.size, 0, none⟩ = some (.bool (isNeg t1)) ∧ w'.cell? ⟨ww2.heap.size, 1, none⟩ = some (.slice aT (mag t1).length cT) ∧ w'.cell? ⟨ww2.heap.size, 2, none⟩ = some (.bool (isNeg t2)) ∧ w'.cell? ⟨ww2.heap.size, 3, none⟩ = some (.slice bT (mag t2).length dT) ∧ w'.cell? ⟨ww3.heap.size, 0, none⟩ = some (.bool (isNeg s1)) ∧ w'.cell? ⟨ww3.heap.size, 1, none⟩ = some (.slice aS (mag s1).length cS) ∧ w'.cell? ⟨ww3.heap.size, 2, none⟩ = some (.bool (isNeg s2)) ∧ w'.cell? ⟨ww3.heap.size, 3, none⟩ = some (.slice bS (mag s2).length dS) ∧ Hid (Kept [w.heap.size + 1] wr w'))
    ((go_split_ands; (try refine ⟨?_, ?_, ?_, ?_, ?_, ?_, ?_, ?_, ?_⟩) <;> with_reducible first | exact Kept.set4 (by assumption) | exact cell_set4 (by assumption) (by simp <;> omega) | exact Lib.hid ((Kept.refl _ _).drew) | exact drew_cell (by assumption) | exact Kept.allocH (by assumption) | exact alloc_cell (by assumption) | exact Lib.hid (Kept.trans0 (Hid.out (by assumption)) (by assumption)) | exact Kept.cell (by assumption) (by assumption) (by simp)))
    (first
     | (have g9 := hk2; clear g9; go_at_call 100; go_split_ands; refine (l3Add_zz s1 s2 _ _ _ _ y1 y2 _ _ _ _ o1 o2 _ (S91.out.kept0 (((Kept.refl [] _).drew).trans0 hk2)) (S92.out.kept0 (((Kept.refl [] _).drew).trans0 hk2)) (hs2.kept0 (Kept.refl [] _)) (ht2.kept0 (Kept.refl [] _)) FS.out FY.out HOO.out).mono ?_; intro e v3 hh; unfold SpanV at hh; obtain ⟨b3, hh⟩ := hh; obtain ⟨c3, hh⟩ := hh; obtain ⟨d3, hh⟩ := hh; obtain ⟨m3, hh, hs3, ht3, hf3, hg3, hk3⟩ := hh; subst hh; have hkr := ((((Kept.refl [] wr).drew).trans0 hk2).trans0 hk3); have rg0 := hkr.cell (p := ⟨w.heap.size + 1, 0, none⟩) nR0.out (by simp); have rg1 := hkr.cell (p := ⟨w.heap.size + 1, 1, none⟩) nR1.out (by simp); have rg2 := hkr.cell (p := ⟨w.heap.size + 1, 2, none⟩) nR2.out (by simp); have rg3 := hkr.cell (p := ⟨w.heap.size + 1, 3, none⟩) nR3.out (by simp); have ru0 := hkr.free' (p := ⟨w.heap.size + 1, 0, none⟩) nR0.out fR0.out (by simp); have ru1 := hkr.free' (p := ⟨w.heap.size + 1, 1, none⟩) nR1.out fR1.out (by simp); have ru2 := hkr.free' (p := ⟨w.heap.size + 1, 2, none⟩) nR2.out fR2.out (by simp); have ru3 := hkr.free' (p := ⟨w.heap.size + 1, 3, none⟩) nR3.out fR3.out (by simp))
     | (go_at_call 142; go_split_ands; refine (l4Swing_zz t1 t2 _ _ _ _ y1 y2 _ (T1.out.kept0 ((Kept.refl [] _).drew)) (T2.out.kept0 ((Kept.refl [] _).drew)) lt1 lt2 HY.out).mono ?_; intro e v2 hh; unfold SpanV at hh; obtain ⟨b2, hh⟩ := hh; obtain ⟨c2, hh⟩ := hh; obtain ⟨d2, hh⟩ := hh; obtain ⟨m2, hh, hs2, ht2, hf2, hg2, hk2⟩ := hh; subst hh))
   clear tT0 tT1 tT2 tT3 tS0 tS1 tS2 tS3
   have zk2 := hk2.size
   have zk3 := hk3.size
   simp only [World.size_drew] at zk2 hf2 hg2
   have N1 := Lib.hid (hs3.kept0 (Kept.refl [] _))
   have GN1 := Lib.hid (hf3.mono (B' := wr.heap.size) (by omega))
   have UN1 := Lib.hid N1.out.lt
   have N2 := Lib.hid (ht3.kept0 (Kept.refl [] _))
   have GN2 := Lib.hid (hg3.mono (B' := wr.heap.size) (by omega))
   have UN2 := Lib.hid N2.out.lt
   have hk := hkr
   clear hkr hk2 hk3
   have z5 := hk.size
   have kq1 := Lib.hid hk
   clear hk
   generalize hW : ((((v3.setCell ⟨w.heap.size + 1, 0, none⟩ (.bool (isNeg o1))).setCell ⟨w.heap.size + 1, 1, none⟩ (.slice b3 (mag o1).length c3)).setCell ⟨w.heap.size + 1, 2, none⟩ (.bool (isNeg o2))).setCell ⟨w.heap.size + 1, 3, none⟩ (.slice d3 (mag o2).length m3)) = ww6
   have hk : Kept [w.heap.size + 1] v3 ww6 := by rw [← hW]; exact ((((Kept.refl _ _).setCell _ _ (by simp)).setCell _ _ (by simp)).setCell _ _ (by simp)).setCell _ _ (by simp)
   have hfz : ∀ x, ww6.frozen? x = v3.frozen? x := by rw [← hW]; intro x; simp only [World.frozen?_setCell]
   replace fR0 := kf kq1.out nR0 fR0
   replace nR0 := kc kq1.out nR0
   have e0 : ww6.cell? ⟨w.heap.size + 1, 0, none⟩ = some (.bool (isNeg o1)) := by rw [← hW]; rw [World.cell?_setCell_other _ _ _ _ (by simp), World.cell?_setCell_other _ _ _ _ (by simp), World.cell?_setCell_other _ _ _ _ (by simp)]; exact World.cell?_setCell_same _ _ _ (by exact nR0.out)
   replace fR1 := kf kq1.out nR1 fR1
   replace nR1 := kc kq1.out nR1
   have e1 : ww6.cell? ⟨w.heap.size + 1, 1, none⟩ = some (.slice b3 (mag o1).length c3) := by rw [← hW]; rw [World.cell?_setCell_other _ _ _ _ (by simp), World.cell?_setCell_other _ _ _ _ (by simp)]; exact World.cell?_setCell_same _ _ _ (by rw [World.cell?_setCell_other _ _ _ _ (by simp)]; exact nR1.out)
   replace fR2 := kf kq1.out nR2 fR2
   replace nR2 := kc kq1.out nR2
   have e2 : ww6.cell? ⟨w.heap.size + 1, 2, none⟩ = some (.bool (isNeg o2)) := by rw [← hW]; rw [World.cell?_setCell_other _ _ _ _ (by simp)]; exact World.cell?_setCell_same _ _ _ (by rw [World.cell?_setCell_other _ _ _ _ (by simp), World.cell?_setCell_other _ _ _ _ (by simp)]; exact nR2.out)
   replace fR3 := kf kq1.out nR3 fR3
   replace nR3 := kc kq1.out nR3
   have e3 : ww6.cell? ⟨w.heap.size + 1, 3, none⟩ = some (.slice d3 (mag o2).length m3) := by rw [← hW]; exact World.cell?_setCell_same _ _ _ (by rw [World.cell?_setCell_other _ _ _ _ (by simp), World.cell?_setCell_other _ _ _ _ (by simp), World.cell?_setCell_other _ _ _ _ (by simp)]; exact nR3.out)
   have z6 := hk.size
   have kq2 := Lib.hid hk
   have hz2 := Lib.hid hfz
   replace fR0 := kz hfz fR0
   replace fR1 := kz hfz fR1
   replace fR2 := kz hfz fR2
   replace fR3 := kz hfz fR3
   replace nR0 := Lib.hid e0
   replace nR1 := Lib.hid e1
   replace nR2 := Lib.hid e2
   replace nR3 := Lib.hid e3
   clear hk hfz hW e0 e1 e2 e3
   go_wp2_with fail
   have e0 := nR0.out
   have e1 := nR1.out
   have e2 := nR2.out
   have e3 := nR3.out
   refine bodyPost_ret (v := .agg #[.bool (isNeg o1), .slice b3 (mag o1).length c3, .bool (isNeg o2), .slice d3 (mag o2).length m3]) (by simp [results, Tryz.results91, go_sem, e0, e1, e2, e3]) rfl ?_
   replace KT := Lib.hid (KT.out.trans0 kq1.out)
   replace KT := Lib.hid (KT.out.trans kq2.out (fun x hx hlt => by simp at hx; omega))
   replace N1 := Lib.hid (N1.out.kept kq2.out (fun hn y hy hm => by have h9 := GN1.out hn y hy; simp at hm; omega))
   replace N2 := Lib.hid (N2.out.kept kq2.out (fun hn y hy hm => by have h9 := GN2.out hn y hy; simp at hm; omega))
   exact ⟨_, _, _, _, rfl, N1.out, N2.out, GN1.out.mono (by omega), GN2.out.mono (by omega), KT.out⟩

end Go.Proofs.YtfafjijoeanbhaaGreat
