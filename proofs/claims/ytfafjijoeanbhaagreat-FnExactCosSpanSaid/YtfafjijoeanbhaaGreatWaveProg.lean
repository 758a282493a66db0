/-
 Contract of waveSpan. Conditions: as said.
-/
import Derived.Deep.RegionHeld3
import Derived.Deep.DrawnRows
import Derived.Deep.DeepCutAuto
import Derived.Test.YtfafjijoeanbhaaGreatPlainG
import Derived.Test.YtfafjijoeanbhaaGreatSumT
import Derived.Test.YtfafjijoeanbhaaGreatWaveFn
import Derived.Test.YtfafjijoeanbhaaGreatTermsB
import Derived.Test.YtfafjijoeanbhaaGreatBox4
namespace Go.Proofs.YtfafjijoeanbhaaGreat
open Go.RowKit

attribute [local go_sem ↓] field_big field_span field_end0 field_end1
set_option maxHeartbeats 4000000 in
set_option maxRecDepth 20000 in
theorem waveSum_zz (k c0 : Nat) (s y1 y2 q1 q2 o1 o2 : Int) (gA gN gF gs gp gq : Nat) (a b a' b' : Option Addr) (c d c' d' : Nat) (w : World)
  (hA0 : w.cell? ⟨gA, 0, none⟩ = some (.bool (isNeg y1))) (hA1 : w.cell? ⟨gA, 1, none⟩ = some (.slice a (mag y1).length c)) (hA2 : w.cell? ⟨gA, 2, none⟩ = some (.bool (isNeg y2))) (hA3 : w.cell? ⟨gA, 3, none⟩ = some (.slice b (mag y2).length d)) (h1 : Sl w a (mag y1).length c (mag y1)) (h2 : Sl w b (mag y2).length d (mag y2))
  (hNc : w.cell? ⟨gN, 0, none⟩ = some (.int .i64 (c0 : Int))) (hF : w.cell? ⟨gF, 0, none⟩ = some (.func (.func 144) #[] #[.pointer (some ⟨gs, 0, none⟩), .pointer (some ⟨gp, 0, none⟩), .pointer (some ⟨gq, 0, none⟩)])) (hcap : WaveCap k s q1 q2 gs gp gq a' b' c' d' w)
  (hP : isP (k : Int) = true) (hs : s = 1 ∨ s = -1) (hy : In2 (7 * p2 k) ⟨y1, y2⟩) (hq : In2 (49 * p2 k) ⟨q1, q2⟩) (hc0 : c0 = 40) (fo : Fit2 ⟨o1, o2⟩) (ho : (⟨o1, o2⟩ : Z2) = waveA k ⟨y1, y2⟩ ⟨q1, q2⟩ s) :
  Calls Tryz.prog 123 #[.agg #[.bool (isNeg y1), .slice a (mag y1).length c, .bool (isNeg y2), .slice b (mag y2).length d], .func (.func 183) #[] #[.pointer (some ⟨gA, 0, none⟩), .pointer (some ⟨gN, 0, none⟩), .pointer (some ⟨gF, 0, none⟩)], .func (.func 145) #[] #[]] w (SpanR w ⟨0, o1, o2⟩) := by
 have hk96 : k ≤ 96 := by rcases isP_cases hP with h | h | h <;> omega
 subst hc0
 have fq : Fit2 ⟨q1, q2⟩ := hq.fitU hk96 (by omega)
 exact sumOfTerms_zz (waveT k ⟨y1, y2⟩ ⟨q1, q2⟩ s) (waveT k ⟨y1, y2⟩ ⟨q1, q2⟩ s) (waveS k ⟨y1, y2⟩ ⟨q1, q2⟩ s) 40 (by omega) gA gN gF 144 145 #[.pointer (some ⟨gs, 0, none⟩), .pointer (some ⟨gp, 0, none⟩), .pointer (some ⟨gq, 0, none⟩)] (WaveCap k s q1 q2 gs gp gq a' b' c' d') w a b a b c d c d o1 o2 hA0 hA1 hA2 hA3 h1 h2 h1 h2 hNc hF
  (enters_of Tryz.func144 (by kernel_rfl) rfl) (enters_of Tryz.func145 (by kernel_rfl) rfl) hcap (fun A B L hA hk hL => hcap.kept hA hk hL)
  (fun j W ta tb tc td hj hc s1 s2 => waveNext_zz k s j q1 q2 gs gp gq a' b' c' d' (waveT k ⟨y1, y2⟩ ⟨q1, q2⟩ s j).lo (waveT k ⟨y1, y2⟩ ⟨q1, q2⟩ s j).hi ta tb tc td (mul2 k (waveT k ⟨y1, y2⟩ ⟨q1, q2⟩ s j) ⟨q1, q2⟩).lo (mul2 k (waveT k ⟨y1, y2⟩ ⟨q1, q2⟩ s j) ⟨q1, q2⟩).hi (waveT k ⟨y1, y2⟩ ⟨q1, q2⟩ s (j + 1)).lo (waveT k ⟨y1, y2⟩ ⟨q1, q2⟩ s (j + 1)).hi W s1 s2 hc hP hs hj (waveT_fit hs hy hq hk96 j (by omega)) fq (waveM_fit hs hy hq hk96 j (by omega)) rfl rfl)
  (fun j W ta tb tc td hj s1 s2 => waveAdd_zz j (waveT k ⟨y1, y2⟩ ⟨q1, q2⟩ s (j + 1)).lo (waveT k ⟨y1, y2⟩ ⟨q1, q2⟩ s (j + 1)).hi ta tb tc td W s1 s2)
  rfl (fun j _ => waveS_succ k _ _ s j) (fun j hj => waveS_fit hs hy hq hk96 j hj) (fun j hj => waveT_fit hs hy hq hk96 j hj) (fun j hj => waveT_fit hs hy hq hk96 j hj) (waveW_fit hs hy hq hk96) fo ho

set_option maxHeartbeats 8000000 in
set_option maxRecDepth 20000 in
theorem waveSpan_good (k : Nat) (x1 x2 : Int) (a b : Option Addr) (c d : Nat) (y1 y2 : Int) (a' b' : Option Addr) (c' d' : Nat) (s o1 o2 : Int) (w : World) (h1 : Sl w a (mag x1).length c (mag x1)) (h2 : Sl w b (mag x2).length d (mag x2)) (h3 : Sl w a' (mag y1).length c' (mag y1)) (h4 : Sl w b' (mag y2).length d' (mag y2)) (hP : isP (k : Int) = true) (hf : farC (k : Int) 7 (isNeg x1) (mag x1) (isNeg x2) (mag x2) = 0) (hin : In2 (7 * p2 k) ⟨x1, x2⟩) (hy : In2 (7 * p2 k) ⟨y1, y2⟩) (hs : s = 1 ∨ s = -1) (fo : Fit2 ⟨o1, o2⟩) (ho : (⟨o1, o2⟩ : Z2) = wave2 k ⟨x1, x2⟩ ⟨y1, y2⟩ s) :
  Calls Tryz.prog 78 #[.int .i64 (k : Int), .agg #[.bool (isNeg x1), .slice a (mag x1).length c, .bool (isNeg x2), .slice b (mag x2).length d], .agg #[.bool (isNeg y1), .slice a' (mag y1).length c', .bool (isNeg y2), .slice b' (mag y2).length d'], .int .i64 s] w (SpanR w ⟨0, o1, o2⟩) := by
 have hk96 : k ≤ 96 := by rcases isP_cases hP with h | h | h <;> omega
 have hin1 := in_low hin
 obtain ⟨q1, q2, hq⟩ : ∃ q1 q2 : Int, (⟨q1, q2⟩ : Z2) = sq2 k ⟨x1, x1⟩ := ⟨_, _, rfl⟩
 have hq49 : In2 (49 * p2 k) ⟨q1, q2⟩ := by rw [hq]; exact sq_seven hin1
 have fx : Fit2 ⟨x1, x2⟩ := hin.fitU hk96 (by omega)
 have fx1 : Fit2 ⟨x1, x1⟩ := hin1.fitU hk96 (by omega)
 have fq : Fit2 ⟨q1, q2⟩ := hq49.fitU hk96 (by omega)
 obtain ⟨g1, g2, hg⟩ : ∃ g1 g2 : Int, (⟨g1, g2⟩ : Z2) = waveA k ⟨y1, y2⟩ ⟨q1, q2⟩ s := ⟨_, _, rfl⟩
 have fg : Fit2 ⟨g1, g2⟩ := by rw [hg]; exact waveA_fit hs hy hq49 hk96
 obtain ⟨d1, hd1⟩ : ∃ d1, d1 = x2 - x1 := ⟨_, rfl⟩
 obtain ⟨e1', e2', he9⟩ : ∃ e1' e2' : Int, (⟨e1', e2'⟩ : Z2) = swing2 ⟨d1, d1⟩ := ⟨_, _, rfl⟩
 have fd : Fit2 ⟨d1, d1⟩ := by rw [hd1]; exact width_fit hin hk96
 have fe : Fit2 ⟨e1', e2'⟩ := by rw [he9, hd1]; exact widthW_fit hin hk96
 have hoo : (⟨o1, o2⟩ : Z2) = add2 ⟨g1, g2⟩ ⟨e1', e2'⟩ := by rw [ho, he9, hd1, hg, hq]; rfl
 obtain ⟨c0, hc0⟩ : ∃ c0 : Nat, c0 = 40 := ⟨_, rfl⟩
 have hc1 : (40 : Int) = (c0 : Int) := by omega
 have H1 := Lib.hid h1
 have H2 := Lib.hid h2
 have H3 := Lib.hid h3
 have H4 := Lib.hid h4
 have F1 := Lib.hid h1.lt
 have F2 := Lib.hid h2.lt
 have F3 := Lib.hid h3.lt
 have F4 := Lib.hid h4.lt
 have HF := Lib.hid hf
 have HP := Lib.hid hP
 have HS := Lib.hid hs
 have HY := Lib.hid hy
 have HIN := Lib.hid hin
 have HQ := Lib.hid hq
 have HQ49 := Lib.hid hq49
 have FX := Lib.hid fx
 have FX1 := Lib.hid fx1
 have FQ := Lib.hid fq
 have HG := Lib.hid hg
 have FG := Lib.hid fg
 have HD1 := Lib.hid hd1
 have HE9 := Lib.hid he9
 have FD := Lib.hid fd
 have FE := Lib.hid fe
 have FO := Lib.hid fo
 have HOO := Lib.hid hoo
 have HC := Lib.hid hc1
 have HC0 := Lib.hid hc0
 clear h1 h2 h3 h4 hf hP hs hy hin hin1 hq hq49 fx fx1 fq hg fg hd1 he9 fd fe fo ho hoo hc1 hc0
 go_enter Tryz.func78, Tryz.ntmps78
 go_wp2_with fail
 generalize hW : (((((w.alloc (.cells #[.int .i64 (k : Int)] 2)).alloc (.cells #[.bool (isNeg x1), .slice a (mag x1).length c, .bool (isNeg x2), .slice b (mag x2).length d] 26)).alloc (.cells #[.bool (isNeg y1), .slice a' (mag y1).length c', .bool (isNeg y2), .slice b' (mag y2).length d'] 26)).alloc (.cells #[.int .i64 s] 2)).alloc (.cells #[.int .i64 0, .bool false, .slice none 0 0, .bool false, .slice none 0 0] 28)) = ww0
 have hkk : Kept [] (((((w.alloc (.cells #[.int .i64 (k : Int)] 2)).alloc (.cells #[.bool (isNeg x1), .slice a (mag x1).length c, .bool (isNeg x2), .slice b (mag x2).length d] 26)).alloc (.cells #[.bool (isNeg y1), .slice a' (mag y1).length c', .bool (isNeg y2), .slice b' (mag y2).length d'] 26)).alloc (.cells #[.int .i64 s] 2)).alloc (.cells #[.int .i64 0, .bool false, .slice none 0 0, .bool false, .slice none 0 0] 28)) ww0 := by rw [hW]; exact Kept.refl _ _
 have zzA : w.heap.size + 1 + 1 + 1 + 1 + 1 = ww0.heap.size := by rw [← hW]; simp
 obtain ⟨nP0, _⟩ := tp1 hkk.peel.peel.peel.peel (g := w.heap.size) (by simp) (by simp)
 obtain ⟨⟨nA0, nA1, nA2, nA3⟩, _⟩ := tp4 hkk.peel.peel.peel (g := w.heap.size + 1) (by simp) (by simp)
 obtain ⟨⟨nY0, nY1, nY2, nY3⟩, _⟩ := tp4 hkk.peel.peel (g := w.heap.size + 1 + 1) (by simp) (by simp)
 obtain ⟨nD0, _⟩ := tp1 hkk.peel (g := w.heap.size + 1 + 1 + 1) (by simp) (by simp)
 obtain ⟨⟨nR0, nR1, nR2, nR3, nR4⟩, fR0, fR1, fR2, fR3, fR4⟩ := tp5 hkk (g := w.heap.size + 1 + 1 + 1 + 1) (by simp) (by simp)
 have hk := hkk.peel.peel.peel.peel.peel
 clear hkk hW
 have z0 := hk.size
 have kq1 := Lib.hid hk
 have KT := kq1
 clear hk
 replace H1 := Lib.hid (H1.out.kept0 KT.out)
 replace H2 := Lib.hid (H2.out.kept0 KT.out)
 replace H3 := Lib.hid (H3.out.kept0 KT.out)
 replace H4 := Lib.hid (H4.out.kept0 KT.out)
 have tP0 := nP0.out
 have tA0 := nA0.out
 have tA1 := nA1.out
 have tA2 := nA2.out
 have tA3 := nA3.out
 go_wp2_with fail
 clear tP0 tA0 tA1 tA2 tA3
 refine (farFault_any (k : Int) 7 _ _ _ _ _ _ _ _ _ _ _ H1.out H2.out (by omega) (by omega)).mono ?_
 intro e v1 hh; obtain ⟨hh, hk1⟩ := hh; subst hh
 have hk := hk1
 have z1 := hk.size
 have kq2 := Lib.hid hk
 clear hk
 rw [HF.out]
 replace nP0 := kc kq2.out nP0
 replace nA0 := kc kq2.out nA0
 replace nA1 := kc kq2.out nA1
 replace nA2 := kc kq2.out nA2
 replace nA3 := kc kq2.out nA3
 replace nY0 := kc kq2.out nY0
 replace nY1 := kc kq2.out nY1
 replace nY2 := kc kq2.out nY2
 replace nY3 := kc kq2.out nY3
 replace nD0 := kc kq2.out nD0
 replace fR0 := kf kq2.out nR0 fR0
 replace nR0 := kc kq2.out nR0
 replace fR1 := kf kq2.out nR1 fR1
 replace nR1 := kc kq2.out nR1
 replace fR2 := kf kq2.out nR2 fR2
 replace nR2 := kc kq2.out nR2
 replace fR3 := kf kq2.out nR3 fR3
 replace nR3 := kc kq2.out nR3
 replace fR4 := kf kq2.out nR4 fR4
 replace nR4 := kc kq2.out nR4
 replace H1 := Lib.hid (H1.out.kept0 kq2.out)
 replace H2 := Lib.hid (H2.out.kept0 kq2.out)
 replace H3 := Lib.hid (H3.out.kept0 kq2.out)
 replace H4 := Lib.hid (H4.out.kept0 kq2.out)
 replace KT := Lib.hid (KT.out.trans0 kq2.out)
 have tP0 := nP0.out
 have tA0 := nA0.out
 have tA1 := nA1.out
 have tA2 := nA2.out
 have tA3 := nA3.out
 go_upto_region 4 with fail
 go_cut [10] (fun s wx => Hid (Box4 v1 q1 q2 s wx))
 case first =>
  go_region_held3 (fun w' => w'.cell? ⟨w.heap.size, 0, none⟩ = some (.int .i64 (k : Int)) ∧ w'.cell? ⟨w.heap.size + 1, 0, none⟩ = some (.bool (isNeg x1)) ∧ w'.cell? ⟨w.heap.size + 1, 1, none⟩ = some (.slice a (mag x1).length c) ∧ w'.cell? ⟨w.heap.size + 1, 2, none⟩ = some (.bool (isNeg x2)) ∧ w'.cell? ⟨w.heap.size + 1, 3, none⟩ = some (.slice b (mag x2).length d) ∧ Hid (Kept [] v1 w'))
   ((go_split_ands; (try refine ⟨?_, ?_, ?_, ?_, ?_, ?_⟩) <;> with_reducible first | assumption | exact Kept.set4n (by assumption) (by omega) | exact cell_set4 (by assumption) (by (try dsimp only); omega) | exact drew_alloc_cell (by assumption) | exact drew_cell (by assumption) | exact Kept.allocH (by assumption) | exact alloc_cell (by assumption) | exact Lib.hid (Kept.trans0 (Hid.out (by assumption)) (by assumption)) | exact Kept.cell (by assumption) (by assumption) (by simp) | exact Lib.hid ((Kept.refl _ _).drew) | exact Lib.hid (((Kept.refl _ _).alloc _).drew)))
   (first
    | (go_at_call 79; go_split_ands; refine (spanOfNumber_any x1 _ _ _).mono ?_; intro e va hh; obtain ⟨hh, hk1⟩ := hh; subst hh; have zk1 := hk1.size; (try simp only [World.size_drew, World.size_alloc] at zk1); (first | (obtain ⟨z0_, y0_, _⟩ := hk1.undrew.top (g := v1.heap.size) rfl (by simp) 0 (v := .bool false) rfl; obtain ⟨z1_, y1_, _⟩ := hk1.undrew.top (g := v1.heap.size) rfl (by simp) 1 (v := .slice none 0 0) rfl; obtain ⟨z2_, y2_, _⟩ := hk1.undrew.top (g := v1.heap.size) rfl (by simp) 2 (v := .bool false) rfl; obtain ⟨z3_, y3_, _⟩ := hk1.undrew.top (g := v1.heap.size) rfl (by simp) 3 (v := .slice none 0 0) rfl) | skip))
    | (go_at_call 120; go_split_ands; refine (SquareSpan_zz k x1 x1 _ _ _ _ q1 q2 _ (H1.out.kept0 (Hid.out (by assumption : Hid (Kept [] v1 _)))) (H1.out.kept0 (Hid.out (by assumption : Hid (Kept [] v1 _)))) HP.out FX1.out FQ.out HQ.out).mono ?_; intro e vb hh; unfold SpanRZ at hh; obtain ⟨b2, hh⟩ := hh; obtain ⟨c2, hh⟩ := hh; obtain ⟨d2, hh⟩ := hh; obtain ⟨m2, hh, hs2, ht2, hf2, hg2, hk2⟩ := hh; subst hh; have zk2 := hk2.size; (try simp only [World.size_alloc] at zk2); have sck := Lib.hid (Kept.trans0 (Hid.out (by assumption : Hid (Kept [] v1 _))) hk2); have sc0 : vb.cell? ⟨w.heap.size, 0, none⟩ = some (.int .i64 (k : Int)) := hk2.cell (by assumption) (by simp); have sc1 : vb.cell? ⟨w.heap.size + 1, 0, none⟩ = some (.bool (isNeg x1)) := hk2.cell (by assumption) (by simp); have sc2 : vb.cell? ⟨w.heap.size + 1, 1, none⟩ = some (.slice a (mag x1).length c) := hk2.cell (by assumption) (by simp); have sc3 : vb.cell? ⟨w.heap.size + 1, 2, none⟩ = some (.bool (isNeg x2)) := hk2.cell (by assumption) (by simp); have sc4 : vb.cell? ⟨w.heap.size + 1, 3, none⟩ = some (.slice b (mag x2).length d) := hk2.cell (by assumption) (by simp); (first | (obtain ⟨z0_, y0_, _⟩ := hk2.top (g := va.heap.size) rfl (by simp) 0 (v := .bool false) rfl; obtain ⟨z1_, y1_, _⟩ := hk2.top (g := va.heap.size) rfl (by simp) 1 (v := .slice none 0 0) rfl; obtain ⟨z2_, y2_, _⟩ := hk2.top (g := va.heap.size) rfl (by simp) 2 (v := .bool false) rfl; obtain ⟨z3_, y3_, _⟩ := hk2.top (g := va.heap.size) rfl (by simp) 3 (v := .slice none 0 0) rfl) | (replace y0_ := hk2.free' z0_ y0_ (by simp); replace y1_ := hk2.free' z1_ y1_ (by simp); replace y2_ := hk2.free' z2_ y2_ (by simp); replace y3_ := hk2.free' z3_ y3_ (by simp); replace z0_ := hk2.cell z0_ (by simp); replace z1_ := hk2.cell z1_ (by simp); replace z2_ := hk2.cell z2_ (by simp); replace z3_ := hk2.cell z3_ (by simp)) | skip)))
  all_goals
   go_wp2_with fail
   go_meet
   first | (with_reducible refine Lib.hid (box4_last hs2 ht2 sck)) | ((with_reducible refine Lib.hid (box4_set ?_ ?_ ?_ hs2 ht2 z0_ z1_ z2_ z3_ sck)); ((try simp only [World.size_drew]); (try simp only [World.size_alloc]); omega); (intro hn9 x9 hx9; have h9 := hf2 hn9 x9 hx9; (try simp only [World.size_drew] at h9); (try simp only [World.size_alloc] at h9); omega); (intro hn9 x9 hx9; have h9 := hg2 hn9 x9 hx9; (try simp only [World.size_drew] at h9); (try simp only [World.size_alloc] at h9); omega))
 case rest =>
 have hc := hcut.out
 clear hcut
 clear tP0 tA0 tA1 tA2 tA3
 obtain ⟨gC, b1, cc1, b2, cc2, rfl, e0, e1, e2, e3, hgC, hglC, hs1, hs2, hk⟩ := hc
 obtain ⟨ww2, rfl⟩ : ∃ w' : World, w' = wc := ⟨_, rfl⟩
 have z2 := hk.size
 have kq3 := Lib.hid hk
 clear hk
 have nC0 := Lib.hid e0
 have nC1 := Lib.hid e1
 have nC2 := Lib.hid e2
 have nC3 := Lib.hid e3
 clear e0 e1 e2 e3
 have S1 := Lib.hid hs1
 have S2 := Lib.hid hs2
 have US1 := Lib.hid hs1.lt
 have US2 := Lib.hid hs2.lt
 clear hs1 hs2
 replace nY0 := kc kq3.out nY0
 have tY0 := nY0.out
 replace nY1 := kc kq3.out nY1
 have tY1 := nY1.out
 replace nY2 := kc kq3.out nY2
 have tY2 := nY2.out
 replace nY3 := kc kq3.out nY3
 have tY3 := nY3.out
 go_wp2_with fail
 clear tY0 tY1 tY2 tY3
 refine (termsBehind_any (isNeg y1) (isNeg y2) a' b' (mag y1).length c' (mag y2).length d' 40 144 _ _).mono ?_
 intro e v2 hh; obtain ⟨hh, y0, y1_, y2_, y3, y4, y5, hsz, hk⟩ := hh; subst hh
 rw [HC.out] at y4
 have Y0 := Lib.hid y0
 have Y1 := Lib.hid y1_
 have Y2 := Lib.hid y2_
 have Y3 := Lib.hid y3
 have Y4 := Lib.hid y4
 have Y5 := Lib.hid y5
 clear y0 y1_ y2_ y3 y4 y5 hsz
 have z3 := hk.size
 have kq4 := Lib.hid hk
 clear hk
 replace nY0 := kc kq4.out nY0
 have tY0 := nY0.out
 replace nY1 := kc kq4.out nY1
 have tY1 := nY1.out
 replace nY2 := kc kq4.out nY2
 have tY2 := nY2.out
 replace nY3 := kc kq4.out nY3
 have tY3 := nY3.out
 go_wp2_with fail
 clear tY0 tY1 tY2 tY3
 have kj1 := Lib.hid (kq3.out.trans0 kq4.out)
 replace nP0 := kc kj1.out nP0
 replace nD0 := kc kj1.out nD0
 replace H3 := Lib.hid (H3.out.kept0 kj1.out)
 replace H4 := Lib.hid (H4.out.kept0 kj1.out)
 replace nC0 := kc kq4.out nC0
 replace nC1 := kc kq4.out nC1
 replace nC2 := kc kq4.out nC2
 replace nC3 := kc kq4.out nC3
 replace S1 := Lib.hid (S1.out.kept0 kq4.out)
 replace S2 := Lib.hid (S2.out.kept0 kq4.out)
 refine (waveSum_zz k c0 s y1 y2 q1 q2 g1 g2 _ _ _ _ _ _ a' b' _ _ c' d' _ _ _ Y0.out Y1.out Y2.out Y3.out H3.out H4.out Y4.out Y5.out ⟨nD0.out, nP0.out, nC0.out, nC1.out, nC2.out, nC3.out, S1.out, S2.out⟩ HP.out HS.out HY.out HQ49.out HC0.out FG.out HG.out).mono ?_
 intro e v3 hh; unfold SpanR at hh; obtain ⟨b3, hh⟩ := hh; obtain ⟨c3, hh⟩ := hh; obtain ⟨d3, hh⟩ := hh; obtain ⟨m3, hh, hs3, ht3, hf3, hg3, hne3, hk3⟩ := hh; (try dsimp only at hh hs3 ht3 hf3 hg3 hne3); subst hh
 have S3 := Lib.hid hs3; have S4 := Lib.hid ht3; have US3 := Lib.hid hs3.lt; have US4 := Lib.hid ht3.lt; clear hs3 ht3 hf3 hg3 hne3 Y0 Y1 Y2 Y3 Y4 Y5
 have z4 := hk3.size
 have kq5 := Lib.hid hk3
 clear hk3
 go_upto_region 7 with fail
 generalize hW : (v3.alloc (.cells #[.int .i64 0, .bool (isNeg g1), .slice b3 (mag g1).length c3, .bool (isNeg g2), .slice d3 (mag g2).length m3] 28)) = ww5
 have hk : Kept [] v3 ww5 := by rw [← hW]; exact (Kept.refl [] _).alloc _
 have zzG : v3.heap.size + 1 = ww5.heap.size := by rw [← hW]; simp
 have nG0 := Lib.hid (show ww5.cell? ⟨v3.heap.size, 0, none⟩ = some (.int .i64 0) by rw [← hW, World.cell?_alloc_new]; rfl)
 have fG0 := Lib.hid (show ww5.frozen? ⟨v3.heap.size, 0, none⟩ = false by rw [← hW]; exact frozen_of_row _ _ _ _ _ (heap_alloc_new _ _))
 have nG1 := Lib.hid (show ww5.cell? ⟨v3.heap.size, 1, none⟩ = some (.bool (isNeg g1)) by rw [← hW, World.cell?_alloc_new]; rfl)
 have fG1 := Lib.hid (show ww5.frozen? ⟨v3.heap.size, 1, none⟩ = false by rw [← hW]; exact frozen_of_row _ _ _ _ _ (heap_alloc_new _ _))
 have nG2 := Lib.hid (show ww5.cell? ⟨v3.heap.size, 2, none⟩ = some (.slice b3 (mag g1).length c3) by rw [← hW, World.cell?_alloc_new]; rfl)
 have fG2 := Lib.hid (show ww5.frozen? ⟨v3.heap.size, 2, none⟩ = false by rw [← hW]; exact frozen_of_row _ _ _ _ _ (heap_alloc_new _ _))
 have nG3 := Lib.hid (show ww5.cell? ⟨v3.heap.size, 3, none⟩ = some (.bool (isNeg g2)) by rw [← hW, World.cell?_alloc_new]; rfl)
 have fG3 := Lib.hid (show ww5.frozen? ⟨v3.heap.size, 3, none⟩ = false by rw [← hW]; exact frozen_of_row _ _ _ _ _ (heap_alloc_new _ _))
 have nG4 := Lib.hid (show ww5.cell? ⟨v3.heap.size, 4, none⟩ = some (.slice d3 (mag g2).length m3) by rw [← hW, World.cell?_alloc_new]; rfl)
 have fG4 := Lib.hid (show ww5.frozen? ⟨v3.heap.size, 4, none⟩ = false by rw [← hW]; exact frozen_of_row _ _ _ _ _ (heap_alloc_new _ _))
 clear hW
 have z5 := hk.size
 have kq6 := Lib.hid hk
 clear hk
 have lx1 := FX.out.2.1; have lx2 := FX.out.2.2; have ld := FD.out.2.1
 have kj2 := Lib.hid ((kj1.out.trans0 kq5.out).trans0 kq6.out)
 replace nA0 := kc kj2.out nA0
 have tA0 := nA0.out
 replace nA1 := kc kj2.out nA1
 have tA1 := nA1.out
 replace nA2 := kc kj2.out nA2
 have tA2 := nA2.out
 replace nA3 := kc kj2.out nA3
 have tA3 := nA3.out
 go_wp2_with fail
 clear tA0 tA1 tA2 tA3
 replace H1 := Lib.hid (H1.out.kept0 kj2.out)
 replace H2 := Lib.hid (H2.out.kept0 kj2.out)
 refine (SubBigs_n x2 x1 d1 _ _ _ _ _ H2.out H1.out lx2 lx1 HD1.out).mono ?_
 intro e v4 hh; unfold BigZ at hh; obtain ⟨b4, hh⟩ := hh; obtain ⟨c4, hh, hs4, hf4, hk4⟩ := hh; subst hh
 have D1 := Lib.hid hs4
 have GD1 := Lib.hid (hf4.mono (B' := ww5.heap.size) (by simp))
 have UD1 := Lib.hid D1.out.lt
 have hk := hk4
 have z6 := hk.size
 have kq7 := Lib.hid hk
 clear hk
 go_upto_region 8 with fail
 generalize hW : (v4.alloc (.cells #[.bool (isNeg d1), .slice b4 (mag d1).length c4] 24)) = ww7
 have hk : Kept [] v4 ww7 := by rw [← hW]; exact (Kept.refl [] _).alloc _
 have zzW : v4.heap.size + 1 = ww7.heap.size := by rw [← hW]; simp
 have nW0 := Lib.hid (show ww7.cell? ⟨v4.heap.size, 0, none⟩ = some (.bool (isNeg d1)) by rw [← hW, World.cell?_alloc_new]; rfl)
 have fW0 := Lib.hid (show ww7.frozen? ⟨v4.heap.size, 0, none⟩ = false by rw [← hW]; exact frozen_of_row _ _ _ _ _ (heap_alloc_new _ _))
 have nW1 := Lib.hid (show ww7.cell? ⟨v4.heap.size, 1, none⟩ = some (.slice b4 (mag d1).length c4) by rw [← hW, World.cell?_alloc_new]; rfl)
 have fW1 := Lib.hid (show ww7.frozen? ⟨v4.heap.size, 1, none⟩ = false by rw [← hW]; exact frozen_of_row _ _ _ _ _ (heap_alloc_new _ _))
 clear hW
 have z7 := hk.size
 have kq8 := Lib.hid hk
 clear hk
 have kj3 := Lib.hid (kq7.out.trans0 kq8.out)
 replace fG0 := kf kj3.out nG0 fG0
 replace nG0 := kc kj3.out nG0
 have tG0 := nG0.out
 replace fG1 := kf kj3.out nG1 fG1
 replace nG1 := kc kj3.out nG1
 have tG1 := nG1.out
 replace fG2 := kf kj3.out nG2 fG2
 replace nG2 := kc kj3.out nG2
 have tG2 := nG2.out
 replace fG3 := kf kj3.out nG3 fG3
 replace nG3 := kc kj3.out nG3
 have tG3 := nG3.out
 replace fG4 := kf kj3.out nG4 fG4
 replace nG4 := kc kj3.out nG4
 have tG4 := nG4.out
 have tW0 := nW0.out
 have tW1 := nW1.out
 have kj4 := Lib.hid ((kj2.out.trans0 kq7.out).trans0 kq8.out)
 replace fR0 := kf kj4.out nR0 fR0
 replace nR0 := kc kj4.out nR0
 replace fR1 := kf kj4.out nR1 fR1
 replace nR1 := kc kj4.out nR1
 replace fR2 := kf kj4.out nR2 fR2
 replace nR2 := kc kj4.out nR2
 replace fR3 := kf kj4.out nR3 fR3
 replace nR3 := kc kj4.out nR3
 replace fR4 := kf kj4.out nR4 fR4
 replace nR4 := kc kj4.out nR4
 replace KT := Lib.hid (KT.out.trans0 kj4.out)
 have kj5 := Lib.hid (((kq5.out.trans0 kq6.out).trans0 kq7.out).trans0 kq8.out)
 replace nP0 := kc kj5.out nP0
 replace nY0 := kc kj5.out nY0
 replace nY1 := kc kj5.out nY1
 replace nY2 := kc kj5.out nY2
 replace nY3 := kc kj5.out nY3
 replace nD0 := kc kj5.out nD0
 replace H3 := Lib.hid (H3.out.kept0 kj5.out)
 replace H4 := Lib.hid (H4.out.kept0 kj5.out)
 replace nC0 := kc kj5.out nC0
 replace nC1 := kc kj5.out nC1
 replace nC2 := kc kj5.out nC2
 replace nC3 := kc kj5.out nC3
 replace S1 := Lib.hid (S1.out.kept0 kj5.out)
 replace S2 := Lib.hid (S2.out.kept0 kj5.out)
 have kj6 := Lib.hid ((kq6.out.trans0 kq7.out).trans0 kq8.out)
 replace S3 := Lib.hid (S3.out.kept0 kj6.out)
 replace S4 := Lib.hid (S4.out.kept0 kj6.out)
 replace nA0 := kc kj3.out nA0
 replace nA1 := kc kj3.out nA1
 replace nA2 := kc kj3.out nA2
 replace nA3 := kc kj3.out nA3
 replace H1 := Lib.hid (H1.out.kept0 kj3.out)
 replace H2 := Lib.hid (H2.out.kept0 kj3.out)
 replace D1 := Lib.hid (D1.out.kept0 kq8.out)
 go_region_held3 (fun w' => w'.cell? ⟨v3.heap.size, 0, none⟩ = some (.int .i64 0) ∧ w'.cell? ⟨v3.heap.size, 1, none⟩ = some (.bool (isNeg g1)) ∧ w'.cell? ⟨v3.heap.size, 2, none⟩ = some (.slice b3 (mag g1).length c3) ∧ w'.cell? ⟨v3.heap.size, 3, none⟩ = some (.bool (isNeg g2)) ∧ w'.cell? ⟨v3.heap.size, 4, none⟩ = some (.slice d3 (mag g2).length m3) ∧ w'.cell? ⟨v4.heap.size, 0, none⟩ = some (.bool (isNeg d1)) ∧ w'.cell? ⟨v4.heap.size, 1, none⟩ = some (.slice b4 (mag d1).length c4) ∧ Hid (Kept [w.heap.size + 1 + 1 + 1 + 1] ww7 w'))
  ((go_split_ands; (try refine ⟨?_, ?_, ?_, ?_, ?_, ?_, ?_, ?_⟩) <;> with_reducible first | exact Kept.set5 (by assumption) | exact cell_set5 (by assumption) (by simp <;> omega) | exact Lib.hid ((Kept.refl _ _).drew) | exact drew_cell (by assumption) | exact Kept.allocH (by assumption) | exact alloc_cell (by assumption) | exact Lib.hid (Kept.trans0 (Hid.out (by assumption)) (by assumption)) | exact Kept.cell (by assumption) (by assumption) (by simp)))
  (first
   | (have g9 := hk6; clear g9; go_at_call 104; go_split_ands; refine (AddSpan_zr g1 g2 _ _ _ _ e1' e2' _ _ _ _ o1 o2 _ (S3.out.kept0 ((((Kept.refl [] _).drew).trans0 hk5).trans0 hk6)) (S4.out.kept0 ((((Kept.refl [] _).drew).trans0 hk5).trans0 hk6)) (hs6.kept0 (Kept.refl [] _)) (ht6.kept0 (Kept.refl [] _)) FG.out FE.out FO.out HOO.out).mono ?_; intro e v7 hh; unfold SpanR at hh; obtain ⟨b7, hh⟩ := hh; obtain ⟨c7, hh⟩ := hh; obtain ⟨d7, hh⟩ := hh; obtain ⟨m7, hh, hs7, ht7, hf7, hg7, hne7, hk7⟩ := hh; (try dsimp only at hh hs7 ht7 hf7 hg7 hne7); subst hh; have hkr := (((((Kept.refl [] ww7).drew).trans0 hk5).trans0 hk6).trans0 hk7); have rg0 := hkr.cell (p := ⟨w.heap.size + 1 + 1 + 1 + 1, 0, none⟩) nR0.out (by simp); have rg1 := hkr.cell (p := ⟨w.heap.size + 1 + 1 + 1 + 1, 1, none⟩) nR1.out (by simp); have rg2 := hkr.cell (p := ⟨w.heap.size + 1 + 1 + 1 + 1, 2, none⟩) nR2.out (by simp); have rg3 := hkr.cell (p := ⟨w.heap.size + 1 + 1 + 1 + 1, 3, none⟩) nR3.out (by simp); have rg4 := hkr.cell (p := ⟨w.heap.size + 1 + 1 + 1 + 1, 4, none⟩) nR4.out (by simp); have ru0 := hkr.free' (p := ⟨w.heap.size + 1 + 1 + 1 + 1, 0, none⟩) nR0.out fR0.out (by simp); have ru1 := hkr.free' (p := ⟨w.heap.size + 1 + 1 + 1 + 1, 1, none⟩) nR1.out fR1.out (by simp); have ru2 := hkr.free' (p := ⟨w.heap.size + 1 + 1 + 1 + 1, 2, none⟩) nR2.out fR2.out (by simp); have ru3 := hkr.free' (p := ⟨w.heap.size + 1 + 1 + 1 + 1, 3, none⟩) nR3.out fR3.out (by simp); have ru4 := hkr.free' (p := ⟨w.heap.size + 1 + 1 + 1 + 1, 4, none⟩) nR4.out fR4.out (by simp))
   | (have g9 := hk5; clear g9; go_at_call 131; go_split_ands; refine (swingOf_zz d1 d1 _ _ _ _ e1' e2' _ (D1.out.kept0 (((Kept.refl [] _).drew).trans0 hk5)) (D1.out.kept0 (((Kept.refl [] _).drew).trans0 hk5)) ld ld HE9.out).mono ?_; intro e v6 hh; unfold SpanN at hh; obtain ⟨b6, hh⟩ := hh; obtain ⟨c6, hh⟩ := hh; obtain ⟨d6, hh⟩ := hh; obtain ⟨m6, hh, hs6, ht6, hk6⟩ := hh; subst hh)
   | (go_at_call 79; go_split_ands; refine (spanOfNumber_any d1 _ _ _).mono ?_; intro e v5 hh; obtain ⟨hh, hk5⟩ := hh; subst hh))
 clear tG0 tG1 tG2 tG3 tG4 tW0 tW1
 have zk5 := hk5.size
 have zk6 := hk6.size
 have zk7 := hk7.size
 simp only [World.size_drew] at zk5
 have V1 := Lib.hid (hs7.kept0 (Kept.refl [] _))
 have GV1 := Lib.hid (hf7.mono (B' := ww7.heap.size) (by omega))
 have UV1 := Lib.hid V1.out.lt
 have V2 := Lib.hid (ht7.kept0 (Kept.refl [] _))
 have GV2 := Lib.hid (hg7.mono (B' := ww7.heap.size) (by omega))
 have UV2 := Lib.hid V2.out.lt
 have hk := hkr
 clear hkr hk5 hk6 hk7
 have z8 := hk.size
 have kq9 := Lib.hid hk
 clear hk
 have HNE := Lib.hid hne7
 clear hne7
 generalize hW : (((((v7.setCell ⟨w.heap.size + 1 + 1 + 1 + 1, 0, none⟩ (.int .i64 0)).setCell ⟨w.heap.size + 1 + 1 + 1 + 1, 1, none⟩ (.bool (isNeg o1))).setCell ⟨w.heap.size + 1 + 1 + 1 + 1, 2, none⟩ (.slice b7 (mag o1).length c7)).setCell ⟨w.heap.size + 1 + 1 + 1 + 1, 3, none⟩ (.bool (isNeg o2))).setCell ⟨w.heap.size + 1 + 1 + 1 + 1, 4, none⟩ (.slice d7 (mag o2).length m7)) = ww9
 have hk : Kept [w.heap.size + 1 + 1 + 1 + 1] v7 ww9 := by rw [← hW]; exact (((((Kept.refl _ _).setCell _ _ (by simp)).setCell _ _ (by simp)).setCell _ _ (by simp)).setCell _ _ (by simp)).setCell _ _ (by simp)
 have hfz : ∀ x, ww9.frozen? x = v7.frozen? x := by rw [← hW]; intro x; simp only [World.frozen?_setCell]
 replace fR0 := kf kq9.out nR0 fR0
 replace nR0 := kc kq9.out nR0
 have e0 : ww9.cell? ⟨w.heap.size + 1 + 1 + 1 + 1, 0, none⟩ = some (.int .i64 0) := by rw [← hW]; rw [World.cell?_setCell_other _ _ _ _ (by simp), World.cell?_setCell_other _ _ _ _ (by simp), World.cell?_setCell_other _ _ _ _ (by simp), World.cell?_setCell_other _ _ _ _ (by simp)]; exact World.cell?_setCell_same _ _ _ (by exact nR0.out)
 replace fR1 := kf kq9.out nR1 fR1
 replace nR1 := kc kq9.out nR1
 have e1 : ww9.cell? ⟨w.heap.size + 1 + 1 + 1 + 1, 1, none⟩ = some (.bool (isNeg o1)) := by rw [← hW]; rw [World.cell?_setCell_other _ _ _ _ (by simp), World.cell?_setCell_other _ _ _ _ (by simp), World.cell?_setCell_other _ _ _ _ (by simp)]; exact World.cell?_setCell_same _ _ _ (by rw [World.cell?_setCell_other _ _ _ _ (by simp)]; exact nR1.out)
 replace fR2 := kf kq9.out nR2 fR2
 replace nR2 := kc kq9.out nR2
 have e2 : ww9.cell? ⟨w.heap.size + 1 + 1 + 1 + 1, 2, none⟩ = some (.slice b7 (mag o1).length c7) := by rw [← hW]; rw [World.cell?_setCell_other _ _ _ _ (by simp), World.cell?_setCell_other _ _ _ _ (by simp)]; exact World.cell?_setCell_same _ _ _ (by rw [World.cell?_setCell_other _ _ _ _ (by simp), World.cell?_setCell_other _ _ _ _ (by simp)]; exact nR2.out)
 replace fR3 := kf kq9.out nR3 fR3
 replace nR3 := kc kq9.out nR3
 have e3 : ww9.cell? ⟨w.heap.size + 1 + 1 + 1 + 1, 3, none⟩ = some (.bool (isNeg o2)) := by rw [← hW]; rw [World.cell?_setCell_other _ _ _ _ (by simp)]; exact World.cell?_setCell_same _ _ _ (by rw [World.cell?_setCell_other _ _ _ _ (by simp), World.cell?_setCell_other _ _ _ _ (by simp), World.cell?_setCell_other _ _ _ _ (by simp)]; exact nR3.out)
 replace fR4 := kf kq9.out nR4 fR4
 replace nR4 := kc kq9.out nR4
 have e4 : ww9.cell? ⟨w.heap.size + 1 + 1 + 1 + 1, 4, none⟩ = some (.slice d7 (mag o2).length m7) := by rw [← hW]; exact World.cell?_setCell_same _ _ _ (by rw [World.cell?_setCell_other _ _ _ _ (by simp), World.cell?_setCell_other _ _ _ _ (by simp), World.cell?_setCell_other _ _ _ _ (by simp), World.cell?_setCell_other _ _ _ _ (by simp)]; exact nR4.out)
 have z9 := hk.size
 have kq10 := Lib.hid hk
 have hz10 := Lib.hid hfz
 replace fR0 := kz hfz fR0
 replace fR1 := kz hfz fR1
 replace fR2 := kz hfz fR2
 replace fR3 := kz hfz fR3
 replace fR4 := kz hfz fR4
 replace nR0 := Lib.hid e0
 replace nR1 := Lib.hid e1
 replace nR2 := Lib.hid e2
 replace nR3 := Lib.hid e3
 replace nR4 := Lib.hid e4
 clear hk hfz hW e0 e1 e2 e3 e4
 go_wp2_with fail
 have e0 := nR0.out
 have e1 := nR1.out
 have e2 := nR2.out
 have e3 := nR3.out
 have e4 := nR4.out
 refine bodyPost_ret (v := .agg #[.int .i64 0, .bool (isNeg o1), .slice b7 (mag o1).length c7, .bool (isNeg o2), .slice d7 (mag o2).length m7]) (by simp [results, Tryz.results78, go_sem, e0, e1, e2, e3, e4]) rfl ?_
 replace KT := Lib.hid (KT.out.trans0 kq9.out)
 replace KT := Lib.hid (KT.out.trans kq10.out (fun x hx hlt => by simp at hx; omega))
 replace V1 := Lib.hid (V1.out.kept kq10.out (fun hn y hy hm => by have h9 := GV1.out hn y hy; simp at hm; omega))
 replace V2 := Lib.hid (V2.out.kept kq10.out (fun hn y hy hm => by have h9 := GV2.out hn y hy; simp at hm; omega))
 exact ⟨_, _, _, _, rfl, V1.out, V2.out, GV1.out.mono (by omega), GV2.out.mono (by omega), HNE.out, KT.out⟩

set_option maxHeartbeats 4000000 in
set_option maxRecDepth 20000 in
theorem waveSpan_bad (P s : Int) (p q : Bool) (a b : Option Addr) (n c m d : Nat) (xs ys : List Int) (p' q' : Bool) (a' b' : Option Addr) (n' c' m' d' : Nat) (w : World) (h1 : Sl w a n c xs) (h2 : Sl w b m d ys) (hz : farC P 7 p xs q ys ≠ 0) :
  Calls Tryz.prog 78 #[.int .i64 P, .agg #[.bool p, .slice a n c, .bool q, .slice b m d], .agg #[.bool p', .slice a' n' c', .bool q', .slice b' m' d'], .int .i64 s] w (Ans w (.agg #[.int .i64 (farC P 7 p xs q ys), .bool false, .slice none 0 0, .bool false, .slice none 0 0])) := by
 obtain ⟨f, hf⟩ : ∃ f, f = farC P 7 p xs q ys := ⟨_, rfl⟩
 rw [← hf] at hz ⊢
 have hne : (f == 0) = false := by rw [beq_eq_false_iff_ne]; exact hz
 have ea := h1.1
 have eb := h2.1
 have H1 := Lib.hid h1
 have H2 := Lib.hid h2
 have F1 := Lib.hid h1.lt
 have F2 := Lib.hid h2.lt
 have HF := Lib.hid hf
 clear h1 h2 hf hz ea eb
 go_enter Tryz.func78, Tryz.ntmps78
 go_wp2_with fail
 generalize hW : (((((w.alloc (.cells #[.int .i64 P] 2)).alloc (.cells #[.bool p, .slice a n c, .bool q, .slice b m d] 26)).alloc (.cells #[.bool p', .slice a' n' c', .bool q', .slice b' m' d'] 26)).alloc (.cells #[.int .i64 s] 2)).alloc (.cells #[.int .i64 0, .bool false, .slice none 0 0, .bool false, .slice none 0 0] 28)) = ww0
 have hkk : Kept [] (((((w.alloc (.cells #[.int .i64 P] 2)).alloc (.cells #[.bool p, .slice a n c, .bool q, .slice b m d] 26)).alloc (.cells #[.bool p', .slice a' n' c', .bool q', .slice b' m' d'] 26)).alloc (.cells #[.int .i64 s] 2)).alloc (.cells #[.int .i64 0, .bool false, .slice none 0 0, .bool false, .slice none 0 0] 28)) ww0 := by rw [hW]; exact Kept.refl _ _
 have zzA : w.heap.size + 1 + 1 + 1 + 1 + 1 = ww0.heap.size := by rw [← hW]; simp
 obtain ⟨nP0, _⟩ := tp1 hkk.peel.peel.peel.peel (g := w.heap.size) (by simp) (by simp)
 obtain ⟨⟨nA0, nA1, nA2, nA3⟩, _⟩ := tp4 hkk.peel.peel.peel (g := w.heap.size + 1) (by simp) (by simp)
 obtain ⟨⟨nY0, nY1, nY2, nY3⟩, _⟩ := tp4 hkk.peel.peel (g := w.heap.size + 1 + 1) (by simp) (by simp)
 obtain ⟨nD0, _⟩ := tp1 hkk.peel (g := w.heap.size + 1 + 1 + 1) (by simp) (by simp)
 obtain ⟨⟨nR0, nR1, nR2, nR3, nR4⟩, fR0, fR1, fR2, fR3, fR4⟩ := tp5 hkk (g := w.heap.size + 1 + 1 + 1 + 1) (by simp) (by simp)
 have hk := hkk.peel.peel.peel.peel.peel
 clear hkk hW
 have z0 := hk.size
 have kq1 := Lib.hid hk
 have KT := kq1
 clear hk
 replace H1 := Lib.hid (H1.out.kept0 KT.out)
 replace H2 := Lib.hid (H2.out.kept0 KT.out)
 have tP0 := nP0.out
 have tA0 := nA0.out
 have tA1 := nA1.out
 have tA2 := nA2.out
 have tA3 := nA3.out
 go_wp2_with fail
 clear tP0 tA0 tA1 tA2 tA3
 refine (farFault_any P 7 _ _ _ _ _ _ _ _ _ _ _ H1.out H2.out (by omega) (by omega)).mono ?_
 intro e v1 hh; obtain ⟨hh, hk1⟩ := hh; subst hh
 have hk := hk1
 have z1 := hk.size
 have kq2 := Lib.hid hk
 clear hk
 rw [← HF.out]
 replace fR0 := kf kq2.out nR0 fR0
 replace nR0 := kc kq2.out nR0
 have tR0 := nR0.out
 replace fR1 := kf kq2.out nR1 fR1
 replace nR1 := kc kq2.out nR1
 have tR1 := nR1.out
 replace fR2 := kf kq2.out nR2 fR2
 replace nR2 := kc kq2.out nR2
 have tR2 := nR2.out
 replace fR3 := kf kq2.out nR3 fR3
 replace nR3 := kc kq2.out nR3
 have tR3 := nR3.out
 replace fR4 := kf kq2.out nR4 fR4
 replace nR4 := kc kq2.out nR4
 have tR4 := nR4.out
 have uR0 := fR0.out
 have uR1 := fR1.out
 have uR2 := fR2.out
 have uR3 := fR3.out
 have uR4 := fR4.out
 go_wp2_with fail
 clear tR0 tR1 tR2 tR3 tR4 uR0 uR1 uR2 uR3 uR4
 generalize hW : (((((v1.setCell ⟨w.heap.size + 1 + 1 + 1 + 1, 0, none⟩ (.int .i64 f)).setCell ⟨w.heap.size + 1 + 1 + 1 + 1, 1, none⟩ (.bool false)).setCell ⟨w.heap.size + 1 + 1 + 1 + 1, 2, none⟩ (.slice none 0 0)).setCell ⟨w.heap.size + 1 + 1 + 1 + 1, 3, none⟩ (.bool false)).setCell ⟨w.heap.size + 1 + 1 + 1 + 1, 4, none⟩ (.slice none 0 0)) = ww2
 have hk : Kept [w.heap.size + 1 + 1 + 1 + 1] v1 ww2 := by rw [← hW]; exact (((((Kept.refl _ _).setCell _ _ (by simp)).setCell _ _ (by simp)).setCell _ _ (by simp)).setCell _ _ (by simp)).setCell _ _ (by simp)
 have hfz : ∀ x, ww2.frozen? x = v1.frozen? x := by rw [← hW]; intro x; simp only [World.frozen?_setCell]
 obtain ⟨e0, e1, e2, e3, e4⟩ := st5 hW.symm nR0.out nR1.out nR2.out nR3.out nR4.out
 have z2 := hk.size
 have kq3 := Lib.hid hk
 have hz3 := Lib.hid hfz
 replace fR0 := kz hfz fR0
 replace fR1 := kz hfz fR1
 replace fR2 := kz hfz fR2
 replace fR3 := kz hfz fR3
 replace fR4 := kz hfz fR4
 replace nR0 := Lib.hid e0
 replace nR1 := Lib.hid e1
 replace nR2 := Lib.hid e2
 replace nR3 := Lib.hid e3
 replace nR4 := Lib.hid e4
 clear hk hfz hW e0 e1 e2 e3 e4
 have e0 := nR0.out
 have e1 := nR1.out
 have e2 := nR2.out
 have e3 := nR3.out
 have e4 := nR4.out
 refine bodyPost_ret (v := .agg #[.int .i64 f, .bool false, .slice none 0 0, .bool false, .slice none 0 0]) (by simp [results, Tryz.results78, go_sem, e0, e1, e2, e3, e4]) rfl ?_
 replace KT := Lib.hid (KT.out.trans0 kq2.out)
 replace KT := Lib.hid (KT.out.trans kq3.out (fun x hx hlt => by simp at hx; omega))
 exact ⟨rfl, KT.out⟩

end Go.Proofs.YtfafjijoeanbhaaGreat
