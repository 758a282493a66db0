/-
 Contract of SquareSpan. Conditions: the limbs read as lists of numbers.
-/
import Derived.Deep.RegionHeld3
import Derived.Deep.DrawnRows
import Derived.Deep.DeepCutAuto
import Derived.Test.YtfafjijoeanbhaaGreatCor
import Derived.Test.YtfafjijoeanbhaaGreatMulA
import Derived.Test.YtfafjijoeanbhaaGreatBox4
namespace Go.Proofs.YtfafjijoeanbhaaGreat
open Go.RowKit

attribute [local go_sem ↓] field_big
theorem rowB2_of {w : World} {g : Nat} {y1 y2 : Int} {a b : Option Addr} {c d : Nat} (h0 : w.cell? ⟨g, 0, none⟩ = some (.bool (isNeg y1))) (h1 : w.cell? ⟨g, 1, none⟩ = some (.slice a (mag y1).length c)) (h2 : w.cell? ⟨g, 2, none⟩ = some (.bool (isNeg y2))) (h3 : w.cell? ⟨g, 3, none⟩ = some (.slice b (mag y2).length d)) :
  RowB w g [⟨isNeg y1, a, (mag y1).length, c, mag y1⟩, ⟨isNeg y2, b, (mag y2).length, d, mag y2⟩] := by
 intro j hj
 match j, hj with
 | 0, _ => exact ⟨h0, h1⟩
 | 1, _ => exact ⟨h2, h3⟩
theorem outOfUnits_zero (k : Nat) (b : Option Addr) (m d : Nat) (hi : Int) (w : World) (hk : k ≤ 96) (hk0 : 16 ≤ k) (h' : Sl w b m d (mag hi)) (hl2 : (mag hi).length ≤ 40) :
  Calls Tryz.prog 163 #[.int .i64 (k : Int), .agg #[.bool false, .slice none 0 0], .agg #[.bool (isNeg hi), .slice b m d]] w (SpanR w (fitS (outZ false 0 k) (outZ true hi k))) := by
 have h := outOfUnits_any k none b 0 0 m d 0 hi w hk hk0 (by rw [mag_zero]; exact Sl.nil _) h' (by rw [mag_zero]; simp) hl2
 rw [isNeg_zero] at h
 exact h

set_option maxHeartbeats 8000000 in
set_option maxRecDepth 20000 in
theorem SquareSpan_any (P : Int) (p q : Bool) (a b : Option Addr) (n c m d : Nat) (xs ys : List Int) (w : World) (h1 : Sl w a n c xs) (h2 : Sl w b m d ys) :
  Calls Tryz.prog 120 #[.int .i64 P, .agg #[.bool p, .slice a n c, .bool q, .slice b m d]] w (SpanR w (sqS P p xs q ys)) := by
 have H1 := Lib.hid h1
 have H2 := Lib.hid h2
 clear h1 h2
 have F1 := Lib.hid H1.out.lt
 have F2 := Lib.hid H2.out.lt
 by_cases hP : isP P = true
 ·by_cases hz : spanFault p xs q ys = 0
  ·skip
   by_cases h0z : hasZ p xs q = true
   ·skip
    obtain ⟨t1, ht1⟩ : ∃ t, t = outZ false (sqLow p xs q ys) P.toNat := ⟨_, rfl⟩
    obtain ⟨t2, ht2⟩ : ∃ t, t = outZ true (sqHigh p xs q ys) P.toNat := ⟨_, rfl⟩
    obtain ⟨r, hr⟩ : ∃ r, r = fitS t1 t2 := ⟨_, rfl⟩
    rw [show sqS P p xs q ys = r from by unfold sqS; rw [askS_ok hP hz, ← ht1, ← ht2, hr]]
    have HZ := Lib.hid (show precS P (spanFault p xs q ys) = 0 by unfold precS; rw [if_pos hP]; exact hz)
    obtain ⟨ox1, ox2, ox3, ox4, ox5⟩ := spanFault_zero hz
    have HHZ := Lib.hid (show hasZ p xs q = true by exact h0z)
    obtain ⟨k, rfl⟩ : ∃ k : Nat, P = (k : Int) := ⟨P.toNat, by rcases isP_cases hP with h | h | h <;> omega⟩
    have hk96 : k ≤ 96 := by rcases isP_cases hP with h | h | h <;> omega
    have hk16 : 16 ≤ k := by rcases isP_cases hP with h | h | h <;> omega
    obtain ⟨y1, hy1⟩ : ∃ z, z = sv p xs * sv p xs := ⟨_, rfl⟩
    have o1 : (mag y1).length ≤ 40 := by rw [hy1]; exact mul_len ox1.n40 ox1.n40 ox3 ox3
    obtain ⟨y2, hy2⟩ : ∃ z, z = sv q ys * sv q ys := ⟨_, rfl⟩
    have o2 : (mag y2).length ≤ 40 := by rw [hy2]; exact mul_len ox2.n40 ox2.n40 ox4 ox4
    obtain ⟨tm, htm⟩ : ∃ t, t = minZ y1 y2 := ⟨_, rfl⟩
    obtain ⟨tx, htx⟩ : ∃ t, t = maxZ y1 y2 := ⟨_, rfl⟩
    have om : (mag tm).length ≤ 40 := by rw [htm]; exact minZ_len2 o1 o2
    have ox9 : (mag tx).length ≤ 40 := by rw [htx]; exact maxZ_len2 o1 o2
    have hrr : r = fitS (outZ false 0 k) (outZ true tx k) := by rw [hr, ht1, ht2, htx, hy1, hy2]; unfold sqLow; rw [if_pos h0z]; rfl
    have HR := Lib.hid hrr
    have HTM := Lib.hid (show tm = minZ (sv (isNeg y1) (mag y1)) (sv (isNeg y2) (mag y2)) by rw [sv_mag, sv_mag]; exact htm)
    have HTX := Lib.hid (show tx = maxZ (sv (isNeg y1) (mag y1)) (sv (isNeg y2) (mag y2)) by rw [sv_mag, sv_mag]; exact htx)
    have B1 := Lib.hid ox1
    have B2 := Lib.hid ox2
    have BK1 := Lib.hid (bigOk_of o1)
    have BK2 := Lib.hid (bigOk_of o2)
    have HY1 := Lib.hid hy1
    have HY2 := Lib.hid hy2
    clear ox1 ox2 hz hP ht1 ht2 hr hrr htm htx hy1 hy2 h0z
    go_enter Tryz.func120, Tryz.ntmps120
    go_wp2_with fail
    generalize hW : ((w.alloc (.cells #[.bool p, .slice a n c, .bool q, .slice b m d] 26)).alloc (.cells #[.int .i64 0, .bool false, .slice none 0 0, .bool false, .slice none 0 0] 28)) = ww0
    have hkk : Kept [] ((w.alloc (.cells #[.bool p, .slice a n c, .bool q, .slice b m d] 26)).alloc (.cells #[.int .i64 0, .bool false, .slice none 0 0, .bool false, .slice none 0 0] 28)) ww0 := by rw [hW]; exact Kept.refl _ _
    have zzA : w.heap.size + 1 + 1 = ww0.heap.size := by rw [← hW]; simp
    obtain ⟨⟨nA0, nA1, nA2, nA3⟩, _⟩ := tp4 hkk.peel (g := w.heap.size) (by simp) (by simp)
    obtain ⟨⟨nR0, nR1, nR2, nR3, nR4⟩, fR0, fR1, fR2, fR3, fR4⟩ := tp5 hkk (g := w.heap.size + 1) (by simp) (by simp)
    have hk := hkk.peel.peel
    clear hkk hW
    have z0 := hk.size
    have KT := Lib.hid hk
    clear hk
    replace H1 := Lib.hid (H1.out.kept0 KT.out)
    replace H2 := Lib.hid (H2.out.kept0 KT.out)
    refine (precisionFault_one _ _ _ _ _ _ _ _ _ _ _ _ _ (by omega) H1.out H2.out).mono ?_
    rintro e ww1 ⟨rfl, hk⟩
    rw [HZ.out]
    have z1 := hk.size
    replace fR0 := kf hk nR0 fR0
    replace fR1 := kf hk nR1 fR1
    replace fR2 := kf hk nR2 fR2
    replace fR3 := kf hk nR3 fR3
    replace fR4 := kf hk nR4 fR4
    replace nA0 := kc hk nA0
    replace nA1 := kc hk nA1
    replace nA2 := kc hk nA2
    replace nA3 := kc hk nA3
    replace nR0 := kc hk nR0
    replace nR1 := kc hk nR1
    replace nR2 := kc hk nR2
    replace nR3 := kc hk nR3
    replace nR4 := kc hk nR4
    replace H1 := Lib.hid (H1.out.kept0 hk)
    replace H2 := Lib.hid (H2.out.kept0 hk)
    replace KT := Lib.hid (KT.out.trans0 hk)
    clear hk
    have tA0 := nA0.out
    have tA1 := nA1.out
    have tA2 := nA2.out
    have tA3 := nA3.out
    go_upto_region 4 with fail
    go_cut [6] (fun s wx => Hid (Box4 ww1 y1 y2 s wx))
    case first =>
     go_region_held3 (fun w' => w'.cell? ⟨w.heap.size, 0, none⟩ = some (.bool p) ∧ w'.cell? ⟨w.heap.size, 1, none⟩ = some (.slice a n c) ∧ w'.cell? ⟨w.heap.size, 2, none⟩ = some (.bool q) ∧ w'.cell? ⟨w.heap.size, 3, none⟩ = some (.slice b m d) ∧ Hid (Kept [] ww1 w'))
      ((go_split_ands; (try refine ⟨?_, ?_, ?_, ?_, ?_⟩) <;> with_reducible first | assumption | exact Kept.set4n (by assumption) (by omega) | exact cell_set4 (by assumption) (by (try dsimp only); omega) | exact drew_alloc_cell (by assumption) | exact drew_cell (by assumption) | exact Kept.allocH (by assumption) | exact alloc_cell (by assumption) | exact Lib.hid (Kept.trans0 (Hid.out (by assumption)) (by assumption)) | exact Kept.cell (by assumption) (by assumption) (by simp) | exact Lib.hid ((Kept.refl _ _).drew) | exact Lib.hid (((Kept.refl _ _).alloc _).drew)))
      (first
       | (go_at_call 119; with_reducible show Calls _ _ #[Value.agg #[Value.bool p, Value.slice a n c], Value.agg #[Value.bool p, Value.slice a n c]] _ _; go_split_ands; refine (MulBigs_z _ _ _ _ _ _ _ _ _ _ _ _ (H1.out.kept0 (Hid.out (by assumption))) (H1.out.kept0 (Hid.out (by assumption))) B1.out B1.out o1 HY1.out).mono ?_; intro e v1 hh; unfold BigZ at hh; obtain ⟨b1, hh⟩ := hh; obtain ⟨cc1, hh, hs1, hf1, hk1⟩ := hh; subst hh; have zk1 := hk1.size; (try simp only [World.size_drew, World.size_alloc] at zk1); (first | (obtain ⟨z0_, y0_, _⟩ := hk1.undrew.top (g := ww1.heap.size) rfl (by simp) 0 (v := .bool false) rfl; obtain ⟨z1_, y1_, _⟩ := hk1.undrew.top (g := ww1.heap.size) rfl (by simp) 1 (v := .slice none 0 0) rfl; obtain ⟨z2_, y2_, _⟩ := hk1.undrew.top (g := ww1.heap.size) rfl (by simp) 2 (v := .bool false) rfl; obtain ⟨z3_, y3_, _⟩ := hk1.undrew.top (g := ww1.heap.size) rfl (by simp) 3 (v := .slice none 0 0) rfl) | skip))
       | (go_at_call 119; with_reducible show Calls _ _ #[Value.agg #[Value.bool q, Value.slice b m d], Value.agg #[Value.bool q, Value.slice b m d]] _ _; go_split_ands; refine (MulBigs_z _ _ _ _ _ _ _ _ _ _ _ _ (H2.out.kept0 (Hid.out (by assumption))) (H2.out.kept0 (Hid.out (by assumption))) B2.out B2.out o2 HY2.out).mono ?_; intro e v2 hh; unfold BigZ at hh; obtain ⟨b2, hh⟩ := hh; obtain ⟨cc2, hh, hs2, hf2, hk2⟩ := hh; subst hh; have zk2 := hk2.size; (try simp only [World.size_alloc] at zk2); have hl1 := hs1.lt; have hs1 := hs1.kept0 (show Kept [] _ v2 by first | exact hk2 | exact Kept.trans0 ((Kept.refl [] _).alloc _) hk2); have sck := Lib.hid (Kept.trans0 (Hid.out (by assumption : Hid (Kept [] ww1 _))) hk2); have sc0 : v2.cell? ⟨w.heap.size, 0, none⟩ = some (.bool p) := hk2.cell (by assumption) (by simp); have sc1 : v2.cell? ⟨w.heap.size, 1, none⟩ = some (.slice a n c) := hk2.cell (by assumption) (by simp); have sc2 : v2.cell? ⟨w.heap.size, 2, none⟩ = some (.bool q) := hk2.cell (by assumption) (by simp); have sc3 : v2.cell? ⟨w.heap.size, 3, none⟩ = some (.slice b m d) := hk2.cell (by assumption) (by simp); (first | (obtain ⟨z0_, y0_, _⟩ := hk2.top (g := v1.heap.size) rfl (by simp) 0 (v := .bool false) rfl; obtain ⟨z1_, y1_, _⟩ := hk2.top (g := v1.heap.size) rfl (by simp) 1 (v := .slice none 0 0) rfl; obtain ⟨z2_, y2_, _⟩ := hk2.top (g := v1.heap.size) rfl (by simp) 2 (v := .bool false) rfl; obtain ⟨z3_, y3_, _⟩ := hk2.top (g := v1.heap.size) rfl (by simp) 3 (v := .slice none 0 0) rfl) | (replace y0_ := hk2.free' z0_ y0_ (by simp); replace y1_ := hk2.free' z1_ y1_ (by simp); replace y2_ := hk2.free' z2_ y2_ (by simp); replace y3_ := hk2.free' z3_ y3_ (by simp); replace z0_ := hk2.cell z0_ (by simp); replace z1_ := hk2.cell z1_ (by simp); replace z2_ := hk2.cell z2_ (by simp); replace z3_ := hk2.cell z3_ (by simp)) | skip)))
     all_goals
      go_wp2_with fail
      go_meet
      first | (with_reducible refine Lib.hid (box4_last hs1 hs2 sck)) | ((with_reducible refine Lib.hid (box4_set ?_ ?_ ?_ hs1 hs2 z0_ z1_ z2_ z3_ sck)); ((try simp only [World.size_drew]); (try simp only [World.size_alloc]); omega); (intro hn9 x9 hx9; have h9 := hf1 hn9 x9 hx9; have h8 := hl1 hn9 x9 hx9; (try simp only [World.size_drew] at h9); (try simp only [World.size_alloc] at h9); omega); (intro hn9 x9 hx9; have h9 := hf2 hn9 x9 hx9; (try simp only [World.size_drew] at h9); (try simp only [World.size_alloc] at h9); omega))
    case rest =>
    have hc := hcut.out
    clear hcut
    clear tA0 tA1 tA2 tA3
    obtain ⟨gC, b1, cc1, b2, cc2, rfl, e0, e1, e2, e3, hgC, hglC, hs1, hs2, hk⟩ := hc
    obtain ⟨ww2, rfl⟩ : ∃ w' : World, w' = wc := ⟨_, rfl⟩
    have z2 := hk.size
    replace fR0 := kf hk nR0 fR0
    replace fR1 := kf hk nR1 fR1
    replace fR2 := kf hk nR2 fR2
    replace fR3 := kf hk nR3 fR3
    replace fR4 := kf hk nR4 fR4
    replace nA0 := kc hk nA0
    replace nA1 := kc hk nA1
    replace nA2 := kc hk nA2
    replace nA3 := kc hk nA3
    replace nR0 := kc hk nR0
    replace nR1 := kc hk nR1
    replace nR2 := kc hk nR2
    replace nR3 := kc hk nR3
    replace nR4 := kc hk nR4
    replace H1 := Lib.hid (H1.out.kept0 hk)
    replace H2 := Lib.hid (H2.out.kept0 hk)
    replace KT := Lib.hid (KT.out.trans0 hk)
    clear hk
    have nC0 := Lib.hid e0
    have nC1 := Lib.hid e1
    have nC2 := Lib.hid e2
    have nC3 := Lib.hid e3
    clear e0 e1 e2 e3
    have S1 := Lib.hid hs1
    have S2 := Lib.hid hs2
    clear hs1 hs2
    have HROW := Lib.hid (rowB2_of nC0.out nC1.out nC2.out nC3.out)
    clear nC0 nC1 nC2 nC3
    have SF1 := Lib.hid S1.out.lt
    have SF2 := Lib.hid S2.out.lt
    go_wp2_with fail
    refine (leastOf_isBelow_two _ _ _ _ _ _ _ _ _ _ _ _ _ HROW.out S1.out S2.out BK1.out BK2.out HTM.out).mono ?_
    rintro e ww3 h77
    unfold BigN at h77
    obtain ⟨a5, c5, rfl, hs5, hk⟩ := h77
    have HS5 := Lib.hid hs5
    clear hs5
    have z3 := hk.size
    replace fR0 := kf hk nR0 fR0
    replace fR1 := kf hk nR1 fR1
    replace fR2 := kf hk nR2 fR2
    replace fR3 := kf hk nR3 fR3
    replace fR4 := kf hk nR4 fR4
    replace nA0 := kc hk nA0
    replace nA1 := kc hk nA1
    replace nA2 := kc hk nA2
    replace nA3 := kc hk nA3
    replace nR0 := kc hk nR0
    replace nR1 := kc hk nR1
    replace nR2 := kc hk nR2
    replace nR3 := kc hk nR3
    replace nR4 := kc hk nR4
    replace H1 := Lib.hid (H1.out.kept0 hk)
    replace H2 := Lib.hid (H2.out.kept0 hk)
    replace S1 := Lib.hid (S1.out.kept0 hk)
    replace S2 := Lib.hid (S2.out.kept0 hk)
    replace HROW := Lib.hid (HROW.out.kept0 hk)
    replace KT := Lib.hid (KT.out.trans0 hk)
    clear hk
    clear HS5
    go_upto_region 6 with fail
    generalize hW : (ww3.alloc (.cells #[.bool (isNeg tm), .slice a5 (mag tm).length c5] 24)) = ww4
    have hk : Kept [] ww3 ww4 := by rw [← hW]; exact (Kept.refl [] _).alloc _
    have zzU : ww3.heap.size + 1 = ww4.heap.size := by rw [← hW]; simp
    have nU0 := Lib.hid (show ww4.cell? ⟨ww3.heap.size, 0, none⟩ = some (.bool (isNeg tm)) by rw [← hW, World.cell?_alloc_new]; rfl)
    have fU0 := Lib.hid (show ww4.frozen? ⟨ww3.heap.size, 0, none⟩ = false by rw [← hW]; exact frozen_of_row _ _ _ _ _ (heap_alloc_new _ _))
    have nU1 := Lib.hid (show ww4.cell? ⟨ww3.heap.size, 1, none⟩ = some (.slice a5 (mag tm).length c5) by rw [← hW, World.cell?_alloc_new]; rfl)
    have fU1 := Lib.hid (show ww4.frozen? ⟨ww3.heap.size, 1, none⟩ = false by rw [← hW]; exact frozen_of_row _ _ _ _ _ (heap_alloc_new _ _))
    clear hW
    have z4 := hk.size
    replace fR0 := kf hk nR0 fR0
    replace fR1 := kf hk nR1 fR1
    replace fR2 := kf hk nR2 fR2
    replace fR3 := kf hk nR3 fR3
    replace fR4 := kf hk nR4 fR4
    replace nA0 := kc hk nA0
    replace nA1 := kc hk nA1
    replace nA2 := kc hk nA2
    replace nA3 := kc hk nA3
    replace nR0 := kc hk nR0
    replace nR1 := kc hk nR1
    replace nR2 := kc hk nR2
    replace nR3 := kc hk nR3
    replace nR4 := kc hk nR4
    replace H1 := Lib.hid (H1.out.kept0 hk)
    replace H2 := Lib.hid (H2.out.kept0 hk)
    replace S1 := Lib.hid (S1.out.kept0 hk)
    replace S2 := Lib.hid (S2.out.kept0 hk)
    replace HROW := Lib.hid (HROW.out.kept0 hk)
    replace KT := Lib.hid (KT.out.trans0 hk)
    clear hk
    have tA0 := nA0.out
    have tA1 := nA1.out
    have tA2 := nA2.out
    have tA3 := nA3.out
    go_wp2_with fail
    clear tA0 tA1 tA2 tA3
    refine (hasZero_any _ _ _ _ _ _ _ _ _ _ H1.out B1.out).mono ?_
    rintro e ww5 ⟨rfl, hk⟩
    rw [HHZ.out]
    have z5 := hk.size
    replace fR0 := kf hk nR0 fR0
    replace fR1 := kf hk nR1 fR1
    replace fR2 := kf hk nR2 fR2
    replace fR3 := kf hk nR3 fR3
    replace fR4 := kf hk nR4 fR4
    replace fU0 := kf hk nU0 fU0
    replace fU1 := kf hk nU1 fU1
    replace nA0 := kc hk nA0
    replace nA1 := kc hk nA1
    replace nA2 := kc hk nA2
    replace nA3 := kc hk nA3
    replace nR0 := kc hk nR0
    replace nR1 := kc hk nR1
    replace nR2 := kc hk nR2
    replace nR3 := kc hk nR3
    replace nR4 := kc hk nR4
    replace H1 := Lib.hid (H1.out.kept0 hk)
    replace H2 := Lib.hid (H2.out.kept0 hk)
    replace S1 := Lib.hid (S1.out.kept0 hk)
    replace S2 := Lib.hid (S2.out.kept0 hk)
    replace HROW := Lib.hid (HROW.out.kept0 hk)
    replace nU0 := kc hk nU0
    replace nU1 := kc hk nU1
    replace KT := Lib.hid (KT.out.trans0 hk)
    clear hk
    have tU0 := nU0.out
    have tU1 := nU1.out
    have uU0 := fU0.out
    have uU1 := fU1.out
    go_upto_region 8 with fail
    clear tU0 tU1 uU0 uU1
    generalize hW : ((ww5.setCell ⟨ww3.heap.size, 0, none⟩ (.bool false)).setCell ⟨ww3.heap.size, 1, none⟩ (.slice none 0 0)) = ww6
    have hk : Kept [ww3.heap.size] ww5 ww6 := by rw [← hW]; exact ((Kept.refl _ _).setCell _ _ (by simp)).setCell _ _ (by simp)
    have hfz : ∀ x, ww6.frozen? x = ww5.frozen? x := by rw [← hW]; intro x; simp only [World.frozen?_setCell]
    obtain ⟨e0, e1⟩ := st2 hW.symm nU0.out nU1.out
    have z6 := hk.size
    replace fR0 := kz hfz fR0
    replace fR1 := kz hfz fR1
    replace fR2 := kz hfz fR2
    replace fR3 := kz hfz fR3
    replace fR4 := kz hfz fR4
    replace fU0 := kz hfz fU0
    replace fU1 := kz hfz fU1
    replace nA0 := kd hk nA0 (by simp <;> omega)
    replace nA1 := kd hk nA1 (by simp <;> omega)
    replace nA2 := kd hk nA2 (by simp <;> omega)
    replace nA3 := kd hk nA3 (by simp <;> omega)
    replace nR0 := kd hk nR0 (by simp <;> omega)
    replace nR1 := kd hk nR1 (by simp <;> omega)
    replace nR2 := kd hk nR2 (by simp <;> omega)
    replace nR3 := kd hk nR3 (by simp <;> omega)
    replace nR4 := kd hk nR4 (by simp <;> omega)
    replace H1 := Lib.hid (H1.out.kept hk (fun hn y hy hm => by have h9 := F1.out hn y hy; simp at hm; omega))
    replace H2 := Lib.hid (H2.out.kept hk (fun hn y hy hm => by have h9 := F2.out hn y hy; simp at hm; omega))
    replace S1 := Lib.hid (S1.out.kept hk (fun hn y hy hm => by have h9 := SF1.out hn y hy; simp at hm; omega))
    replace S2 := Lib.hid (S2.out.kept hk (fun hn y hy hm => by have h9 := SF2.out hn y hy; simp at hm; omega))
    replace HROW := Lib.hid (HROW.out.kept hk (by simp <;> omega))
    replace nU0 := Lib.hid e0
    replace nU1 := Lib.hid e1
    replace KT := Lib.hid (KT.out.trans hk (fun x hx hlt => by simp at hx; omega))
    clear hk hfz hW e0 e1
    have tU0 := nU0.out
    have tU1 := nU1.out
    go_region_held3 (fun w' => w'.cell? ⟨ww3.heap.size, 0, none⟩ = some (.bool false) ∧ w'.cell? ⟨ww3.heap.size, 1, none⟩ = some (.slice none 0 0) ∧ Hid (Kept [w.heap.size + 1] ww6 w'))
     ((go_split_ands; (try refine ⟨?_, ?_, ?_⟩) <;> with_reducible first | exact Kept.set5 (by assumption) | exact cell_set5 (by assumption) (by simp <;> omega) | exact Lib.hid ((Kept.refl _ _).drew) | exact drew_cell (by assumption) | exact Kept.allocH (by assumption) | exact alloc_cell (by assumption) | exact Lib.hid (Kept.trans0 (Hid.out (by assumption)) (by assumption)) | exact Kept.cell (by assumption) (by assumption) (by simp)))
     (first
      | (go_at_call 152; with_reducible show Calls _ _ #[Value.func (Fn.func 130) #[] #[], _] _ _; go_split_ands; refine (leastOf_isAbove_two _ _ _ _ _ _ _ _ _ _ _ _ _ (HROW.out.kept0 ((Kept.refl [] _).drew)) (S1.out.kept0 ((Kept.refl [] _).drew)) (S2.out.kept0 ((Kept.refl [] _).drew)) BK1.out BK2.out HTX.out).mono ?_; intro e v1 hh; unfold BigN at hh; obtain ⟨a1, c1, hh, hs1, hk1⟩ := hh; subst hh)
      | (go_at_call 163; go_split_ands; refine (outOfUnits_zero k _ _ _ tx _ hk96 hk16 hs1 ox9).mono ?_; intro e v2 hh; unfold SpanR at hh; obtain ⟨a3, c3, b3, d3, hh, hs3, hs4, hf3, hf4, hne, hk2⟩ := hh; subst hh; have hkr := (((Kept.refl [] ww6).drew).trans0 hk1).trans0 hk2; have rg0 := hkr.cell (p := ⟨w.heap.size + 1, 0, none⟩) nR0.out (by simp); have rg1 := hkr.cell (p := ⟨w.heap.size + 1, 1, none⟩) nR1.out (by simp); have rg2 := hkr.cell (p := ⟨w.heap.size + 1, 2, none⟩) nR2.out (by simp); have rg3 := hkr.cell (p := ⟨w.heap.size + 1, 3, none⟩) nR3.out (by simp); have rg4 := hkr.cell (p := ⟨w.heap.size + 1, 4, none⟩) nR4.out (by simp); have ru0 := hkr.free' (p := ⟨w.heap.size + 1, 0, none⟩) nR0.out fR0.out (by simp); have ru1 := hkr.free' (p := ⟨w.heap.size + 1, 1, none⟩) nR1.out fR1.out (by simp); have ru2 := hkr.free' (p := ⟨w.heap.size + 1, 2, none⟩) nR2.out fR2.out (by simp); have ru3 := hkr.free' (p := ⟨w.heap.size + 1, 3, none⟩) nR3.out fR3.out (by simp); have ru4 := hkr.free' (p := ⟨w.heap.size + 1, 4, none⟩) nR4.out fR4.out (by simp); have z12 := (((Kept.refl [] ww6).drew).trans0 hk1).size; (try simp only [World.size_drew] at z12)))
    clear tU0 tU1
    have hk := hkr
    clear hkr hs1 hk1 hk2
    clear HROW S1 S2
    rw [← HR.out] at hs3 hs4 hf3 hf4 hne ⊢
    have z7 := hk.size
    replace fR0 := kf hk nR0 fR0
    replace fR1 := kf hk nR1 fR1
    replace fR2 := kf hk nR2 fR2
    replace fR3 := kf hk nR3 fR3
    replace fR4 := kf hk nR4 fR4
    replace fU0 := kf hk nU0 fU0
    replace fU1 := kf hk nU1 fU1
    replace nA0 := kc hk nA0
    replace nA1 := kc hk nA1
    replace nA2 := kc hk nA2
    replace nA3 := kc hk nA3
    replace nR0 := kc hk nR0
    replace nR1 := kc hk nR1
    replace nR2 := kc hk nR2
    replace nR3 := kc hk nR3
    replace nR4 := kc hk nR4
    replace H1 := Lib.hid (H1.out.kept0 hk)
    replace H2 := Lib.hid (H2.out.kept0 hk)
    replace nU0 := kc hk nU0
    replace nU1 := kc hk nU1
    replace KT := Lib.hid (KT.out.trans0 hk)
    clear hk
    have hs3 := Lib.hid hs3
    have hs4 := Lib.hid hs4
    have HNE := Lib.hid hne
    have G3 := Lib.hid (hf3.mono (B' := w.heap.size + 1 + 1) (by omega))
    have G4 := Lib.hid (hf4.mono (B' := w.heap.size + 1 + 1) (by omega))
    clear hf3 hf4 hne
    generalize hW : (((((v2.setCell ⟨w.heap.size + 1, 0, none⟩ (.int .i64 r.code)).setCell ⟨w.heap.size + 1, 1, none⟩ (.bool (isNeg r.lo))).setCell ⟨w.heap.size + 1, 2, none⟩ (.slice a3 (mag r.lo).length c3)).setCell ⟨w.heap.size + 1, 3, none⟩ (.bool (isNeg r.hi))).setCell ⟨w.heap.size + 1, 4, none⟩ (.slice b3 (mag r.hi).length d3)) = ww8
    have hk : Kept [w.heap.size + 1] v2 ww8 := by rw [← hW]; exact (((((Kept.refl _ _).setCell _ _ (by simp)).setCell _ _ (by simp)).setCell _ _ (by simp)).setCell _ _ (by simp)).setCell _ _ (by simp)
    have hfz : ∀ x, ww8.frozen? x = v2.frozen? x := by rw [← hW]; intro x; simp only [World.frozen?_setCell]
    obtain ⟨e0, e1, e2, e3, e4⟩ := st5 hW.symm nR0.out nR1.out nR2.out nR3.out nR4.out
    have z8 := hk.size
    replace fR0 := kz hfz fR0
    replace fR1 := kz hfz fR1
    replace fR2 := kz hfz fR2
    replace fR3 := kz hfz fR3
    replace fR4 := kz hfz fR4
    replace fU0 := kz hfz fU0
    replace fU1 := kz hfz fU1
    replace nA0 := kd hk nA0 (by simp <;> omega)
    replace nA1 := kd hk nA1 (by simp <;> omega)
    replace nA2 := kd hk nA2 (by simp <;> omega)
    replace nA3 := kd hk nA3 (by simp <;> omega)
    replace H1 := Lib.hid (H1.out.kept hk (fun hn y hy hm => by have h9 := F1.out hn y hy; simp at hm; omega))
    replace H2 := Lib.hid (H2.out.kept hk (fun hn y hy hm => by have h9 := F2.out hn y hy; simp at hm; omega))
    replace nU0 := kd hk nU0 (by simp <;> omega)
    replace nU1 := kd hk nU1 (by simp <;> omega)
    replace hs3 := Lib.hid (hs3.out.kept hk (fun hn y hy hm => by have h9 := G3.out hn y hy; simp at hm; omega))
    replace hs4 := Lib.hid (hs4.out.kept hk (fun hn y hy hm => by have h9 := G4.out hn y hy; simp at hm; omega))
    replace nR0 := Lib.hid e0
    replace nR1 := Lib.hid e1
    replace nR2 := Lib.hid e2
    replace nR3 := Lib.hid e3
    replace nR4 := Lib.hid e4
    replace KT := Lib.hid (KT.out.trans hk (fun x hx hlt => by simp at hx; omega))
    clear hk hfz hW e0 e1 e2 e3 e4
    go_wp2_with fail
    have e0 := nR0.out
    have e1 := nR1.out
    have e2 := nR2.out
    have e3 := nR3.out
    have e4 := nR4.out
    refine bodyPost_ret (v := .agg #[.int .i64 r.code, .bool (isNeg r.lo), .slice a3 (mag r.lo).length c3, .bool (isNeg r.hi), .slice b3 (mag r.hi).length d3]) (by simp [results, Tryz.results120, go_sem, e0, e1, e2, e3, e4]) rfl ?_
    exact ⟨a3, c3, b3, d3, rfl, hs3.out, hs4.out, G3.out.mono (by omega), G4.out.mono (by omega), HNE.out, KT.out⟩
   ·skip
    obtain ⟨t1, ht1⟩ : ∃ t, t = outZ false (sqLow p xs q ys) P.toNat := ⟨_, rfl⟩
    obtain ⟨t2, ht2⟩ : ∃ t, t = outZ true (sqHigh p xs q ys) P.toNat := ⟨_, rfl⟩
    obtain ⟨r, hr⟩ : ∃ r, r = fitS t1 t2 := ⟨_, rfl⟩
    rw [show sqS P p xs q ys = r from by unfold sqS; rw [askS_ok hP hz, ← ht1, ← ht2, hr]]
    have HZ := Lib.hid (show precS P (spanFault p xs q ys) = 0 by unfold precS; rw [if_pos hP]; exact hz)
    obtain ⟨ox1, ox2, ox3, ox4, ox5⟩ := spanFault_zero hz
    have HHZ := Lib.hid (show hasZ p xs q = false by simpa using h0z)
    obtain ⟨k, rfl⟩ : ∃ k : Nat, P = (k : Int) := ⟨P.toNat, by rcases isP_cases hP with h | h | h <;> omega⟩
    have hk96 : k ≤ 96 := by rcases isP_cases hP with h | h | h <;> omega
    have hk16 : 16 ≤ k := by rcases isP_cases hP with h | h | h <;> omega
    obtain ⟨y1, hy1⟩ : ∃ z, z = sv p xs * sv p xs := ⟨_, rfl⟩
    have o1 : (mag y1).length ≤ 40 := by rw [hy1]; exact mul_len ox1.n40 ox1.n40 ox3 ox3
    obtain ⟨y2, hy2⟩ : ∃ z, z = sv q ys * sv q ys := ⟨_, rfl⟩
    have o2 : (mag y2).length ≤ 40 := by rw [hy2]; exact mul_len ox2.n40 ox2.n40 ox4 ox4
    obtain ⟨tm, htm⟩ : ∃ t, t = minZ y1 y2 := ⟨_, rfl⟩
    obtain ⟨tx, htx⟩ : ∃ t, t = maxZ y1 y2 := ⟨_, rfl⟩
    have om : (mag tm).length ≤ 40 := by rw [htm]; exact minZ_len2 o1 o2
    have ox9 : (mag tx).length ≤ 40 := by rw [htx]; exact maxZ_len2 o1 o2
    have hrr : r = fitS (outZ false tm k) (outZ true tx k) := by rw [hr, ht1, ht2, htx, hy1, hy2]; unfold sqLow; rw [if_neg h0z]; rw [htm, hy1, hy2]; rfl
    have HR := Lib.hid hrr
    have HTM := Lib.hid (show tm = minZ (sv (isNeg y1) (mag y1)) (sv (isNeg y2) (mag y2)) by rw [sv_mag, sv_mag]; exact htm)
    have HTX := Lib.hid (show tx = maxZ (sv (isNeg y1) (mag y1)) (sv (isNeg y2) (mag y2)) by rw [sv_mag, sv_mag]; exact htx)
    have B1 := Lib.hid ox1
    have B2 := Lib.hid ox2
    have BK1 := Lib.hid (bigOk_of o1)
    have BK2 := Lib.hid (bigOk_of o2)
    have HY1 := Lib.hid hy1
    have HY2 := Lib.hid hy2
    clear ox1 ox2 hz hP ht1 ht2 hr hrr htm htx hy1 hy2 h0z
    go_enter Tryz.func120, Tryz.ntmps120
    go_wp2_with fail
    generalize hW : ((w.alloc (.cells #[.bool p, .slice a n c, .bool q, .slice b m d] 26)).alloc (.cells #[.int .i64 0, .bool false, .slice none 0 0, .bool false, .slice none 0 0] 28)) = ww0
    have hkk : Kept [] ((w.alloc (.cells #[.bool p, .slice a n c, .bool q, .slice b m d] 26)).alloc (.cells #[.int .i64 0, .bool false, .slice none 0 0, .bool false, .slice none 0 0] 28)) ww0 := by rw [hW]; exact Kept.refl _ _
    have zzA : w.heap.size + 1 + 1 = ww0.heap.size := by rw [← hW]; simp
    obtain ⟨⟨nA0, nA1, nA2, nA3⟩, _⟩ := tp4 hkk.peel (g := w.heap.size) (by simp) (by simp)
    obtain ⟨⟨nR0, nR1, nR2, nR3, nR4⟩, fR0, fR1, fR2, fR3, fR4⟩ := tp5 hkk (g := w.heap.size + 1) (by simp) (by simp)
    have hk := hkk.peel.peel
    clear hkk hW
    have z0 := hk.size
    have KT := Lib.hid hk
    clear hk
    replace H1 := Lib.hid (H1.out.kept0 KT.out)
    replace H2 := Lib.hid (H2.out.kept0 KT.out)
    refine (precisionFault_one _ _ _ _ _ _ _ _ _ _ _ _ _ (by omega) H1.out H2.out).mono ?_
    rintro e ww1 ⟨rfl, hk⟩
    rw [HZ.out]
    have z1 := hk.size
    replace fR0 := kf hk nR0 fR0
    replace fR1 := kf hk nR1 fR1
    replace fR2 := kf hk nR2 fR2
    replace fR3 := kf hk nR3 fR3
    replace fR4 := kf hk nR4 fR4
    replace nA0 := kc hk nA0
    replace nA1 := kc hk nA1
    replace nA2 := kc hk nA2
    replace nA3 := kc hk nA3
    replace nR0 := kc hk nR0
    replace nR1 := kc hk nR1
    replace nR2 := kc hk nR2
    replace nR3 := kc hk nR3
    replace nR4 := kc hk nR4
    replace H1 := Lib.hid (H1.out.kept0 hk)
    replace H2 := Lib.hid (H2.out.kept0 hk)
    replace KT := Lib.hid (KT.out.trans0 hk)
    clear hk
    have tA0 := nA0.out
    have tA1 := nA1.out
    have tA2 := nA2.out
    have tA3 := nA3.out
    go_upto_region 4 with fail
    go_cut [6] (fun s wx => Hid (Box4 ww1 y1 y2 s wx))
    case first =>
     go_region_held3 (fun w' => w'.cell? ⟨w.heap.size, 0, none⟩ = some (.bool p) ∧ w'.cell? ⟨w.heap.size, 1, none⟩ = some (.slice a n c) ∧ w'.cell? ⟨w.heap.size, 2, none⟩ = some (.bool q) ∧ w'.cell? ⟨w.heap.size, 3, none⟩ = some (.slice b m d) ∧ Hid (Kept [] ww1 w'))
      ((go_split_ands; (try refine ⟨?_, ?_, ?_, ?_, ?_⟩) <;> with_reducible first | assumption | exact Kept.set4n (by assumption) (by omega) | exact cell_set4 (by assumption) (by (try dsimp only); omega) | exact drew_alloc_cell (by assumption) | exact drew_cell (by assumption) | exact Kept.allocH (by assumption) | exact alloc_cell (by assumption) | exact Lib.hid (Kept.trans0 (Hid.out (by assumption)) (by assumption)) | exact Kept.cell (by assumption) (by assumption) (by simp) | exact Lib.hid ((Kept.refl _ _).drew) | exact Lib.hid (((Kept.refl _ _).alloc _).drew)))
      (first
       | (go_at_call 119; with_reducible show Calls _ _ #[Value.agg #[Value.bool p, Value.slice a n c], Value.agg #[Value.bool p, Value.slice a n c]] _ _; go_split_ands; refine (MulBigs_z _ _ _ _ _ _ _ _ _ _ _ _ (H1.out.kept0 (Hid.out (by assumption))) (H1.out.kept0 (Hid.out (by assumption))) B1.out B1.out o1 HY1.out).mono ?_; intro e v1 hh; unfold BigZ at hh; obtain ⟨b1, hh⟩ := hh; obtain ⟨cc1, hh, hs1, hf1, hk1⟩ := hh; subst hh; have zk1 := hk1.size; (try simp only [World.size_drew, World.size_alloc] at zk1); (first | (obtain ⟨z0_, y0_, _⟩ := hk1.undrew.top (g := ww1.heap.size) rfl (by simp) 0 (v := .bool false) rfl; obtain ⟨z1_, y1_, _⟩ := hk1.undrew.top (g := ww1.heap.size) rfl (by simp) 1 (v := .slice none 0 0) rfl; obtain ⟨z2_, y2_, _⟩ := hk1.undrew.top (g := ww1.heap.size) rfl (by simp) 2 (v := .bool false) rfl; obtain ⟨z3_, y3_, _⟩ := hk1.undrew.top (g := ww1.heap.size) rfl (by simp) 3 (v := .slice none 0 0) rfl) | skip))
       | (go_at_call 119; with_reducible show Calls _ _ #[Value.agg #[Value.bool q, Value.slice b m d], Value.agg #[Value.bool q, Value.slice b m d]] _ _; go_split_ands; refine (MulBigs_z _ _ _ _ _ _ _ _ _ _ _ _ (H2.out.kept0 (Hid.out (by assumption))) (H2.out.kept0 (Hid.out (by assumption))) B2.out B2.out o2 HY2.out).mono ?_; intro e v2 hh; unfold BigZ at hh; obtain ⟨b2, hh⟩ := hh; obtain ⟨cc2, hh, hs2, hf2, hk2⟩ := hh; subst hh; have zk2 := hk2.size; (try simp only [World.size_alloc] at zk2); have hl1 := hs1.lt; have hs1 := hs1.kept0 (show Kept [] _ v2 by first | exact hk2 | exact Kept.trans0 ((Kept.refl [] _).alloc _) hk2); have sck := Lib.hid (Kept.trans0 (Hid.out (by assumption : Hid (Kept [] ww1 _))) hk2); have sc0 : v2.cell? ⟨w.heap.size, 0, none⟩ = some (.bool p) := hk2.cell (by assumption) (by simp); have sc1 : v2.cell? ⟨w.heap.size, 1, none⟩ = some (.slice a n c) := hk2.cell (by assumption) (by simp); have sc2 : v2.cell? ⟨w.heap.size, 2, none⟩ = some (.bool q) := hk2.cell (by assumption) (by simp); have sc3 : v2.cell? ⟨w.heap.size, 3, none⟩ = some (.slice b m d) := hk2.cell (by assumption) (by simp); (first | (obtain ⟨z0_, y0_, _⟩ := hk2.top (g := v1.heap.size) rfl (by simp) 0 (v := .bool false) rfl; obtain ⟨z1_, y1_, _⟩ := hk2.top (g := v1.heap.size) rfl (by simp) 1 (v := .slice none 0 0) rfl; obtain ⟨z2_, y2_, _⟩ := hk2.top (g := v1.heap.size) rfl (by simp) 2 (v := .bool false) rfl; obtain ⟨z3_, y3_, _⟩ := hk2.top (g := v1.heap.size) rfl (by simp) 3 (v := .slice none 0 0) rfl) | (replace y0_ := hk2.free' z0_ y0_ (by simp); replace y1_ := hk2.free' z1_ y1_ (by simp); replace y2_ := hk2.free' z2_ y2_ (by simp); replace y3_ := hk2.free' z3_ y3_ (by simp); replace z0_ := hk2.cell z0_ (by simp); replace z1_ := hk2.cell z1_ (by simp); replace z2_ := hk2.cell z2_ (by simp); replace z3_ := hk2.cell z3_ (by simp)) | skip)))
     all_goals
      go_wp2_with fail
      go_meet
      first | (with_reducible refine Lib.hid (box4_last hs1 hs2 sck)) | ((with_reducible refine Lib.hid (box4_set ?_ ?_ ?_ hs1 hs2 z0_ z1_ z2_ z3_ sck)); ((try simp only [World.size_drew]); (try simp only [World.size_alloc]); omega); (intro hn9 x9 hx9; have h9 := hf1 hn9 x9 hx9; have h8 := hl1 hn9 x9 hx9; (try simp only [World.size_drew] at h9); (try simp only [World.size_alloc] at h9); omega); (intro hn9 x9 hx9; have h9 := hf2 hn9 x9 hx9; (try simp only [World.size_drew] at h9); (try simp only [World.size_alloc] at h9); omega))
    case rest =>
    have hc := hcut.out
    clear hcut
    clear tA0 tA1 tA2 tA3
    obtain ⟨gC, b1, cc1, b2, cc2, rfl, e0, e1, e2, e3, hgC, hglC, hs1, hs2, hk⟩ := hc
    obtain ⟨ww2, rfl⟩ : ∃ w' : World, w' = wc := ⟨_, rfl⟩
    have z2 := hk.size
    replace fR0 := kf hk nR0 fR0
    replace fR1 := kf hk nR1 fR1
    replace fR2 := kf hk nR2 fR2
    replace fR3 := kf hk nR3 fR3
    replace fR4 := kf hk nR4 fR4
    replace nA0 := kc hk nA0
    replace nA1 := kc hk nA1
    replace nA2 := kc hk nA2
    replace nA3 := kc hk nA3
    replace nR0 := kc hk nR0
    replace nR1 := kc hk nR1
    replace nR2 := kc hk nR2
    replace nR3 := kc hk nR3
    replace nR4 := kc hk nR4
    replace H1 := Lib.hid (H1.out.kept0 hk)
    replace H2 := Lib.hid (H2.out.kept0 hk)
    replace KT := Lib.hid (KT.out.trans0 hk)
    clear hk
    have nC0 := Lib.hid e0
    have nC1 := Lib.hid e1
    have nC2 := Lib.hid e2
    have nC3 := Lib.hid e3
    clear e0 e1 e2 e3
    have S1 := Lib.hid hs1
    have S2 := Lib.hid hs2
    clear hs1 hs2
    have HROW := Lib.hid (rowB2_of nC0.out nC1.out nC2.out nC3.out)
    clear nC0 nC1 nC2 nC3
    have SF1 := Lib.hid S1.out.lt
    have SF2 := Lib.hid S2.out.lt
    go_wp2_with fail
    refine (leastOf_isBelow_two _ _ _ _ _ _ _ _ _ _ _ _ _ HROW.out S1.out S2.out BK1.out BK2.out HTM.out).mono ?_
    rintro e ww3 h77
    unfold BigN at h77
    obtain ⟨a5, c5, rfl, hs5, hk⟩ := h77
    have HS5 := Lib.hid hs5
    clear hs5
    have z3 := hk.size
    replace fR0 := kf hk nR0 fR0
    replace fR1 := kf hk nR1 fR1
    replace fR2 := kf hk nR2 fR2
    replace fR3 := kf hk nR3 fR3
    replace fR4 := kf hk nR4 fR4
    replace nA0 := kc hk nA0
    replace nA1 := kc hk nA1
    replace nA2 := kc hk nA2
    replace nA3 := kc hk nA3
    replace nR0 := kc hk nR0
    replace nR1 := kc hk nR1
    replace nR2 := kc hk nR2
    replace nR3 := kc hk nR3
    replace nR4 := kc hk nR4
    replace H1 := Lib.hid (H1.out.kept0 hk)
    replace H2 := Lib.hid (H2.out.kept0 hk)
    replace S1 := Lib.hid (S1.out.kept0 hk)
    replace S2 := Lib.hid (S2.out.kept0 hk)
    replace HROW := Lib.hid (HROW.out.kept0 hk)
    replace KT := Lib.hid (KT.out.trans0 hk)
    clear hk
    have SF5 := Lib.hid HS5.out.lt
    go_upto_region 6 with fail
    generalize hW : (ww3.alloc (.cells #[.bool (isNeg tm), .slice a5 (mag tm).length c5] 24)) = ww4
    have hk : Kept [] ww3 ww4 := by rw [← hW]; exact (Kept.refl [] _).alloc _
    have zzU : ww3.heap.size + 1 = ww4.heap.size := by rw [← hW]; simp
    have nU0 := Lib.hid (show ww4.cell? ⟨ww3.heap.size, 0, none⟩ = some (.bool (isNeg tm)) by rw [← hW, World.cell?_alloc_new]; rfl)
    have fU0 := Lib.hid (show ww4.frozen? ⟨ww3.heap.size, 0, none⟩ = false by rw [← hW]; exact frozen_of_row _ _ _ _ _ (heap_alloc_new _ _))
    have nU1 := Lib.hid (show ww4.cell? ⟨ww3.heap.size, 1, none⟩ = some (.slice a5 (mag tm).length c5) by rw [← hW, World.cell?_alloc_new]; rfl)
    have fU1 := Lib.hid (show ww4.frozen? ⟨ww3.heap.size, 1, none⟩ = false by rw [← hW]; exact frozen_of_row _ _ _ _ _ (heap_alloc_new _ _))
    clear hW
    have z4 := hk.size
    replace fR0 := kf hk nR0 fR0
    replace fR1 := kf hk nR1 fR1
    replace fR2 := kf hk nR2 fR2
    replace fR3 := kf hk nR3 fR3
    replace fR4 := kf hk nR4 fR4
    replace nA0 := kc hk nA0
    replace nA1 := kc hk nA1
    replace nA2 := kc hk nA2
    replace nA3 := kc hk nA3
    replace nR0 := kc hk nR0
    replace nR1 := kc hk nR1
    replace nR2 := kc hk nR2
    replace nR3 := kc hk nR3
    replace nR4 := kc hk nR4
    replace H1 := Lib.hid (H1.out.kept0 hk)
    replace H2 := Lib.hid (H2.out.kept0 hk)
    replace S1 := Lib.hid (S1.out.kept0 hk)
    replace S2 := Lib.hid (S2.out.kept0 hk)
    replace HROW := Lib.hid (HROW.out.kept0 hk)
    replace HS5 := Lib.hid (HS5.out.kept0 hk)
    replace KT := Lib.hid (KT.out.trans0 hk)
    clear hk
    have tA0 := nA0.out
    have tA1 := nA1.out
    have tA2 := nA2.out
    have tA3 := nA3.out
    go_wp2_with fail
    clear tA0 tA1 tA2 tA3
    refine (hasZero_any _ _ _ _ _ _ _ _ _ _ H1.out B1.out).mono ?_
    rintro e ww5 ⟨rfl, hk⟩
    rw [HHZ.out]
    have z5 := hk.size
    replace fR0 := kf hk nR0 fR0
    replace fR1 := kf hk nR1 fR1
    replace fR2 := kf hk nR2 fR2
    replace fR3 := kf hk nR3 fR3
    replace fR4 := kf hk nR4 fR4
    replace fU0 := kf hk nU0 fU0
    replace fU1 := kf hk nU1 fU1
    replace nA0 := kc hk nA0
    replace nA1 := kc hk nA1
    replace nA2 := kc hk nA2
    replace nA3 := kc hk nA3
    replace nR0 := kc hk nR0
    replace nR1 := kc hk nR1
    replace nR2 := kc hk nR2
    replace nR3 := kc hk nR3
    replace nR4 := kc hk nR4
    replace H1 := Lib.hid (H1.out.kept0 hk)
    replace H2 := Lib.hid (H2.out.kept0 hk)
    replace S1 := Lib.hid (S1.out.kept0 hk)
    replace S2 := Lib.hid (S2.out.kept0 hk)
    replace HROW := Lib.hid (HROW.out.kept0 hk)
    replace HS5 := Lib.hid (HS5.out.kept0 hk)
    replace nU0 := kc hk nU0
    replace nU1 := kc hk nU1
    replace KT := Lib.hid (KT.out.trans0 hk)
    clear hk
    go_upto_region 8 with fail
    have tU0 := nU0.out
    have tU1 := nU1.out
    go_region_held3 (fun w' => w'.cell? ⟨ww3.heap.size, 0, none⟩ = some (.bool (isNeg tm)) ∧ w'.cell? ⟨ww3.heap.size, 1, none⟩ = some (.slice a5 (mag tm).length c5) ∧ Hid (Kept [w.heap.size + 1] ww5 w'))
     ((go_split_ands; (try refine ⟨?_, ?_, ?_⟩) <;> with_reducible first | exact Kept.set5 (by assumption) | exact cell_set5 (by assumption) (by simp <;> omega) | exact Lib.hid ((Kept.refl _ _).drew) | exact drew_cell (by assumption) | exact Kept.allocH (by assumption) | exact alloc_cell (by assumption) | exact Lib.hid (Kept.trans0 (Hid.out (by assumption)) (by assumption)) | exact Kept.cell (by assumption) (by assumption) (by simp)))
     (first
      | (go_at_call 152; with_reducible show Calls _ _ #[Value.func (Fn.func 130) #[] #[], _] _ _; go_split_ands; refine (leastOf_isAbove_two _ _ _ _ _ _ _ _ _ _ _ _ _ (HROW.out.kept0 ((Kept.refl [] _).drew)) (S1.out.kept0 ((Kept.refl [] _).drew)) (S2.out.kept0 ((Kept.refl [] _).drew)) BK1.out BK2.out HTX.out).mono ?_; intro e v1 hh; unfold BigN at hh; obtain ⟨a1, c1, hh, hs1, hk1⟩ := hh; subst hh)
      | (go_at_call 163; go_split_ands; refine (outOfUnits_any k _ _ _ _ _ _ tm tx _ hk96 hk16 (HS5.out.kept0 (((Kept.refl [] _).drew).trans0 hk1)) hs1 om ox9).mono ?_; intro e v2 hh; unfold SpanR at hh; obtain ⟨a3, c3, b3, d3, hh, hs3, hs4, hf3, hf4, hne, hk2⟩ := hh; subst hh; have hkr := (((Kept.refl [] ww5).drew).trans0 hk1).trans0 hk2; have rg0 := hkr.cell (p := ⟨w.heap.size + 1, 0, none⟩) nR0.out (by simp); have rg1 := hkr.cell (p := ⟨w.heap.size + 1, 1, none⟩) nR1.out (by simp); have rg2 := hkr.cell (p := ⟨w.heap.size + 1, 2, none⟩) nR2.out (by simp); have rg3 := hkr.cell (p := ⟨w.heap.size + 1, 3, none⟩) nR3.out (by simp); have rg4 := hkr.cell (p := ⟨w.heap.size + 1, 4, none⟩) nR4.out (by simp); have ru0 := hkr.free' (p := ⟨w.heap.size + 1, 0, none⟩) nR0.out fR0.out (by simp); have ru1 := hkr.free' (p := ⟨w.heap.size + 1, 1, none⟩) nR1.out fR1.out (by simp); have ru2 := hkr.free' (p := ⟨w.heap.size + 1, 2, none⟩) nR2.out fR2.out (by simp); have ru3 := hkr.free' (p := ⟨w.heap.size + 1, 3, none⟩) nR3.out fR3.out (by simp); have ru4 := hkr.free' (p := ⟨w.heap.size + 1, 4, none⟩) nR4.out fR4.out (by simp); have z12 := (((Kept.refl [] ww5).drew).trans0 hk1).size; (try simp only [World.size_drew] at z12)))
    clear tU0 tU1
    have hk := hkr
    clear hkr hs1 hk1 hk2
    clear HROW S1 S2
    clear HS5
    rw [← HR.out] at hs3 hs4 hf3 hf4 hne ⊢
    have z6 := hk.size
    replace fR0 := kf hk nR0 fR0
    replace fR1 := kf hk nR1 fR1
    replace fR2 := kf hk nR2 fR2
    replace fR3 := kf hk nR3 fR3
    replace fR4 := kf hk nR4 fR4
    replace fU0 := kf hk nU0 fU0
    replace fU1 := kf hk nU1 fU1
    replace nA0 := kc hk nA0
    replace nA1 := kc hk nA1
    replace nA2 := kc hk nA2
    replace nA3 := kc hk nA3
    replace nR0 := kc hk nR0
    replace nR1 := kc hk nR1
    replace nR2 := kc hk nR2
    replace nR3 := kc hk nR3
    replace nR4 := kc hk nR4
    replace H1 := Lib.hid (H1.out.kept0 hk)
    replace H2 := Lib.hid (H2.out.kept0 hk)
    replace nU0 := kc hk nU0
    replace nU1 := kc hk nU1
    replace KT := Lib.hid (KT.out.trans0 hk)
    clear hk
    have hs3 := Lib.hid hs3
    have hs4 := Lib.hid hs4
    have HNE := Lib.hid hne
    have G3 := Lib.hid (hf3.mono (B' := w.heap.size + 1 + 1) (by omega))
    have G4 := Lib.hid (hf4.mono (B' := w.heap.size + 1 + 1) (by omega))
    clear hf3 hf4 hne
    generalize hW : (((((v2.setCell ⟨w.heap.size + 1, 0, none⟩ (.int .i64 r.code)).setCell ⟨w.heap.size + 1, 1, none⟩ (.bool (isNeg r.lo))).setCell ⟨w.heap.size + 1, 2, none⟩ (.slice a3 (mag r.lo).length c3)).setCell ⟨w.heap.size + 1, 3, none⟩ (.bool (isNeg r.hi))).setCell ⟨w.heap.size + 1, 4, none⟩ (.slice b3 (mag r.hi).length d3)) = ww7
    have hk : Kept [w.heap.size + 1] v2 ww7 := by rw [← hW]; exact (((((Kept.refl _ _).setCell _ _ (by simp)).setCell _ _ (by simp)).setCell _ _ (by simp)).setCell _ _ (by simp)).setCell _ _ (by simp)
    have hfz : ∀ x, ww7.frozen? x = v2.frozen? x := by rw [← hW]; intro x; simp only [World.frozen?_setCell]
    obtain ⟨e0, e1, e2, e3, e4⟩ := st5 hW.symm nR0.out nR1.out nR2.out nR3.out nR4.out
    have z7 := hk.size
    replace fR0 := kz hfz fR0
    replace fR1 := kz hfz fR1
    replace fR2 := kz hfz fR2
    replace fR3 := kz hfz fR3
    replace fR4 := kz hfz fR4
    replace fU0 := kz hfz fU0
    replace fU1 := kz hfz fU1
    replace nA0 := kd hk nA0 (by simp <;> omega)
    replace nA1 := kd hk nA1 (by simp <;> omega)
    replace nA2 := kd hk nA2 (by simp <;> omega)
    replace nA3 := kd hk nA3 (by simp <;> omega)
    replace H1 := Lib.hid (H1.out.kept hk (fun hn y hy hm => by have h9 := F1.out hn y hy; simp at hm; omega))
    replace H2 := Lib.hid (H2.out.kept hk (fun hn y hy hm => by have h9 := F2.out hn y hy; simp at hm; omega))
    replace nU0 := kd hk nU0 (by simp <;> omega)
    replace nU1 := kd hk nU1 (by simp <;> omega)
    replace hs3 := Lib.hid (hs3.out.kept hk (fun hn y hy hm => by have h9 := G3.out hn y hy; simp at hm; omega))
    replace hs4 := Lib.hid (hs4.out.kept hk (fun hn y hy hm => by have h9 := G4.out hn y hy; simp at hm; omega))
    replace nR0 := Lib.hid e0
    replace nR1 := Lib.hid e1
    replace nR2 := Lib.hid e2
    replace nR3 := Lib.hid e3
    replace nR4 := Lib.hid e4
    replace KT := Lib.hid (KT.out.trans hk (fun x hx hlt => by simp at hx; omega))
    clear hk hfz hW e0 e1 e2 e3 e4
    go_wp2_with fail
    have e0 := nR0.out
    have e1 := nR1.out
    have e2 := nR2.out
    have e3 := nR3.out
    have e4 := nR4.out
    refine bodyPost_ret (v := .agg #[.int .i64 r.code, .bool (isNeg r.lo), .slice a3 (mag r.lo).length c3, .bool (isNeg r.hi), .slice b3 (mag r.hi).length d3]) (by simp [results, Tryz.results120, go_sem, e0, e1, e2, e3, e4]) rfl ?_
    exact ⟨a3, c3, b3, d3, rfl, hs3.out, hs4.out, G3.out.mono (by omega), G4.out.mono (by omega), HNE.out, KT.out⟩
  ·skip
   rw [show sqS P p xs q ys = noSpan (spanFault p xs q ys) from askS_bad hP hz]
   obtain ⟨f, hf⟩ : ∃ f, f = spanFault p xs q ys := ⟨_, rfl⟩
   have HZ := Lib.hid (show precS P (spanFault p xs q ys) = f by unfold precS; rw [if_pos hP]; exact hf.symm)
   rw [← hf]
   have hne : (f == 0) = false := by rw [beq_eq_false_iff_ne, hf]; exact hz
   clear hf hz hP
   go_enter Tryz.func120, Tryz.ntmps120
   go_wp2_with fail
   generalize hW : ((w.alloc (.cells #[.bool p, .slice a n c, .bool q, .slice b m d] 26)).alloc (.cells #[.int .i64 0, .bool false, .slice none 0 0, .bool false, .slice none 0 0] 28)) = ww0
   have hkk : Kept [] ((w.alloc (.cells #[.bool p, .slice a n c, .bool q, .slice b m d] 26)).alloc (.cells #[.int .i64 0, .bool false, .slice none 0 0, .bool false, .slice none 0 0] 28)) ww0 := by rw [hW]; exact Kept.refl _ _
   have zzA : w.heap.size + 1 + 1 = ww0.heap.size := by rw [← hW]; simp
   obtain ⟨⟨nA0, nA1, nA2, nA3⟩, _⟩ := tp4 hkk.peel (g := w.heap.size) (by simp) (by simp)
   obtain ⟨⟨nR0, nR1, nR2, nR3, nR4⟩, fR0, fR1, fR2, fR3, fR4⟩ := tp5 hkk (g := w.heap.size + 1) (by simp) (by simp)
   have hk := hkk.peel.peel
   clear hkk hW
   have z0 := hk.size
   have KT := Lib.hid hk
   clear hk
   replace H1 := Lib.hid (H1.out.kept0 KT.out)
   replace H2 := Lib.hid (H2.out.kept0 KT.out)
   refine (precisionFault_one _ _ _ _ _ _ _ _ _ _ _ _ _ (by omega) H1.out H2.out).mono ?_
   rintro e ww1 ⟨rfl, hk⟩
   rw [HZ.out]
   have z1 := hk.size
   replace fR0 := kf hk nR0 fR0
   replace fR1 := kf hk nR1 fR1
   replace fR2 := kf hk nR2 fR2
   replace fR3 := kf hk nR3 fR3
   replace fR4 := kf hk nR4 fR4
   replace nA0 := kc hk nA0
   replace nA1 := kc hk nA1
   replace nA2 := kc hk nA2
   replace nA3 := kc hk nA3
   replace nR0 := kc hk nR0
   replace nR1 := kc hk nR1
   replace nR2 := kc hk nR2
   replace nR3 := kc hk nR3
   replace nR4 := kc hk nR4
   replace H1 := Lib.hid (H1.out.kept0 hk)
   replace H2 := Lib.hid (H2.out.kept0 hk)
   replace KT := Lib.hid (KT.out.trans0 hk)
   clear hk
   have tA0 := nA0.out
   have tA1 := nA1.out
   have tA2 := nA2.out
   have tA3 := nA3.out
   have tR0 := nR0.out
   have tR1 := nR1.out
   have tR2 := nR2.out
   have tR3 := nR3.out
   have tR4 := nR4.out
   have uR0 := fR0.out
   have uR1 := fR1.out
   have uR2 := fR2.out
   have uR3 := fR3.out
   have uR4 := fR4.out
   go_wp2_with fail
   clear tA0 tA1 tA2 tA3 tR0 tR1 tR2 tR3 tR4 uR0 uR1 uR2 uR3 uR4
   generalize hW : (((((ww1.setCell ⟨w.heap.size + 1, 0, none⟩ (.int .i64 f)).setCell ⟨w.heap.size + 1, 1, none⟩ (.bool false)).setCell ⟨w.heap.size + 1, 2, none⟩ (.slice none 0 0)).setCell ⟨w.heap.size + 1, 3, none⟩ (.bool false)).setCell ⟨w.heap.size + 1, 4, none⟩ (.slice none 0 0)) = ww2
   have hk : Kept [w.heap.size + 1] ww1 ww2 := by rw [← hW]; exact (((((Kept.refl _ _).setCell _ _ (by simp)).setCell _ _ (by simp)).setCell _ _ (by simp)).setCell _ _ (by simp)).setCell _ _ (by simp)
   have hfz : ∀ x, ww2.frozen? x = ww1.frozen? x := by rw [← hW]; intro x; simp only [World.frozen?_setCell]
   obtain ⟨e0, e1, e2, e3, e4⟩ := st5 hW.symm nR0.out nR1.out nR2.out nR3.out nR4.out
   have z2 := hk.size
   replace fR0 := kz hfz fR0
   replace fR1 := kz hfz fR1
   replace fR2 := kz hfz fR2
   replace fR3 := kz hfz fR3
   replace fR4 := kz hfz fR4
   replace nA0 := kd hk nA0 (by simp <;> omega)
   replace nA1 := kd hk nA1 (by simp <;> omega)
   replace nA2 := kd hk nA2 (by simp <;> omega)
   replace nA3 := kd hk nA3 (by simp <;> omega)
   replace H1 := Lib.hid (H1.out.kept hk (fun hn y hy hm => by have h9 := F1.out hn y hy; simp at hm; omega))
   replace H2 := Lib.hid (H2.out.kept hk (fun hn y hy hm => by have h9 := F2.out hn y hy; simp at hm; omega))
   replace nR0 := Lib.hid e0
   replace nR1 := Lib.hid e1
   replace nR2 := Lib.hid e2
   replace nR3 := Lib.hid e3
   replace nR4 := Lib.hid e4
   replace KT := Lib.hid (KT.out.trans hk (fun x hx hlt => by simp at hx; omega))
   clear hk hfz hW e0 e1 e2 e3 e4
   have e0 := nR0.out
   have e1 := nR1.out
   have e2 := nR2.out
   have e3 := nR3.out
   have e4 := nR4.out
   refine bodyPost_ret (v := .agg #[.int .i64 f, .bool false, .slice none 0 0, .bool false, .slice none 0 0]) (by simp [results, Tryz.results120, go_sem, e0, e1, e2, e3, e4]) rfl ?_
   exact spanR_no KT.out
 ·skip
  rw [show sqS P p xs q ys = noSpan 3 from askS_no hP]
  have HZ := Lib.hid (show precS P (spanFault p xs q ys) = 3 from if_neg hP)
  clear hP
  go_enter Tryz.func120, Tryz.ntmps120
  go_wp2_with fail
  generalize hW : ((w.alloc (.cells #[.bool p, .slice a n c, .bool q, .slice b m d] 26)).alloc (.cells #[.int .i64 0, .bool false, .slice none 0 0, .bool false, .slice none 0 0] 28)) = ww0
  have hkk : Kept [] ((w.alloc (.cells #[.bool p, .slice a n c, .bool q, .slice b m d] 26)).alloc (.cells #[.int .i64 0, .bool false, .slice none 0 0, .bool false, .slice none 0 0] 28)) ww0 := by rw [hW]; exact Kept.refl _ _
  have zzA : w.heap.size + 1 + 1 = ww0.heap.size := by rw [← hW]; simp
  obtain ⟨⟨nA0, nA1, nA2, nA3⟩, _⟩ := tp4 hkk.peel (g := w.heap.size) (by simp) (by simp)
  obtain ⟨⟨nR0, nR1, nR2, nR3, nR4⟩, fR0, fR1, fR2, fR3, fR4⟩ := tp5 hkk (g := w.heap.size + 1) (by simp) (by simp)
  have hk := hkk.peel.peel
  clear hkk hW
  have z0 := hk.size
  have KT := Lib.hid hk
  clear hk
  replace H1 := Lib.hid (H1.out.kept0 KT.out)
  replace H2 := Lib.hid (H2.out.kept0 KT.out)
  refine (precisionFault_one _ _ _ _ _ _ _ _ _ _ _ _ _ (by omega) H1.out H2.out).mono ?_
  rintro e ww1 ⟨rfl, hk⟩
  rw [HZ.out]
  have z1 := hk.size
  replace fR0 := kf hk nR0 fR0
  replace fR1 := kf hk nR1 fR1
  replace fR2 := kf hk nR2 fR2
  replace fR3 := kf hk nR3 fR3
  replace fR4 := kf hk nR4 fR4
  replace nA0 := kc hk nA0
  replace nA1 := kc hk nA1
  replace nA2 := kc hk nA2
  replace nA3 := kc hk nA3
  replace nR0 := kc hk nR0
  replace nR1 := kc hk nR1
  replace nR2 := kc hk nR2
  replace nR3 := kc hk nR3
  replace nR4 := kc hk nR4
  replace H1 := Lib.hid (H1.out.kept0 hk)
  replace H2 := Lib.hid (H2.out.kept0 hk)
  replace KT := Lib.hid (KT.out.trans0 hk)
  clear hk
  have tA0 := nA0.out
  have tA1 := nA1.out
  have tA2 := nA2.out
  have tA3 := nA3.out
  have tR0 := nR0.out
  have tR1 := nR1.out
  have tR2 := nR2.out
  have tR3 := nR3.out
  have tR4 := nR4.out
  have uR0 := fR0.out
  have uR1 := fR1.out
  have uR2 := fR2.out
  have uR3 := fR3.out
  have uR4 := fR4.out
  go_wp2_with fail
  clear tA0 tA1 tA2 tA3 tR0 tR1 tR2 tR3 tR4 uR0 uR1 uR2 uR3 uR4
  generalize hW : (((((ww1.setCell ⟨w.heap.size + 1, 0, none⟩ (.int .i64 3)).setCell ⟨w.heap.size + 1, 1, none⟩ (.bool false)).setCell ⟨w.heap.size + 1, 2, none⟩ (.slice none 0 0)).setCell ⟨w.heap.size + 1, 3, none⟩ (.bool false)).setCell ⟨w.heap.size + 1, 4, none⟩ (.slice none 0 0)) = ww2
  have hk : Kept [w.heap.size + 1] ww1 ww2 := by rw [← hW]; exact (((((Kept.refl _ _).setCell _ _ (by simp)).setCell _ _ (by simp)).setCell _ _ (by simp)).setCell _ _ (by simp)).setCell _ _ (by simp)
  have hfz : ∀ x, ww2.frozen? x = ww1.frozen? x := by rw [← hW]; intro x; simp only [World.frozen?_setCell]
  obtain ⟨e0, e1, e2, e3, e4⟩ := st5 hW.symm nR0.out nR1.out nR2.out nR3.out nR4.out
  have z2 := hk.size
  replace fR0 := kz hfz fR0
  replace fR1 := kz hfz fR1
  replace fR2 := kz hfz fR2
  replace fR3 := kz hfz fR3
  replace fR4 := kz hfz fR4
  replace nA0 := kd hk nA0 (by simp <;> omega)
  replace nA1 := kd hk nA1 (by simp <;> omega)
  replace nA2 := kd hk nA2 (by simp <;> omega)
  replace nA3 := kd hk nA3 (by simp <;> omega)
  replace H1 := Lib.hid (H1.out.kept hk (fun hn y hy hm => by have h9 := F1.out hn y hy; simp at hm; omega))
  replace H2 := Lib.hid (H2.out.kept hk (fun hn y hy hm => by have h9 := F2.out hn y hy; simp at hm; omega))
  replace nR0 := Lib.hid e0
  replace nR1 := Lib.hid e1
  replace nR2 := Lib.hid e2
  replace nR3 := Lib.hid e3
  replace nR4 := Lib.hid e4
  replace KT := Lib.hid (KT.out.trans hk (fun x hx hlt => by simp at hx; omega))
  clear hk hfz hW e0 e1 e2 e3 e4
  have e0 := nR0.out
  have e1 := nR1.out
  have e2 := nR2.out
  have e3 := nR3.out
  have e4 := nR4.out
  refine bodyPost_ret (v := .agg #[.int .i64 3, .bool false, .slice none 0 0, .bool false, .slice none 0 0]) (by simp [results, Tryz.results120, go_sem, e0, e1, e2, e3, e4]) rfl ?_
  exact spanR_no KT.out

end Go.Proofs.YtfafjijoeanbhaaGreat
