/-
 Contract of MulSpan. Conditions: the limbs read as lists of numbers.
-/
import Derived.Deep.RegionHeld3
import Derived.Deep.DrawnRows
import Derived.Deep.DeepCutAuto
import Derived.Test.YtfafjijoeanbhaaGreatCor
import Derived.Test.YtfafjijoeanbhaaGreatMulA
namespace Go.Proofs.YtfafjijoeanbhaaGreat
open Go.RowKit

set_option maxHeartbeats 8000000 in
set_option maxRecDepth 20000 in
theorem MulSpan_any (P : Int) (p q : Bool) (a b : Option Addr) (n c m d : Nat) (xs ys : List Int) (p' q' : Bool) (a' b' : Option Addr) (n' c' m' d' : Nat) (xs' ys' : List Int) (w : World) (h1 : Sl w a n c xs) (h2 : Sl w b m d ys) (h3 : Sl w a' n' c' xs') (h4 : Sl w b' m' d' ys') :
  Calls Tryz.prog 94 #[.int .i64 P, .agg #[.bool p, .slice a n c, .bool q, .slice b m d], .agg #[.bool p', .slice a' n' c', .bool q', .slice b' m' d']] w (SpanR w (mulS P p xs q ys p' xs' q' ys')) := by
 have H1 := Lib.hid h1
 have H2 := Lib.hid h2
 have H3 := Lib.hid h3
 have H4 := Lib.hid h4
 clear h1 h2 h3 h4
 have F1 := Lib.hid H1.out.lt
 have F2 := Lib.hid H2.out.lt
 have F3 := Lib.hid H3.out.lt
 have F4 := Lib.hid H4.out.lt
 by_cases hP : isP P = true
 ·by_cases hz : spanFault2 p xs q ys p' xs' q' ys' = 0
  ·skip
   obtain ⟨t1, ht1⟩ : ∃ t, t = outZ false (mulLow p xs q ys p' xs' q' ys') P.toNat := ⟨_, rfl⟩
   obtain ⟨t2, ht2⟩ : ∃ t, t = outZ true (mulHigh p xs q ys p' xs' q' ys') P.toNat := ⟨_, rfl⟩
   obtain ⟨r, hr⟩ : ∃ r, r = fitS t1 t2 := ⟨_, rfl⟩
   rw [show mulS P p xs q ys p' xs' q' ys' = r from by unfold mulS; rw [askS_ok hP hz, ← ht1, ← ht2, hr]]
   have HZ := Lib.hid (show precS P (spanFault2 p xs q ys p' xs' q' ys') = 0 by unfold precS; rw [if_pos hP]; exact hz)
   obtain ⟨ox, oy⟩ := spanFault2_zero hz
   obtain ⟨k, rfl⟩ : ∃ k : Nat, P = (k : Int) := ⟨P.toNat, by rcases isP_cases hP with h | h | h <;> omega⟩
   have hk96 : k ≤ 96 := by rcases isP_cases hP with h | h | h <;> omega
   have hk16 : 16 ≤ k := by rcases isP_cases hP with h | h | h <;> omega
   obtain ⟨y1, hy1⟩ : ∃ z, z = sv p xs * sv p' xs' := ⟨_, rfl⟩
   have o1 : (mag y1).length ≤ 40 := by rw [hy1]; exact mul_len ox.lo.n40 oy.lo.n40 ox.lx oy.lx
   obtain ⟨y2, hy2⟩ : ∃ z, z = sv p xs * sv q' ys' := ⟨_, rfl⟩
   have o2 : (mag y2).length ≤ 40 := by rw [hy2]; exact mul_len ox.lo.n40 oy.hi.n40 ox.lx oy.ly
   obtain ⟨y3, hy3⟩ : ∃ z, z = sv q ys * sv p' xs' := ⟨_, rfl⟩
   have o3 : (mag y3).length ≤ 40 := by rw [hy3]; exact mul_len ox.hi.n40 oy.lo.n40 ox.ly oy.lx
   obtain ⟨y4, hy4⟩ : ∃ z, z = sv q ys * sv q' ys' := ⟨_, rfl⟩
   have o4 : (mag y4).length ≤ 40 := by rw [hy4]; exact mul_len ox.hi.n40 oy.hi.n40 ox.ly oy.ly
   obtain ⟨tm, htm⟩ : ∃ t, t = min4 y1 y2 y3 y4 := ⟨_, rfl⟩
   obtain ⟨tx, htx⟩ : ∃ t, t = max4 y1 y2 y3 y4 := ⟨_, rfl⟩
   have om : (mag tm).length ≤ 40 := by rw [htm]; exact min4_len o1 o2 o3 o4
   have ox9 : (mag tx).length ≤ 40 := by rw [htx]; exact max4_len o1 o2 o3 o4
   have hrr : r = fitS (outZ false tm k) (outZ true tx k) := by rw [hr, ht1, ht2, htm, htx, hy1, hy2, hy3, hy4]; rfl
   have HR := Lib.hid hrr
   have HTM := Lib.hid htm
   have HTX := Lib.hid htx
   have B1 := Lib.hid ox.lo
   have B2 := Lib.hid ox.hi
   have B3 := Lib.hid oy.lo
   have B4 := Lib.hid oy.hi
   have HY1 := Lib.hid hy1
   have HY2 := Lib.hid hy2
   have HY3 := Lib.hid hy3
   have HY4 := Lib.hid hy4
   clear ox oy hz hP ht1 ht2 hr hrr htm htx hy1 hy2 hy3 hy4
   go_enter Tryz.func94, Tryz.ntmps94
   go_wp2_with fail
   generalize hW : (((w.alloc (.cells #[.bool p, .slice a n c, .bool q, .slice b m d] 26)).alloc (.cells #[.bool p', .slice a' n' c', .bool q', .slice b' m' d'] 26)).alloc (.cells #[.int .i64 0, .bool false, .slice none 0 0, .bool false, .slice none 0 0] 28)) = ww0
   have hkk : Kept [] (((w.alloc (.cells #[.bool p, .slice a n c, .bool q, .slice b m d] 26)).alloc (.cells #[.bool p', .slice a' n' c', .bool q', .slice b' m' d'] 26)).alloc (.cells #[.int .i64 0, .bool false, .slice none 0 0, .bool false, .slice none 0 0] 28)) ww0 := by rw [hW]; exact Kept.refl _ _
   have zzA : w.heap.size + 1 + 1 + 1 = ww0.heap.size := by rw [← hW]; simp
   obtain ⟨⟨nA0, nA1, nA2, nA3⟩, _⟩ := tp4 hkk.peel.peel (g := w.heap.size) (by simp) (by simp)
   obtain ⟨⟨nB0, nB1, nB2, nB3⟩, _⟩ := tp4 hkk.peel (g := w.heap.size + 1) (by simp) (by simp)
   obtain ⟨⟨nR0, nR1, nR2, nR3, nR4⟩, fR0, fR1, fR2, fR3, fR4⟩ := tp5 hkk (g := w.heap.size + 1 + 1) (by simp) (by simp)
   have hk := hkk.peel.peel.peel
   clear hkk hW
   have z0 := hk.size
   have KT := Lib.hid hk
   clear hk
   replace H1 := Lib.hid (H1.out.kept0 KT.out)
   replace H2 := Lib.hid (H2.out.kept0 KT.out)
   replace H3 := Lib.hid (H3.out.kept0 KT.out)
   replace H4 := Lib.hid (H4.out.kept0 KT.out)
   refine (precisionFault_two _ _ _ _ _ _ _ _ _ _ _ _ _ _ _ _ _ _ _ _ _ _ _ (by omega) H1.out H2.out H3.out H4.out).mono ?_
   rintro e ww1 ⟨rfl, hk⟩
   rw [HZ.out]
   have z1 := hk.size
   replace fR0 := kf hk nR0 fR0
   replace fR1 := kf hk nR1 fR1
   replace fR2 := kf hk nR2 fR2
   replace fR3 := kf hk nR3 fR3
   replace fR4 := kf hk nR4 fR4
   replace nA0 := kc hk nA0
   replace nA1 := kc hk nA1
   replace nA2 := kc hk nA2
   replace nA3 := kc hk nA3
   replace nB0 := kc hk nB0
   replace nB1 := kc hk nB1
   replace nB2 := kc hk nB2
   replace nB3 := kc hk nB3
   replace nR0 := kc hk nR0
   replace nR1 := kc hk nR1
   replace nR2 := kc hk nR2
   replace nR3 := kc hk nR3
   replace nR4 := kc hk nR4
   replace H1 := Lib.hid (H1.out.kept0 hk)
   replace H2 := Lib.hid (H2.out.kept0 hk)
   replace H3 := Lib.hid (H3.out.kept0 hk)
   replace H4 := Lib.hid (H4.out.kept0 hk)
   replace KT := Lib.hid (KT.out.trans0 hk)
   clear hk
   have tA0 := nA0.out
   have tA1 := nA1.out
   have tA2 := nA2.out
   have tA3 := nA3.out
   have tB0 := nB0.out
   have tB1 := nB1.out
   have tB2 := nB2.out
   have tB3 := nB3.out
   go_wp2_with fail
   clear tA0 tA1 tA2 tA3 tB0 tB1 tB2 tB3
   refine (cornersOf_MulBigs _ _ _ _ _ _ _ _ _ _ _ _ _ _ _ _ _ _ _ _ y1 y2 y3 y4 _ H1.out H2.out H3.out H4.out B1.out B2.out B3.out B4.out o1 o2 o3 o4 HY1.out HY2.out HY3.out HY4.out).mono ?_
   rintro e ww2 ⟨b1, cc1, b2, cc2, b3, cc3, b4, cc4, rfl, hs1, hs2, hs3, hs4, hk⟩
   have z2 := hk.size
   replace fR0 := kf hk nR0 fR0
   replace fR1 := kf hk nR1 fR1
   replace fR2 := kf hk nR2 fR2
   replace fR3 := kf hk nR3 fR3
   replace fR4 := kf hk nR4 fR4
   replace nA0 := kc hk nA0
   replace nA1 := kc hk nA1
   replace nA2 := kc hk nA2
   replace nA3 := kc hk nA3
   replace nB0 := kc hk nB0
   replace nB1 := kc hk nB1
   replace nB2 := kc hk nB2
   replace nB3 := kc hk nB3
   replace nR0 := kc hk nR0
   replace nR1 := kc hk nR1
   replace nR2 := kc hk nR2
   replace nR3 := kc hk nR3
   replace nR4 := kc hk nR4
   replace H1 := Lib.hid (H1.out.kept0 hk)
   replace H2 := Lib.hid (H2.out.kept0 hk)
   replace H3 := Lib.hid (H3.out.kept0 hk)
   replace H4 := Lib.hid (H4.out.kept0 hk)
   replace KT := Lib.hid (KT.out.trans0 hk)
   clear hk
   have S1 := Lib.hid hs1
   have S2 := Lib.hid hs2
   have S3 := Lib.hid hs3
   have S4 := Lib.hid hs4
   clear hs1 hs2 hs3 hs4
   go_upto_region 5 with fail
   generalize hW : (ww2.alloc (.cells #[.bool (isNeg y1), .slice b1 (mag y1).length cc1, .bool (isNeg y2), .slice b2 (mag y2).length cc2, .bool (isNeg y3), .slice b3 (mag y3).length cc3, .bool (isNeg y4), .slice b4 (mag y4).length cc4] 148)) = ww3
   have hk : Kept [] ww2 ww3 := by rw [← hW]; exact (Kept.refl [] _).alloc _
   have zzC : ww2.heap.size + 1 = ww3.heap.size := by rw [← hW]; simp
   have hrow := rowB4_at (W := ww3) (g := ww2.heap.size) hW.symm rfl
   have HROW := Lib.hid hrow
   clear hrow hW
   have z3 := hk.size
   replace fR0 := kf hk nR0 fR0
   replace fR1 := kf hk nR1 fR1
   replace fR2 := kf hk nR2 fR2
   replace fR3 := kf hk nR3 fR3
   replace fR4 := kf hk nR4 fR4
   replace nA0 := kc hk nA0
   replace nA1 := kc hk nA1
   replace nA2 := kc hk nA2
   replace nA3 := kc hk nA3
   replace nB0 := kc hk nB0
   replace nB1 := kc hk nB1
   replace nB2 := kc hk nB2
   replace nB3 := kc hk nB3
   replace nR0 := kc hk nR0
   replace nR1 := kc hk nR1
   replace nR2 := kc hk nR2
   replace nR3 := kc hk nR3
   replace nR4 := kc hk nR4
   replace H1 := Lib.hid (H1.out.kept0 hk)
   replace H2 := Lib.hid (H2.out.kept0 hk)
   replace H3 := Lib.hid (H3.out.kept0 hk)
   replace H4 := Lib.hid (H4.out.kept0 hk)
   replace S1 := Lib.hid (S1.out.kept0 hk)
   replace S2 := Lib.hid (S2.out.kept0 hk)
   replace S3 := Lib.hid (S3.out.kept0 hk)
   replace S4 := Lib.hid (S4.out.kept0 hk)
   replace KT := Lib.hid (KT.out.trans0 hk)
   clear hk
   have HOK := Lib.hid (okB4 S1.out S2.out S3.out S4.out o1 o2 o3 o4)
   clear S1 S2 S3 S4
   have kr := Lib.hid (Kept.refl [w.heap.size + 1 + 1] ww3)
   go_region_held3 (fun w' => Hid (Kept [w.heap.size + 1 + 1] ww3 w'))
    ((with_reducible first | exact Kept.set5 (by assumption) | exact Kept.drewH (by assumption) | exact Lib.hid (Kept.trans0 (Hid.out (by assumption)) (by assumption)) | exact Lib.hid ((Kept.refl _ _).drew)))
    (first
     | (go_at_call 152; with_reducible show Calls _ _ #[Value.func (Fn.func 151) #[] #[], _] _ _; go_split_ands; refine (leastOf_isBelow_four _ y1 y2 y3 y4 tm _ _ _ _ _ _ _ _ _ (HROW.out.kept0 ((Kept.refl [] _).drew)) (HOK.out.kept0 ((Kept.refl [] _).drew)) HTM.out).mono ?_; intro e v1 hh; unfold BigN at hh; obtain ⟨a1, c1, hh, hs1, hk1⟩ := hh; subst hh)
     | (go_at_call 152; with_reducible show Calls _ _ #[Value.func (Fn.func 130) #[] #[], _] _ _; go_split_ands; refine (leastOf_isAbove_four _ y1 y2 y3 y4 tx _ _ _ _ _ _ _ _ _ (HROW.out.kept0 (((Kept.refl [] _).drew).trans0 hk1)) (HOK.out.kept0 (((Kept.refl [] _).drew).trans0 hk1)) HTX.out).mono ?_; intro e v2 hh; unfold BigN at hh; obtain ⟨a2, c2, hh, hs2, hk2⟩ := hh; subst hh)
     | (go_at_call 163; go_split_ands; refine (outOfUnits_any k _ _ _ _ _ _ tm tx _ hk96 hk16 (hs1.kept0 hk2) hs2 om ox9).mono ?_; intro e v3 hh; unfold SpanR at hh; obtain ⟨a3, c3, b3, d3, hh, hs3, hs4, hf3, hf4, hne, hk3⟩ := hh; subst hh; have hkr := ((((Kept.refl [] ww3).drew).trans0 hk1).trans0 hk2).trans0 hk3; have rg0 := hkr.cell (p := ⟨w.heap.size + 1 + 1, 0, none⟩) nR0.out (by simp); have rg1 := hkr.cell (p := ⟨w.heap.size + 1 + 1, 1, none⟩) nR1.out (by simp); have rg2 := hkr.cell (p := ⟨w.heap.size + 1 + 1, 2, none⟩) nR2.out (by simp); have rg3 := hkr.cell (p := ⟨w.heap.size + 1 + 1, 3, none⟩) nR3.out (by simp); have rg4 := hkr.cell (p := ⟨w.heap.size + 1 + 1, 4, none⟩) nR4.out (by simp); have ru0 := hkr.free' (p := ⟨w.heap.size + 1 + 1, 0, none⟩) nR0.out fR0.out (by simp); have ru1 := hkr.free' (p := ⟨w.heap.size + 1 + 1, 1, none⟩) nR1.out fR1.out (by simp); have ru2 := hkr.free' (p := ⟨w.heap.size + 1 + 1, 2, none⟩) nR2.out fR2.out (by simp); have ru3 := hkr.free' (p := ⟨w.heap.size + 1 + 1, 3, none⟩) nR3.out fR3.out (by simp); have ru4 := hkr.free' (p := ⟨w.heap.size + 1 + 1, 4, none⟩) nR4.out fR4.out (by simp); have z12 := ((((Kept.refl [] ww3).drew).trans0 hk1).trans0 hk2).size; (try simp only [World.size_drew] at z12)))
   clear kr
   have hk := hkr
   clear hkr hs1 hs2 hk1 hk2 hk3
   clear HROW HOK
   rw [← HR.out] at hs3 hs4 hf3 hf4 hne ⊢
   have z4 := hk.size
   replace fR0 := kf hk nR0 fR0
   replace fR1 := kf hk nR1 fR1
   replace fR2 := kf hk nR2 fR2
   replace fR3 := kf hk nR3 fR3
   replace fR4 := kf hk nR4 fR4
   replace nA0 := kc hk nA0
   replace nA1 := kc hk nA1
   replace nA2 := kc hk nA2
   replace nA3 := kc hk nA3
   replace nB0 := kc hk nB0
   replace nB1 := kc hk nB1
   replace nB2 := kc hk nB2
   replace nB3 := kc hk nB3
   replace nR0 := kc hk nR0
   replace nR1 := kc hk nR1
   replace nR2 := kc hk nR2
   replace nR3 := kc hk nR3
   replace nR4 := kc hk nR4
   replace H1 := Lib.hid (H1.out.kept0 hk)
   replace H2 := Lib.hid (H2.out.kept0 hk)
   replace H3 := Lib.hid (H3.out.kept0 hk)
   replace H4 := Lib.hid (H4.out.kept0 hk)
   replace KT := Lib.hid (KT.out.trans0 hk)
   clear hk
   have hs3 := Lib.hid hs3
   have hs4 := Lib.hid hs4
   have HNE := Lib.hid hne
   have G3 := Lib.hid (hf3.mono (B' := w.heap.size + 1 + 1 + 1) (by omega))
   have G4 := Lib.hid (hf4.mono (B' := w.heap.size + 1 + 1 + 1) (by omega))
   clear hf3 hf4 hne
   generalize hW : (((((v3.setCell ⟨w.heap.size + 1 + 1, 0, none⟩ (.int .i64 r.code)).setCell ⟨w.heap.size + 1 + 1, 1, none⟩ (.bool (isNeg r.lo))).setCell ⟨w.heap.size + 1 + 1, 2, none⟩ (.slice a3 (mag r.lo).length c3)).setCell ⟨w.heap.size + 1 + 1, 3, none⟩ (.bool (isNeg r.hi))).setCell ⟨w.heap.size + 1 + 1, 4, none⟩ (.slice b3 (mag r.hi).length d3)) = ww5
   have hk : Kept [w.heap.size + 1 + 1] v3 ww5 := by rw [← hW]; exact (((((Kept.refl _ _).setCell _ _ (by simp)).setCell _ _ (by simp)).setCell _ _ (by simp)).setCell _ _ (by simp)).setCell _ _ (by simp)
   have hfz : ∀ x, ww5.frozen? x = v3.frozen? x := by rw [← hW]; intro x; simp only [World.frozen?_setCell]
   obtain ⟨e0, e1, e2, e3, e4⟩ := st5 hW.symm nR0.out nR1.out nR2.out nR3.out nR4.out
   have z5 := hk.size
   replace fR0 := kz hfz fR0
   replace fR1 := kz hfz fR1
   replace fR2 := kz hfz fR2
   replace fR3 := kz hfz fR3
   replace fR4 := kz hfz fR4
   replace nA0 := kd hk nA0 (by simp <;> omega)
   replace nA1 := kd hk nA1 (by simp <;> omega)
   replace nA2 := kd hk nA2 (by simp <;> omega)
   replace nA3 := kd hk nA3 (by simp <;> omega)
   replace nB0 := kd hk nB0 (by simp <;> omega)
   replace nB1 := kd hk nB1 (by simp <;> omega)
   replace nB2 := kd hk nB2 (by simp <;> omega)
   replace nB3 := kd hk nB3 (by simp <;> omega)
   replace H1 := Lib.hid (H1.out.kept hk (fun hn y hy hm => by have h9 := F1.out hn y hy; simp at hm; omega))
   replace H2 := Lib.hid (H2.out.kept hk (fun hn y hy hm => by have h9 := F2.out hn y hy; simp at hm; omega))
   replace H3 := Lib.hid (H3.out.kept hk (fun hn y hy hm => by have h9 := F3.out hn y hy; simp at hm; omega))
   replace H4 := Lib.hid (H4.out.kept hk (fun hn y hy hm => by have h9 := F4.out hn y hy; simp at hm; omega))
   replace hs3 := Lib.hid (hs3.out.kept hk (fun hn y hy hm => by have h9 := G3.out hn y hy; simp at hm; omega))
   replace hs4 := Lib.hid (hs4.out.kept hk (fun hn y hy hm => by have h9 := G4.out hn y hy; simp at hm; omega))
   replace nR0 := Lib.hid e0
   replace nR1 := Lib.hid e1
   replace nR2 := Lib.hid e2
   replace nR3 := Lib.hid e3
   replace nR4 := Lib.hid e4
   replace KT := Lib.hid (KT.out.trans hk (fun x hx hlt => by simp at hx; omega))
   clear hk hfz hW e0 e1 e2 e3 e4
   go_wp2_with fail
   have e0 := nR0.out
   have e1 := nR1.out
   have e2 := nR2.out
   have e3 := nR3.out
   have e4 := nR4.out
   refine bodyPost_ret (v := .agg #[.int .i64 r.code, .bool (isNeg r.lo), .slice a3 (mag r.lo).length c3, .bool (isNeg r.hi), .slice b3 (mag r.hi).length d3]) (by simp [results, Tryz.results94, go_sem, e0, e1, e2, e3, e4]) rfl ?_
   exact ⟨a3, c3, b3, d3, rfl, hs3.out, hs4.out, G3.out.mono (by omega), G4.out.mono (by omega), HNE.out, KT.out⟩
  ·skip
   rw [show mulS P p xs q ys p' xs' q' ys' = noSpan (spanFault2 p xs q ys p' xs' q' ys') from askS_bad hP hz]
   obtain ⟨f, hf⟩ : ∃ f, f = spanFault2 p xs q ys p' xs' q' ys' := ⟨_, rfl⟩
   have HZ := Lib.hid (show precS P (spanFault2 p xs q ys p' xs' q' ys') = f by unfold precS; rw [if_pos hP]; exact hf.symm)
   rw [← hf]
   have hne : (f == 0) = false := by rw [beq_eq_false_iff_ne, hf]; exact hz
   clear hf hz hP
   go_enter Tryz.func94, Tryz.ntmps94
   go_wp2_with fail
   generalize hW : (((w.alloc (.cells #[.bool p, .slice a n c, .bool q, .slice b m d] 26)).alloc (.cells #[.bool p', .slice a' n' c', .bool q', .slice b' m' d'] 26)).alloc (.cells #[.int .i64 0, .bool false, .slice none 0 0, .bool false, .slice none 0 0] 28)) = ww0
   have hkk : Kept [] (((w.alloc (.cells #[.bool p, .slice a n c, .bool q, .slice b m d] 26)).alloc (.cells #[.bool p', .slice a' n' c', .bool q', .slice b' m' d'] 26)).alloc (.cells #[.int .i64 0, .bool false, .slice none 0 0, .bool false, .slice none 0 0] 28)) ww0 := by rw [hW]; exact Kept.refl _ _
   have zzA : w.heap.size + 1 + 1 + 1 = ww0.heap.size := by rw [← hW]; simp
   obtain ⟨⟨nA0, nA1, nA2, nA3⟩, _⟩ := tp4 hkk.peel.peel (g := w.heap.size) (by simp) (by simp)
   obtain ⟨⟨nB0, nB1, nB2, nB3⟩, _⟩ := tp4 hkk.peel (g := w.heap.size + 1) (by simp) (by simp)
   obtain ⟨⟨nR0, nR1, nR2, nR3, nR4⟩, fR0, fR1, fR2, fR3, fR4⟩ := tp5 hkk (g := w.heap.size + 1 + 1) (by simp) (by simp)
   have hk := hkk.peel.peel.peel
   clear hkk hW
   have z0 := hk.size
   have KT := Lib.hid hk
   clear hk
   replace H1 := Lib.hid (H1.out.kept0 KT.out)
   replace H2 := Lib.hid (H2.out.kept0 KT.out)
   replace H3 := Lib.hid (H3.out.kept0 KT.out)
   replace H4 := Lib.hid (H4.out.kept0 KT.out)
   refine (precisionFault_two _ _ _ _ _ _ _ _ _ _ _ _ _ _ _ _ _ _ _ _ _ _ _ (by omega) H1.out H2.out H3.out H4.out).mono ?_
   rintro e ww1 ⟨rfl, hk⟩
   rw [HZ.out]
   have z1 := hk.size
   replace fR0 := kf hk nR0 fR0
   replace fR1 := kf hk nR1 fR1
   replace fR2 := kf hk nR2 fR2
   replace fR3 := kf hk nR3 fR3
   replace fR4 := kf hk nR4 fR4
   replace nA0 := kc hk nA0
   replace nA1 := kc hk nA1
   replace nA2 := kc hk nA2
   replace nA3 := kc hk nA3
   replace nB0 := kc hk nB0
   replace nB1 := kc hk nB1
   replace nB2 := kc hk nB2
   replace nB3 := kc hk nB3
   replace nR0 := kc hk nR0
   replace nR1 := kc hk nR1
   replace nR2 := kc hk nR2
   replace nR3 := kc hk nR3
   replace nR4 := kc hk nR4
   replace H1 := Lib.hid (H1.out.kept0 hk)
   replace H2 := Lib.hid (H2.out.kept0 hk)
   replace H3 := Lib.hid (H3.out.kept0 hk)
   replace H4 := Lib.hid (H4.out.kept0 hk)
   replace KT := Lib.hid (KT.out.trans0 hk)
   clear hk
   have tA0 := nA0.out
   have tA1 := nA1.out
   have tA2 := nA2.out
   have tA3 := nA3.out
   have tB0 := nB0.out
   have tB1 := nB1.out
   have tB2 := nB2.out
   have tB3 := nB3.out
   have tR0 := nR0.out
   have tR1 := nR1.out
   have tR2 := nR2.out
   have tR3 := nR3.out
   have tR4 := nR4.out
   have uR0 := fR0.out
   have uR1 := fR1.out
   have uR2 := fR2.out
   have uR3 := fR3.out
   have uR4 := fR4.out
   go_wp2_with fail
   clear tA0 tA1 tA2 tA3 tB0 tB1 tB2 tB3 tR0 tR1 tR2 tR3 tR4 uR0 uR1 uR2 uR3 uR4
   generalize hW : (((((ww1.setCell ⟨w.heap.size + 1 + 1, 0, none⟩ (.int .i64 f)).setCell ⟨w.heap.size + 1 + 1, 1, none⟩ (.bool false)).setCell ⟨w.heap.size + 1 + 1, 2, none⟩ (.slice none 0 0)).setCell ⟨w.heap.size + 1 + 1, 3, none⟩ (.bool false)).setCell ⟨w.heap.size + 1 + 1, 4, none⟩ (.slice none 0 0)) = ww2
   have hk : Kept [w.heap.size + 1 + 1] ww1 ww2 := by rw [← hW]; exact (((((Kept.refl _ _).setCell _ _ (by simp)).setCell _ _ (by simp)).setCell _ _ (by simp)).setCell _ _ (by simp)).setCell _ _ (by simp)
   have hfz : ∀ x, ww2.frozen? x = ww1.frozen? x := by rw [← hW]; intro x; simp only [World.frozen?_setCell]
   obtain ⟨e0, e1, e2, e3, e4⟩ := st5 hW.symm nR0.out nR1.out nR2.out nR3.out nR4.out
   have z2 := hk.size
   replace fR0 := kz hfz fR0
   replace fR1 := kz hfz fR1
   replace fR2 := kz hfz fR2
   replace fR3 := kz hfz fR3
   replace fR4 := kz hfz fR4
   replace nA0 := kd hk nA0 (by simp <;> omega)
   replace nA1 := kd hk nA1 (by simp <;> omega)
   replace nA2 := kd hk nA2 (by simp <;> omega)
   replace nA3 := kd hk nA3 (by simp <;> omega)
   replace nB0 := kd hk nB0 (by simp <;> omega)
   replace nB1 := kd hk nB1 (by simp <;> omega)
   replace nB2 := kd hk nB2 (by simp <;> omega)
   replace nB3 := kd hk nB3 (by simp <;> omega)
   replace H1 := Lib.hid (H1.out.kept hk (fun hn y hy hm => by have h9 := F1.out hn y hy; simp at hm; omega))
   replace H2 := Lib.hid (H2.out.kept hk (fun hn y hy hm => by have h9 := F2.out hn y hy; simp at hm; omega))
   replace H3 := Lib.hid (H3.out.kept hk (fun hn y hy hm => by have h9 := F3.out hn y hy; simp at hm; omega))
   replace H4 := Lib.hid (H4.out.kept hk (fun hn y hy hm => by have h9 := F4.out hn y hy; simp at hm; omega))
   replace nR0 := Lib.hid e0
   replace nR1 := Lib.hid e1
   replace nR2 := Lib.hid e2
   replace nR3 := Lib.hid e3
   replace nR4 := Lib.hid e4
   replace KT := Lib.hid (KT.out.trans hk (fun x hx hlt => by simp at hx; omega))
   clear hk hfz hW e0 e1 e2 e3 e4
   have e0 := nR0.out
   have e1 := nR1.out
   have e2 := nR2.out
   have e3 := nR3.out
   have e4 := nR4.out
   refine bodyPost_ret (v := .agg #[.int .i64 f, .bool false, .slice none 0 0, .bool false, .slice none 0 0]) (by simp [results, Tryz.results94, go_sem, e0, e1, e2, e3, e4]) rfl ?_
   exact spanR_no KT.out
 ·skip
  rw [show mulS P p xs q ys p' xs' q' ys' = noSpan 3 from askS_no hP]
  have HZ := Lib.hid (show precS P (spanFault2 p xs q ys p' xs' q' ys') = 3 from if_neg hP)
  clear hP
  go_enter Tryz.func94, Tryz.ntmps94
  go_wp2_with fail
  generalize hW : (((w.alloc (.cells #[.bool p, .slice a n c, .bool q, .slice b m d] 26)).alloc (.cells #[.bool p', .slice a' n' c', .bool q', .slice b' m' d'] 26)).alloc (.cells #[.int .i64 0, .bool false, .slice none 0 0, .bool false, .slice none 0 0] 28)) = ww0
  have hkk : Kept [] (((w.alloc (.cells #[.bool p, .slice a n c, .bool q, .slice b m d] 26)).alloc (.cells #[.bool p', .slice a' n' c', .bool q', .slice b' m' d'] 26)).alloc (.cells #[.int .i64 0, .bool false, .slice none 0 0, .bool false, .slice none 0 0] 28)) ww0 := by rw [hW]; exact Kept.refl _ _
  have zzA : w.heap.size + 1 + 1 + 1 = ww0.heap.size := by rw [← hW]; simp
  obtain ⟨⟨nA0, nA1, nA2, nA3⟩, _⟩ := tp4 hkk.peel.peel (g := w.heap.size) (by simp) (by simp)
  obtain ⟨⟨nB0, nB1, nB2, nB3⟩, _⟩ := tp4 hkk.peel (g := w.heap.size + 1) (by simp) (by simp)
  obtain ⟨⟨nR0, nR1, nR2, nR3, nR4⟩, fR0, fR1, fR2, fR3, fR4⟩ := tp5 hkk (g := w.heap.size + 1 + 1) (by simp) (by simp)
  have hk := hkk.peel.peel.peel
  clear hkk hW
  have z0 := hk.size
  have KT := Lib.hid hk
  clear hk
  replace H1 := Lib.hid (H1.out.kept0 KT.out)
  replace H2 := Lib.hid (H2.out.kept0 KT.out)
  replace H3 := Lib.hid (H3.out.kept0 KT.out)
  replace H4 := Lib.hid (H4.out.kept0 KT.out)
  refine (precisionFault_two _ _ _ _ _ _ _ _ _ _ _ _ _ _ _ _ _ _ _ _ _ _ _ (by omega) H1.out H2.out H3.out H4.out).mono ?_
  rintro e ww1 ⟨rfl, hk⟩
  rw [HZ.out]
  have z1 := hk.size
  replace fR0 := kf hk nR0 fR0
  replace fR1 := kf hk nR1 fR1
  replace fR2 := kf hk nR2 fR2
  replace fR3 := kf hk nR3 fR3
  replace fR4 := kf hk nR4 fR4
  replace nA0 := kc hk nA0
  replace nA1 := kc hk nA1
  replace nA2 := kc hk nA2
  replace nA3 := kc hk nA3
  replace nB0 := kc hk nB0
  replace nB1 := kc hk nB1
  replace nB2 := kc hk nB2
  replace nB3 := kc hk nB3
  replace nR0 := kc hk nR0
  replace nR1 := kc hk nR1
  replace nR2 := kc hk nR2
  replace nR3 := kc hk nR3
  replace nR4 := kc hk nR4
  replace H1 := Lib.hid (H1.out.kept0 hk)
  replace H2 := Lib.hid (H2.out.kept0 hk)
  replace H3 := Lib.hid (H3.out.kept0 hk)
  replace H4 := Lib.hid (H4.out.kept0 hk)
  replace KT := Lib.hid (KT.out.trans0 hk)
  clear hk
  have tA0 := nA0.out
  have tA1 := nA1.out
  have tA2 := nA2.out
  have tA3 := nA3.out
  have tB0 := nB0.out
  have tB1 := nB1.out
  have tB2 := nB2.out
  have tB3 := nB3.out
  have tR0 := nR0.out
  have tR1 := nR1.out
  have tR2 := nR2.out
  have tR3 := nR3.out
  have tR4 := nR4.out
  have uR0 := fR0.out
  have uR1 := fR1.out
  have uR2 := fR2.out
  have uR3 := fR3.out
  have uR4 := fR4.out
  go_wp2_with fail
  clear tA0 tA1 tA2 tA3 tB0 tB1 tB2 tB3 tR0 tR1 tR2 tR3 tR4 uR0 uR1 uR2 uR3 uR4
  generalize hW : (((((ww1.setCell ⟨w.heap.size + 1 + 1, 0, none⟩ (.int .i64 3)).setCell ⟨w.heap.size + 1 + 1, 1, none⟩ (.bool false)).setCell ⟨w.heap.size + 1 + 1, 2, none⟩ (.slice none 0 0)).setCell ⟨w.heap.size + 1 + 1, 3, none⟩ (.bool false)).setCell ⟨w.heap.size + 1 + 1, 4, none⟩ (.slice none 0 0)) = ww2
  have hk : Kept [w.heap.size + 1 + 1] ww1 ww2 := by rw [← hW]; exact (((((Kept.refl _ _).setCell _ _ (by simp)).setCell _ _ (by simp)).setCell _ _ (by simp)).setCell _ _ (by simp)).setCell _ _ (by simp)
  have hfz : ∀ x, ww2.frozen? x = ww1.frozen? x := by rw [← hW]; intro x; simp only [World.frozen?_setCell]
  obtain ⟨e0, e1, e2, e3, e4⟩ := st5 hW.symm nR0.out nR1.out nR2.out nR3.out nR4.out
  have z2 := hk.size
  replace fR0 := kz hfz fR0
  replace fR1 := kz hfz fR1
  replace fR2 := kz hfz fR2
  replace fR3 := kz hfz fR3
  replace fR4 := kz hfz fR4
  replace nA0 := kd hk nA0 (by simp <;> omega)
  replace nA1 := kd hk nA1 (by simp <;> omega)
  replace nA2 := kd hk nA2 (by simp <;> omega)
  replace nA3 := kd hk nA3 (by simp <;> omega)
  replace nB0 := kd hk nB0 (by simp <;> omega)
  replace nB1 := kd hk nB1 (by simp <;> omega)
  replace nB2 := kd hk nB2 (by simp <;> omega)
  replace nB3 := kd hk nB3 (by simp <;> omega)
  replace H1 := Lib.hid (H1.out.kept hk (fun hn y hy hm => by have h9 := F1.out hn y hy; simp at hm; omega))
  replace H2 := Lib.hid (H2.out.kept hk (fun hn y hy hm => by have h9 := F2.out hn y hy; simp at hm; omega))
  replace H3 := Lib.hid (H3.out.kept hk (fun hn y hy hm => by have h9 := F3.out hn y hy; simp at hm; omega))
  replace H4 := Lib.hid (H4.out.kept hk (fun hn y hy hm => by have h9 := F4.out hn y hy; simp at hm; omega))
  replace nR0 := Lib.hid e0
  replace nR1 := Lib.hid e1
  replace nR2 := Lib.hid e2
  replace nR3 := Lib.hid e3
  replace nR4 := Lib.hid e4
  replace KT := Lib.hid (KT.out.trans hk (fun x hx hlt => by simp at hx; omega))
  clear hk hfz hW e0 e1 e2 e3 e4
  have e0 := nR0.out
  have e1 := nR1.out
  have e2 := nR2.out
  have e3 := nR3.out
  have e4 := nR4.out
  refine bodyPost_ret (v := .agg #[.int .i64 3, .bool false, .slice none 0 0, .bool false, .slice none 0 0]) (by simp [results, Tryz.results94, go_sem, e0, e1, e2, e3, e4]) rfl ?_
  exact spanR_no KT.out

end Go.Proofs.YtfafjijoeanbhaaGreat
