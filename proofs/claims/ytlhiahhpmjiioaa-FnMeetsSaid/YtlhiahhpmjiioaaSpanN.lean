/-
  Contracts of HullSpan and its model. Conditions: the limbs read as lists of numbers.
-/
import Derived.Deep.RegionHeld3
import Derived.Deep.DrawnRows
import Derived.Deep.DeepCutAuto
import Derived.Test.YtlhiahhpmjiioaaSpanM
namespace Go.Proofs.Ytlhiahhpmjiioaa
open Go.RowKit

theorem minZ_len {p q : Bool} {xs ys : List Int} (hx : BigOk p xs) (hy : BigOk q ys) (lx : xs.length ≤ 20) (ly : ys.length ≤ 20) : (mag (minZ (sv p xs) (sv q ys))).length ≤ 20 := by
  rcases minZ_cases (sv p xs) (sv q ys) with ⟨e, _⟩ | ⟨e, _⟩
  · rw [e, hx.mag]; exact lx
  · rw [e, hy.mag]; exact ly
theorem maxZ_len {p q : Bool} {xs ys : List Int} (hx : BigOk p xs) (hy : BigOk q ys) (lx : xs.length ≤ 20) (ly : ys.length ≤ 20) : (mag (maxZ (sv p xs) (sv q ys))).length ≤ 20 := by
  rcases maxZ_cases (sv p xs) (sv q ys) with ⟨e, _⟩ | ⟨e, _⟩
  · rw [e, hx.mag]; exact lx
  · rw [e, hy.mag]; exact ly

set_option maxHeartbeats 8000000 in
set_option maxRecDepth 20000 in
theorem sHullSpan_any (p q : Bool) (a b : Option Addr) (n c m d : Nat) (xs ys : List Int) (p' q' : Bool) (a' b' : Option Addr) (n' c' m' d' : Nat) (xs' ys' : List Int) (w : World) (h1 : Sl w a n c xs) (h2 : Sl w b m d ys) (h3 : Sl w a' n' c' xs') (h4 : Sl w b' m' d' ys') :
    Calls Try.prog 12 #[.agg #[.bool p, .slice a n c, .bool q, .slice b m d], .agg #[.bool p', .slice a' n' c', .bool q', .slice b' m' d']] w (SpanM w (hullS p xs q ys p' xs' q' ys')) := by
  have H1 := Lib.hid h1
  have H2 := Lib.hid h2
  have H3 := Lib.hid h3
  have H4 := Lib.hid h4
  clear h1 h2 h3 h4
  have F1 := Lib.hid H1.out.lt
  have F2 := Lib.hid H2.out.lt
  have F3 := Lib.hid H3.out.lt
  have F4 := Lib.hid H4.out.lt
  by_cases hz : spanFault2 p xs q ys p' xs' q' ys' = 0
  · skip
    obtain ⟨t1, ht1⟩ : ∃ t, t = minZ (sv p xs) (sv p' xs') := ⟨_, rfl⟩
    obtain ⟨t2, ht2⟩ : ∃ t, t = maxZ (sv q ys) (sv q' ys') := ⟨_, rfl⟩
    have hz0 := hz
    have HZ := Lib.hid hz
    obtain ⟨ox, oy⟩ := spanFault2_zero hz
    have OX := Lib.hid ox
    have OY := Lib.hid oy
    clear ox oy hz
    have B1 := Lib.hid OX.out.lo
    have B2 := Lib.hid OX.out.hi
    have B3 := Lib.hid OY.out.lo
    have B4 := Lib.hid OY.out.hi
    have X1 := Lib.hid OX.out.lx
    have X2 := Lib.hid OX.out.ly
    have X3 := Lib.hid OY.out.lx
    have X4 := Lib.hid OY.out.ly
    rw [show hullS p xs q ys p' xs' q' ys' = ⟨0, t1, t2⟩ from by unfold hullS; rw [twoS_zero hz0, ← ht1, ← ht2, fitS_ok (by rw [ht1]; exact minZ_len B1.out B3.out X1.out X3.out) (by rw [ht2]; exact maxZ_len B2.out B4.out X2.out X4.out)]]
    have HT1 := Lib.hid ht1
    have HT2 := Lib.hid ht2
    clear ht1 ht2 hz0
    go_enter Try.func12, Try.ntmps12
    go_wp2_with fail
    generalize hW : (((w.alloc (.cells #[.bool p, .slice a n c, .bool q, .slice b m d] 28)).alloc (.cells #[.bool p', .slice a' n' c', .bool q', .slice b' m' d'] 28)).alloc (.cells #[.int .i64 0, .bool false, .slice none 0 0, .bool false, .slice none 0 0] 32)) = ww0
    have hkk : Kept [] (((w.alloc (.cells #[.bool p, .slice a n c, .bool q, .slice b m d] 28)).alloc (.cells #[.bool p', .slice a' n' c', .bool q', .slice b' m' d'] 28)).alloc (.cells #[.int .i64 0, .bool false, .slice none 0 0, .bool false, .slice none 0 0] 32)) ww0 := by rw [hW]; exact Kept.refl _ _
    have zzA : w.heap.size + 1 + 1 + 1 = ww0.heap.size := by rw [← hW]; simp
    obtain ⟨⟨nA0, nA1, nA2, nA3⟩, _⟩ := tp4 hkk.peel.peel (g := w.heap.size) (by simp) (by simp)
    obtain ⟨⟨nB0, nB1, nB2, nB3⟩, _⟩ := tp4 hkk.peel (g := w.heap.size + 1) (by simp) (by simp)
    obtain ⟨⟨nR0, nR1, nR2, nR3, nR4⟩, fR0, fR1, fR2, fR3, fR4⟩ := tp5 hkk (g := w.heap.size + 1 + 1) (by simp) (by simp)
    have hk := hkk.peel.peel.peel
    clear hkk hW
    have z0 := hk.size
    have KT := Lib.hid hk
    clear hk
    replace H1 := Lib.hid (H1.out.kept0 KT.out)
    replace H2 := Lib.hid (H2.out.kept0 KT.out)
    replace H3 := Lib.hid (H3.out.kept0 KT.out)
    replace H4 := Lib.hid (H4.out.kept0 KT.out)
    refine (l3Two_any _ _ _ _ _ _ _ _ _ _ _ _ _ _ _ _ _ _ _ _ _ H1.out H2.out H3.out H4.out).mono ?_
    rintro e ww1 ⟨rfl, hk⟩
    rw [HZ.out]
    have z1 := hk.size
    replace fR0 := kf hk nR0 fR0
    replace fR1 := kf hk nR1 fR1
    replace fR2 := kf hk nR2 fR2
    replace fR3 := kf hk nR3 fR3
    replace fR4 := kf hk nR4 fR4
    replace nA0 := kc hk nA0
    replace nA1 := kc hk nA1
    replace nA2 := kc hk nA2
    replace nA3 := kc hk nA3
    replace nB0 := kc hk nB0
    replace nB1 := kc hk nB1
    replace nB2 := kc hk nB2
    replace nB3 := kc hk nB3
    replace nR0 := kc hk nR0
    replace nR1 := kc hk nR1
    replace nR2 := kc hk nR2
    replace nR3 := kc hk nR3
    replace nR4 := kc hk nR4
    replace H1 := Lib.hid (H1.out.kept0 hk)
    replace H2 := Lib.hid (H2.out.kept0 hk)
    replace H3 := Lib.hid (H3.out.kept0 hk)
    replace H4 := Lib.hid (H4.out.kept0 hk)
    replace KT := Lib.hid (KT.out.trans0 hk)
    clear hk
    have tA0 := nA0.out
    have tA1 := nA1.out
    have tA2 := nA2.out
    have tA3 := nA3.out
    have tB0 := nB0.out
    have tB1 := nB1.out
    have tB2 := nB2.out
    have tB3 := nB3.out
    go_wp2_with fail
    clear tA0 tA1 tA2 tA3 tB0 tB1 tB2 tB3
    refine (l3Hull_any _ _ _ _ _ _ _ _ _ _ _ _ _ _ _ _ _ _ _ _ _ _ _ H1.out H2.out H3.out H4.out OX.out OY.out HT1.out HT2.out).mono ?_
    rintro e ww2 ⟨a1, c1, a2, c2, rfl, hs1, hs2, hf1, hf2, hk⟩
    have z2 := hk.size
    replace fR0 := kf hk nR0 fR0
    replace fR1 := kf hk nR1 fR1
    replace fR2 := kf hk nR2 fR2
    replace fR3 := kf hk nR3 fR3
    replace fR4 := kf hk nR4 fR4
    replace nA0 := kc hk nA0
    replace nA1 := kc hk nA1
    replace nA2 := kc hk nA2
    replace nA3 := kc hk nA3
    replace nB0 := kc hk nB0
    replace nB1 := kc hk nB1
    replace nB2 := kc hk nB2
    replace nB3 := kc hk nB3
    replace nR0 := kc hk nR0
    replace nR1 := kc hk nR1
    replace nR2 := kc hk nR2
    replace nR3 := kc hk nR3
    replace nR4 := kc hk nR4
    replace H1 := Lib.hid (H1.out.kept0 hk)
    replace H2 := Lib.hid (H2.out.kept0 hk)
    replace H3 := Lib.hid (H3.out.kept0 hk)
    replace H4 := Lib.hid (H4.out.kept0 hk)
    replace KT := Lib.hid (KT.out.trans0 hk)
    clear hk
    have hs1 := Lib.hid hs1
    have hs2 := Lib.hid hs2
    have G1 := Lib.hid (hf1.mono (B' := w.heap.size + 1 + 1 + 1) (by omega))
    have G2 := Lib.hid (hf2.mono (B' := w.heap.size + 1 + 1 + 1) (by omega))
    clear hf1 hf2
    have tR0 := nR0.out
    have tR1 := nR1.out
    have tR2 := nR2.out
    have tR3 := nR3.out
    have tR4 := nR4.out
    have uR0 := fR0.out
    have uR1 := fR1.out
    have uR2 := fR2.out
    have uR3 := fR3.out
    have uR4 := fR4.out
    go_wp2_with fail
    clear tR0 tR1 tR2 tR3 tR4 uR0 uR1 uR2 uR3 uR4
    generalize hW : (((((ww2.setCell ⟨w.heap.size + 1 + 1, 0, none⟩ (.int .i64 0)).setCell ⟨w.heap.size + 1 + 1, 1, none⟩ (.bool (isNeg t1))).setCell ⟨w.heap.size + 1 + 1, 2, none⟩ (.slice a1 (mag t1).length c1)).setCell ⟨w.heap.size + 1 + 1, 3, none⟩ (.bool (isNeg t2))).setCell ⟨w.heap.size + 1 + 1, 4, none⟩ (.slice a2 (mag t2).length c2)) = ww3
    have hk : Kept [w.heap.size + 1 + 1] ww2 ww3 := by rw [← hW]; exact (((((Kept.refl _ _).setCell _ _ (by simp)).setCell _ _ (by simp)).setCell _ _ (by simp)).setCell _ _ (by simp)).setCell _ _ (by simp)
    have hfz : ∀ x, ww3.frozen? x = ww2.frozen? x := by rw [← hW]; intro x; simp only [World.frozen?_setCell]
    obtain ⟨e0, e1, e2, e3, e4⟩ := st5 hW.symm nR0.out nR1.out nR2.out nR3.out nR4.out
    have z3 := hk.size
    replace fR0 := kz hfz fR0
    replace fR1 := kz hfz fR1
    replace fR2 := kz hfz fR2
    replace fR3 := kz hfz fR3
    replace fR4 := kz hfz fR4
    replace nA0 := kd hk nA0 (by simp <;> omega)
    replace nA1 := kd hk nA1 (by simp <;> omega)
    replace nA2 := kd hk nA2 (by simp <;> omega)
    replace nA3 := kd hk nA3 (by simp <;> omega)
    replace nB0 := kd hk nB0 (by simp <;> omega)
    replace nB1 := kd hk nB1 (by simp <;> omega)
    replace nB2 := kd hk nB2 (by simp <;> omega)
    replace nB3 := kd hk nB3 (by simp <;> omega)
    replace H1 := Lib.hid (H1.out.kept hk (fun hn y hy hm => by have h9 := F1.out hn y hy; simp at hm; omega))
    replace H2 := Lib.hid (H2.out.kept hk (fun hn y hy hm => by have h9 := F2.out hn y hy; simp at hm; omega))
    replace H3 := Lib.hid (H3.out.kept hk (fun hn y hy hm => by have h9 := F3.out hn y hy; simp at hm; omega))
    replace H4 := Lib.hid (H4.out.kept hk (fun hn y hy hm => by have h9 := F4.out hn y hy; simp at hm; omega))
    replace hs1 := Lib.hid (hs1.out.kept hk (fun hn y hy hm => by have h9 := G1.out hn y hy; simp at hm; omega))
    replace hs2 := Lib.hid (hs2.out.kept hk (fun hn y hy hm => by have h9 := G2.out hn y hy; simp at hm; omega))
    replace nR0 := Lib.hid e0
    replace nR1 := Lib.hid e1
    replace nR2 := Lib.hid e2
    replace nR3 := Lib.hid e3
    replace nR4 := Lib.hid e4
    replace KT := Lib.hid (KT.out.trans hk (fun x hx hlt => by simp at hx; omega))
    clear hk hfz hW e0 e1 e2 e3 e4
    have e0 := nR0.out
    have e1 := nR1.out
    have e2 := nR2.out
    have e3 := nR3.out
    have e4 := nR4.out
    refine bodyPost_ret (v := .agg #[.int .i64 0, .bool (isNeg t1), .slice a1 (mag t1).length c1, .bool (isNeg t2), .slice a2 (mag t2).length c2]) (by simp [results, Try.results12, go_sem, e0, e1, e2, e3, e4]) rfl ?_
    exact ⟨a1, c1, a2, c2, rfl, hs1.out, hs2.out, G1.out.mono (by omega), G2.out.mono (by omega), KT.out⟩
  · skip
    rw [show hullS p xs q ys p' xs' q' ys' = noSpan (spanFault2 p xs q ys p' xs' q' ys') from twoS_not hz]
    generalize hf : spanFault2 p xs q ys p' xs' q' ys' = f at *
    have hne : (f == 0) = false := by rw [beq_eq_false_iff_ne]; exact hz
    have HZ := Lib.hid hf
    clear hf hz
    go_enter Try.func12, Try.ntmps12
    go_wp2_with fail
    generalize hW : (((w.alloc (.cells #[.bool p, .slice a n c, .bool q, .slice b m d] 28)).alloc (.cells #[.bool p', .slice a' n' c', .bool q', .slice b' m' d'] 28)).alloc (.cells #[.int .i64 0, .bool false, .slice none 0 0, .bool false, .slice none 0 0] 32)) = ww0
    have hkk : Kept [] (((w.alloc (.cells #[.bool p, .slice a n c, .bool q, .slice b m d] 28)).alloc (.cells #[.bool p', .slice a' n' c', .bool q', .slice b' m' d'] 28)).alloc (.cells #[.int .i64 0, .bool false, .slice none 0 0, .bool false, .slice none 0 0] 32)) ww0 := by rw [hW]; exact Kept.refl _ _
    have zzA : w.heap.size + 1 + 1 + 1 = ww0.heap.size := by rw [← hW]; simp
    obtain ⟨⟨nA0, nA1, nA2, nA3⟩, _⟩ := tp4 hkk.peel.peel (g := w.heap.size) (by simp) (by simp)
    obtain ⟨⟨nB0, nB1, nB2, nB3⟩, _⟩ := tp4 hkk.peel (g := w.heap.size + 1) (by simp) (by simp)
    obtain ⟨⟨nR0, nR1, nR2, nR3, nR4⟩, fR0, fR1, fR2, fR3, fR4⟩ := tp5 hkk (g := w.heap.size + 1 + 1) (by simp) (by simp)
    have hk := hkk.peel.peel.peel
    clear hkk hW
    have z0 := hk.size
    have KT := Lib.hid hk
    clear hk
    replace H1 := Lib.hid (H1.out.kept0 KT.out)
    replace H2 := Lib.hid (H2.out.kept0 KT.out)
    replace H3 := Lib.hid (H3.out.kept0 KT.out)
    replace H4 := Lib.hid (H4.out.kept0 KT.out)
    refine (l3Two_any _ _ _ _ _ _ _ _ _ _ _ _ _ _ _ _ _ _ _ _ _ H1.out H2.out H3.out H4.out).mono ?_
    rintro e ww1 ⟨rfl, hk⟩
    rw [HZ.out]
    have z1 := hk.size
    replace fR0 := kf hk nR0 fR0
    replace fR1 := kf hk nR1 fR1
    replace fR2 := kf hk nR2 fR2
    replace fR3 := kf hk nR3 fR3
    replace fR4 := kf hk nR4 fR4
    replace nA0 := kc hk nA0
    replace nA1 := kc hk nA1
    replace nA2 := kc hk nA2
    replace nA3 := kc hk nA3
    replace nB0 := kc hk nB0
    replace nB1 := kc hk nB1
    replace nB2 := kc hk nB2
    replace nB3 := kc hk nB3
    replace nR0 := kc hk nR0
    replace nR1 := kc hk nR1
    replace nR2 := kc hk nR2
    replace nR3 := kc hk nR3
    replace nR4 := kc hk nR4
    replace H1 := Lib.hid (H1.out.kept0 hk)
    replace H2 := Lib.hid (H2.out.kept0 hk)
    replace H3 := Lib.hid (H3.out.kept0 hk)
    replace H4 := Lib.hid (H4.out.kept0 hk)
    replace KT := Lib.hid (KT.out.trans0 hk)
    clear hk
    have tR0 := nR0.out
    have tR1 := nR1.out
    have tR2 := nR2.out
    have tR3 := nR3.out
    have tR4 := nR4.out
    have uR0 := fR0.out
    have uR1 := fR1.out
    have uR2 := fR2.out
    have uR3 := fR3.out
    have uR4 := fR4.out
    go_wp2_with fail
    clear tR0 tR1 tR2 tR3 tR4 uR0 uR1 uR2 uR3 uR4
    generalize hW : (((((ww1.setCell ⟨w.heap.size + 1 + 1, 0, none⟩ (.int .i64 f)).setCell ⟨w.heap.size + 1 + 1, 1, none⟩ (.bool false)).setCell ⟨w.heap.size + 1 + 1, 2, none⟩ (.slice none 0 0)).setCell ⟨w.heap.size + 1 + 1, 3, none⟩ (.bool false)).setCell ⟨w.heap.size + 1 + 1, 4, none⟩ (.slice none 0 0)) = ww2
    have hk : Kept [w.heap.size + 1 + 1] ww1 ww2 := by rw [← hW]; exact (((((Kept.refl _ _).setCell _ _ (by simp)).setCell _ _ (by simp)).setCell _ _ (by simp)).setCell _ _ (by simp)).setCell _ _ (by simp)
    have hfz : ∀ x, ww2.frozen? x = ww1.frozen? x := by rw [← hW]; intro x; simp only [World.frozen?_setCell]
    obtain ⟨e0, e1, e2, e3, e4⟩ := st5 hW.symm nR0.out nR1.out nR2.out nR3.out nR4.out
    have z2 := hk.size
    replace fR0 := kz hfz fR0
    replace fR1 := kz hfz fR1
    replace fR2 := kz hfz fR2
    replace fR3 := kz hfz fR3
    replace fR4 := kz hfz fR4
    replace nA0 := kd hk nA0 (by simp <;> omega)
    replace nA1 := kd hk nA1 (by simp <;> omega)
    replace nA2 := kd hk nA2 (by simp <;> omega)
    replace nA3 := kd hk nA3 (by simp <;> omega)
    replace nB0 := kd hk nB0 (by simp <;> omega)
    replace nB1 := kd hk nB1 (by simp <;> omega)
    replace nB2 := kd hk nB2 (by simp <;> omega)
    replace nB3 := kd hk nB3 (by simp <;> omega)
    replace H1 := Lib.hid (H1.out.kept hk (fun hn y hy hm => by have h9 := F1.out hn y hy; simp at hm; omega))
    replace H2 := Lib.hid (H2.out.kept hk (fun hn y hy hm => by have h9 := F2.out hn y hy; simp at hm; omega))
    replace H3 := Lib.hid (H3.out.kept hk (fun hn y hy hm => by have h9 := F3.out hn y hy; simp at hm; omega))
    replace H4 := Lib.hid (H4.out.kept hk (fun hn y hy hm => by have h9 := F4.out hn y hy; simp at hm; omega))
    replace nR0 := Lib.hid e0
    replace nR1 := Lib.hid e1
    replace nR2 := Lib.hid e2
    replace nR3 := Lib.hid e3
    replace nR4 := Lib.hid e4
    replace KT := Lib.hid (KT.out.trans hk (fun x hx hlt => by simp at hx; omega))
    clear hk hfz hW e0 e1 e2 e3 e4
    have e0 := nR0.out
    have e1 := nR1.out
    have e2 := nR2.out
    have e3 := nR3.out
    have e4 := nR4.out
    refine bodyPost_ret (v := .agg #[.int .i64 f, .bool false, .slice none 0 0, .bool false, .slice none 0 0]) (by simp [results, Try.results12, go_sem, e0, e1, e2, e3, e4]) rfl ?_
    exact spanM_no KT.out

set_option maxHeartbeats 8000000 in
set_option maxRecDepth 20000 in
theorem HullSpan_any (p q : Bool) (a b : Option Addr) (n c m d : Nat) (xs ys : List Int) (p' q' : Bool) (a' b' : Option Addr) (n' c' m' d' : Nat) (xs' ys' : List Int) (w : World) (h1 : Sl w a n c xs) (h2 : Sl w b m d ys) (h3 : Sl w a' n' c' xs') (h4 : Sl w b' m' d' ys') :
    Calls Try.prog 7 #[.agg #[.bool p, .slice a n c, .bool q, .slice b m d], .agg #[.bool p', .slice a' n' c', .bool q', .slice b' m' d']] w (SpanR w (hullS p xs q ys p' xs' q' ys')) := by
  have H1 := Lib.hid h1
  have H2 := Lib.hid h2
  have H3 := Lib.hid h3
  have H4 := Lib.hid h4
  clear h1 h2 h3 h4
  have F1 := Lib.hid H1.out.lt
  have F2 := Lib.hid H2.out.lt
  have F3 := Lib.hid H3.out.lt
  have F4 := Lib.hid H4.out.lt
  by_cases hz : spanFault2 p xs q ys p' xs' q' ys' = 0
  · skip
    obtain ⟨t1, ht1⟩ : ∃ t, t = minZ (sv p xs) (sv p' xs') := ⟨_, rfl⟩
    obtain ⟨t2, ht2⟩ : ∃ t, t = maxZ (sv q ys) (sv q' ys') := ⟨_, rfl⟩
    obtain ⟨r, hr⟩ : ∃ r, r = fitS t1 t2 := ⟨_, rfl⟩
    rw [show hullS p xs q ys p' xs' q' ys' = r from by unfold hullS; rw [twoS_zero hz, hr, ht1, ht2]]
    have HZ := Lib.hid hz
    obtain ⟨ox, oy⟩ := spanFault2_zero hz
    have OX := Lib.hid ox
    have OY := Lib.hid oy
    clear ox oy hz
    have B1 := Lib.hid OX.out.lo
    have B2 := Lib.hid OX.out.hi
    have B3 := Lib.hid OY.out.lo
    have B4 := Lib.hid OY.out.hi
    have X1 := Lib.hid OX.out.lx
    have X2 := Lib.hid OX.out.ly
    have X3 := Lib.hid OY.out.lx
    have X4 := Lib.hid OY.out.ly
    have HZ1 := Lib.hid ht1
    have HZ2 := Lib.hid ht2
    have HR := Lib.hid hr
    clear ht1 ht2 hr
    go_enter Try.func7, Try.ntmps7
    go_wp2_with fail
    generalize hW : (((w.alloc (.cells #[.bool p, .slice a n c, .bool q, .slice b m d] 28)).alloc (.cells #[.bool p', .slice a' n' c', .bool q', .slice b' m' d'] 28)).alloc (.cells #[.int .i64 0, .bool false, .slice none 0 0, .bool false, .slice none 0 0] 32)) = ww0
    have hkk : Kept [] (((w.alloc (.cells #[.bool p, .slice a n c, .bool q, .slice b m d] 28)).alloc (.cells #[.bool p', .slice a' n' c', .bool q', .slice b' m' d'] 28)).alloc (.cells #[.int .i64 0, .bool false, .slice none 0 0, .bool false, .slice none 0 0] 32)) ww0 := by rw [hW]; exact Kept.refl _ _
    have zzA : w.heap.size + 1 + 1 + 1 = ww0.heap.size := by rw [← hW]; simp
    obtain ⟨⟨nA0, nA1, nA2, nA3⟩, _⟩ := tp4 hkk.peel.peel (g := w.heap.size) (by simp) (by simp)
    obtain ⟨⟨nB0, nB1, nB2, nB3⟩, _⟩ := tp4 hkk.peel (g := w.heap.size + 1) (by simp) (by simp)
    obtain ⟨⟨nR0, nR1, nR2, nR3, nR4⟩, fR0, fR1, fR2, fR3, fR4⟩ := tp5 hkk (g := w.heap.size + 1 + 1) (by simp) (by simp)
    have hk := hkk.peel.peel.peel
    clear hkk hW
    have z0 := hk.size
    have KT := Lib.hid hk
    clear hk
    replace H1 := Lib.hid (H1.out.kept0 KT.out)
    replace H2 := Lib.hid (H2.out.kept0 KT.out)
    replace H3 := Lib.hid (H3.out.kept0 KT.out)
    replace H4 := Lib.hid (H4.out.kept0 KT.out)
    refine (firstSpanFault_two _ _ _ _ _ _ _ _ _ _ _ _ _ _ _ _ _ _ _ _ _ _ (by omega) H1.out H2.out H3.out H4.out).mono ?_
    rintro e ww1 ⟨rfl, hk⟩
    rw [HZ.out]
    have z1 := hk.size
    replace fR0 := kf hk nR0 fR0
    replace fR1 := kf hk nR1 fR1
    replace fR2 := kf hk nR2 fR2
    replace fR3 := kf hk nR3 fR3
    replace fR4 := kf hk nR4 fR4
    replace nA0 := kc hk nA0
    replace nA1 := kc hk nA1
    replace nA2 := kc hk nA2
    replace nA3 := kc hk nA3
    replace nB0 := kc hk nB0
    replace nB1 := kc hk nB1
    replace nB2 := kc hk nB2
    replace nB3 := kc hk nB3
    replace nR0 := kc hk nR0
    replace nR1 := kc hk nR1
    replace nR2 := kc hk nR2
    replace nR3 := kc hk nR3
    replace nR4 := kc hk nR4
    replace H1 := Lib.hid (H1.out.kept0 hk)
    replace H2 := Lib.hid (H2.out.kept0 hk)
    replace H3 := Lib.hid (H3.out.kept0 hk)
    replace H4 := Lib.hid (H4.out.kept0 hk)
    replace KT := Lib.hid (KT.out.trans0 hk)
    clear hk
    have tA0 := nA0.out
    have tA1 := nA1.out
    have tA2 := nA2.out
    have tA3 := nA3.out
    have tB0 := nB0.out
    have tB1 := nB1.out
    have tB2 := nB2.out
    have tB3 := nB3.out
    go_wp2_with fail
    clear tA0 tA1 tA2 tA3 tB0 tB1 tB2 tB3
    have tA0 := nA0.out
    have tA1 := nA1.out
    have tA2 := nA2.out
    have tA3 := nA3.out
    have tB0 := nB0.out
    have tB1 := nB1.out
    have tB2 := nB2.out
    have tB3 := nB3.out
    have kr := Lib.hid (Kept.refl [w.heap.size + 1 + 1] ww1)
    go_region_held3 (fun w' => w'.cell? ⟨w.heap.size, 0, none⟩ = some (.bool p) ∧ w'.cell? ⟨w.heap.size, 1, none⟩ = some (.slice a n c) ∧ w'.cell? ⟨w.heap.size, 2, none⟩ = some (.bool q) ∧ w'.cell? ⟨w.heap.size, 3, none⟩ = some (.slice b m d) ∧ w'.cell? ⟨w.heap.size + 1, 0, none⟩ = some (.bool p') ∧ w'.cell? ⟨w.heap.size + 1, 1, none⟩ = some (.slice a' n' c') ∧ w'.cell? ⟨w.heap.size + 1, 2, none⟩ = some (.bool q') ∧ w'.cell? ⟨w.heap.size + 1, 3, none⟩ = some (.slice b' m' d') ∧ Hid (Kept [w.heap.size + 1 + 1] ww1 w'))
      ((go_split_ands; (try refine ⟨?_, ?_, ?_, ?_, ?_, ?_, ?_, ?_, ?_⟩) <;> with_reducible first | assumption | exact Kept.set5 (by assumption) | exact cell_set5 (by assumption) (by simp <;> omega) | exact drew_alloc_cell (by assumption) | exact drew_alloc_cell2 (by assumption) | exact drew_cell (by assumption) | exact alloc_cell (by assumption) | exact Lib.hid (Kept.trans0 (Hid.out (by assumption)) (by assumption)) | exact Kept.cell (by assumption) (by assumption) (by simp) | exact Kept.allocH (by assumption) | exact Kept.drewAlloc2H (by assumption) | exact Kept.drewAllocH (by assumption) | exact Kept.drewH (by assumption)))
      (first
        | (go_at_call 25; with_reducible show Calls _ _ #[Value.func (Fn.func 27) #[] #[], _] _ _; go_split_ands; refine (leastOf_isBelow_two _ _ _ _ _ _ _ _ _ _ _ _ _ (by first | assumption | exact rowB2_at rfl (by simp) | exact RowB.drew (rowB2_at rfl (by simp)) | exact RowB.alloc (rowB2_at rfl (by simp)) _ | exact RowB.drew (RowB.alloc (rowB2_at rfl (by simp)) _)) (H1.out.kept (Hid.out (by assumption)) (fun hn y hy hm => by have h9 := F1.out hn y hy; simp at hm; omega)) (H3.out.kept (Hid.out (by assumption)) (fun hn y hy hm => by have h9 := F3.out hn y hy; simp at hm; omega)) B1.out B3.out HZ1.out).mono ?_; rintro e v1 h77; unfold BigN at h77; obtain ⟨a1, c1, rfl, hs1, hk1⟩ := h77; have k1 : Kept [] ww1 v1 := Kept.trans0 (by with_reducible repeat (first | exact Kept.refl _ _ | refine Kept.drew ?_ | refine Kept.alloc ?_ _)) hk1; (first | (have rw2 : RowB v1 (ww1.heap.size + 1) [⟨q, b, m, d, ys⟩, ⟨q', b', m', d', ys'⟩] := (by first | exact RowB.kept (rowB2_at rfl (by simp)) hk1 (by simp) | exact RowB.kept (RowB.drew (rowB2_at rfl (by simp))) hk1 (by simp))) | (have rw2 : RowB v1 (ww1.heap.size) [⟨q, b, m, d, ys⟩, ⟨q', b', m', d', ys'⟩] := (by first | exact RowB.kept (RowB.alloc (rowB2_at rfl (by simp)) _) hk1 (by simp) | exact RowB.kept (RowB.drew (RowB.alloc (rowB2_at rfl (by simp)) _)) hk1 (by simp))) | skip))
        | (go_at_call 25; with_reducible show Calls _ _ #[Value.func (Fn.func 26) #[] #[], _] _ _; go_split_ands; refine (leastOf_isAbove_two _ _ _ _ _ _ _ _ _ _ _ _ _ (by first | assumption | exact rowB2_at rfl (by simp) | exact RowB.drew (rowB2_at rfl (by simp)) | exact RowB.alloc (rowB2_at rfl (by simp)) _ | exact RowB.drew (RowB.alloc (rowB2_at rfl (by simp)) _)) (H2.out.kept (Hid.out (by assumption)) (fun hn y hy hm => by have h9 := F2.out hn y hy; simp at hm; omega)) (H4.out.kept (Hid.out (by assumption)) (fun hn y hy hm => by have h9 := F4.out hn y hy; simp at hm; omega)) B2.out B4.out HZ2.out).mono ?_; rintro e v2 h77; unfold BigN at h77; obtain ⟨a2, c2, rfl, hs2, hk2⟩ := h77; have k12 : Kept [] v1 v2 := Kept.trans0 (by with_reducible repeat (first | exact Kept.refl _ _ | refine Kept.drew ?_ | refine Kept.alloc ?_ _)) hk2; have k2 : Kept [] ww1 v2 := k1.trans0 k12)
        | (go_at_call 28; go_split_ands; refine (spanResult_any _ _ _ _ _ _ _ _ _ (hs1.kept0 k12) hs2).mono ?_; rintro e v3 ⟨a3, c3, b3, d3, rfl, hs3, hs4, hf3, hf4, hne, hk3⟩; have z12 := k2.size; have k3 : Kept [] ww1 v3 := k2.trans0 hk3; have rg0 := k3.cell (p := ⟨w.heap.size + 1 + 1, 0, none⟩) nR0.out (by simp); have rg1 := k3.cell (p := ⟨w.heap.size + 1 + 1, 1, none⟩) nR1.out (by simp); have rg2 := k3.cell (p := ⟨w.heap.size + 1 + 1, 2, none⟩) nR2.out (by simp); have rg3 := k3.cell (p := ⟨w.heap.size + 1 + 1, 3, none⟩) nR3.out (by simp); have rg4 := k3.cell (p := ⟨w.heap.size + 1 + 1, 4, none⟩) nR4.out (by simp); have ru0 := k3.free' (p := ⟨w.heap.size + 1 + 1, 0, none⟩) nR0.out fR0.out (by simp); have ru1 := k3.free' (p := ⟨w.heap.size + 1 + 1, 1, none⟩) nR1.out fR1.out (by simp); have ru2 := k3.free' (p := ⟨w.heap.size + 1 + 1, 2, none⟩) nR2.out fR2.out (by simp); have ru3 := k3.free' (p := ⟨w.heap.size + 1 + 1, 3, none⟩) nR3.out fR3.out (by simp); have ru4 := k3.free' (p := ⟨w.heap.size + 1 + 1, 4, none⟩) nR4.out fR4.out (by simp)))
    all_goals (clear tA0 tA1 tA2 tA3 tB0 tB1 tB2 tB3)
    all_goals
      have hk := k3
      clear hs1 hs2
      rw [← HR.out] at hs3 hs4 hf3 hf4 hne ⊢
      have z2 := hk.size
      replace fR0 := kf hk nR0 fR0
      replace fR1 := kf hk nR1 fR1
      replace fR2 := kf hk nR2 fR2
      replace fR3 := kf hk nR3 fR3
      replace fR4 := kf hk nR4 fR4
      replace nA0 := kc hk nA0
      replace nA1 := kc hk nA1
      replace nA2 := kc hk nA2
      replace nA3 := kc hk nA3
      replace nB0 := kc hk nB0
      replace nB1 := kc hk nB1
      replace nB2 := kc hk nB2
      replace nB3 := kc hk nB3
      replace nR0 := kc hk nR0
      replace nR1 := kc hk nR1
      replace nR2 := kc hk nR2
      replace nR3 := kc hk nR3
      replace nR4 := kc hk nR4
      replace H1 := Lib.hid (H1.out.kept0 hk)
      replace H2 := Lib.hid (H2.out.kept0 hk)
      replace H3 := Lib.hid (H3.out.kept0 hk)
      replace H4 := Lib.hid (H4.out.kept0 hk)
      replace KT := Lib.hid (KT.out.trans0 hk)
      clear hk
      have hs3 := Lib.hid hs3
      have hs4 := Lib.hid hs4
      have HNE := Lib.hid hne
      have G3 := Lib.hid (hf3.mono (B' := w.heap.size + 1 + 1 + 1) (by omega))
      have G4 := Lib.hid (hf4.mono (B' := w.heap.size + 1 + 1 + 1) (by omega))
      clear hf3 hf4 hne
      generalize hW : (((((v3.setCell ⟨w.heap.size + 1 + 1, 0, none⟩ (.int .i64 r.code)).setCell ⟨w.heap.size + 1 + 1, 1, none⟩ (.bool (isNeg r.lo))).setCell ⟨w.heap.size + 1 + 1, 2, none⟩ (.slice a3 (mag r.lo).length c3)).setCell ⟨w.heap.size + 1 + 1, 3, none⟩ (.bool (isNeg r.hi))).setCell ⟨w.heap.size + 1 + 1, 4, none⟩ (.slice b3 (mag r.hi).length d3)) = ww3
      have hk : Kept [w.heap.size + 1 + 1] v3 ww3 := by rw [← hW]; exact (((((Kept.refl _ _).setCell _ _ (by simp)).setCell _ _ (by simp)).setCell _ _ (by simp)).setCell _ _ (by simp)).setCell _ _ (by simp)
      have hfz : ∀ x, ww3.frozen? x = v3.frozen? x := by rw [← hW]; intro x; simp only [World.frozen?_setCell]
      obtain ⟨e0, e1, e2, e3, e4⟩ := st5 hW.symm nR0.out nR1.out nR2.out nR3.out nR4.out
      have z3 := hk.size
      replace fR0 := kz hfz fR0
      replace fR1 := kz hfz fR1
      replace fR2 := kz hfz fR2
      replace fR3 := kz hfz fR3
      replace fR4 := kz hfz fR4
      replace nA0 := kd hk nA0 (by simp <;> omega)
      replace nA1 := kd hk nA1 (by simp <;> omega)
      replace nA2 := kd hk nA2 (by simp <;> omega)
      replace nA3 := kd hk nA3 (by simp <;> omega)
      replace nB0 := kd hk nB0 (by simp <;> omega)
      replace nB1 := kd hk nB1 (by simp <;> omega)
      replace nB2 := kd hk nB2 (by simp <;> omega)
      replace nB3 := kd hk nB3 (by simp <;> omega)
      replace H1 := Lib.hid (H1.out.kept hk (fun hn y hy hm => by have h9 := F1.out hn y hy; simp at hm; omega))
      replace H2 := Lib.hid (H2.out.kept hk (fun hn y hy hm => by have h9 := F2.out hn y hy; simp at hm; omega))
      replace H3 := Lib.hid (H3.out.kept hk (fun hn y hy hm => by have h9 := F3.out hn y hy; simp at hm; omega))
      replace H4 := Lib.hid (H4.out.kept hk (fun hn y hy hm => by have h9 := F4.out hn y hy; simp at hm; omega))
      replace hs3 := Lib.hid (hs3.out.kept hk (fun hn y hy hm => by have h9 := G3.out hn y hy; simp at hm; omega))
      replace hs4 := Lib.hid (hs4.out.kept hk (fun hn y hy hm => by have h9 := G4.out hn y hy; simp at hm; omega))
      replace nR0 := Lib.hid e0
      replace nR1 := Lib.hid e1
      replace nR2 := Lib.hid e2
      replace nR3 := Lib.hid e3
      replace nR4 := Lib.hid e4
      replace KT := Lib.hid (KT.out.trans hk (fun x hx hlt => by simp at hx; omega))
      clear hk hfz hW e0 e1 e2 e3 e4
      go_wp2_with fail
      have e0 := nR0.out
      have e1 := nR1.out
      have e2 := nR2.out
      have e3 := nR3.out
      have e4 := nR4.out
      refine bodyPost_ret (v := .agg #[.int .i64 r.code, .bool (isNeg r.lo), .slice a3 (mag r.lo).length c3, .bool (isNeg r.hi), .slice b3 (mag r.hi).length d3]) (by simp [results, Try.results7, go_sem, e0, e1, e2, e3, e4]) rfl ?_
      exact ⟨a3, c3, b3, d3, rfl, hs3.out, hs4.out, G3.out.mono (by omega), G4.out.mono (by omega), HNE.out, KT.out⟩
  · skip
    rw [show hullS p xs q ys p' xs' q' ys' = noSpan (spanFault2 p xs q ys p' xs' q' ys') from twoS_not hz]
    generalize hf : spanFault2 p xs q ys p' xs' q' ys' = f at *
    have hne : (f == 0) = false := by rw [beq_eq_false_iff_ne]; exact hz
    have HZ := Lib.hid hf
    clear hf hz
    go_enter Try.func7, Try.ntmps7
    go_wp2_with fail
    generalize hW : (((w.alloc (.cells #[.bool p, .slice a n c, .bool q, .slice b m d] 28)).alloc (.cells #[.bool p', .slice a' n' c', .bool q', .slice b' m' d'] 28)).alloc (.cells #[.int .i64 0, .bool false, .slice none 0 0, .bool false, .slice none 0 0] 32)) = ww0
    have hkk : Kept [] (((w.alloc (.cells #[.bool p, .slice a n c, .bool q, .slice b m d] 28)).alloc (.cells #[.bool p', .slice a' n' c', .bool q', .slice b' m' d'] 28)).alloc (.cells #[.int .i64 0, .bool false, .slice none 0 0, .bool false, .slice none 0 0] 32)) ww0 := by rw [hW]; exact Kept.refl _ _
    have zzA : w.heap.size + 1 + 1 + 1 = ww0.heap.size := by rw [← hW]; simp
    obtain ⟨⟨nA0, nA1, nA2, nA3⟩, _⟩ := tp4 hkk.peel.peel (g := w.heap.size) (by simp) (by simp)
    obtain ⟨⟨nB0, nB1, nB2, nB3⟩, _⟩ := tp4 hkk.peel (g := w.heap.size + 1) (by simp) (by simp)
    obtain ⟨⟨nR0, nR1, nR2, nR3, nR4⟩, fR0, fR1, fR2, fR3, fR4⟩ := tp5 hkk (g := w.heap.size + 1 + 1) (by simp) (by simp)
    have hk := hkk.peel.peel.peel
    clear hkk hW
    have z0 := hk.size
    have KT := Lib.hid hk
    clear hk
    replace H1 := Lib.hid (H1.out.kept0 KT.out)
    replace H2 := Lib.hid (H2.out.kept0 KT.out)
    replace H3 := Lib.hid (H3.out.kept0 KT.out)
    replace H4 := Lib.hid (H4.out.kept0 KT.out)
    refine (firstSpanFault_two _ _ _ _ _ _ _ _ _ _ _ _ _ _ _ _ _ _ _ _ _ _ (by omega) H1.out H2.out H3.out H4.out).mono ?_
    rintro e ww1 ⟨rfl, hk⟩
    rw [HZ.out]
    have z1 := hk.size
    replace fR0 := kf hk nR0 fR0
    replace fR1 := kf hk nR1 fR1
    replace fR2 := kf hk nR2 fR2
    replace fR3 := kf hk nR3 fR3
    replace fR4 := kf hk nR4 fR4
    replace nA0 := kc hk nA0
    replace nA1 := kc hk nA1
    replace nA2 := kc hk nA2
    replace nA3 := kc hk nA3
    replace nB0 := kc hk nB0
    replace nB1 := kc hk nB1
    replace nB2 := kc hk nB2
    replace nB3 := kc hk nB3
    replace nR0 := kc hk nR0
    replace nR1 := kc hk nR1
    replace nR2 := kc hk nR2
    replace nR3 := kc hk nR3
    replace nR4 := kc hk nR4
    replace H1 := Lib.hid (H1.out.kept0 hk)
    replace H2 := Lib.hid (H2.out.kept0 hk)
    replace H3 := Lib.hid (H3.out.kept0 hk)
    replace H4 := Lib.hid (H4.out.kept0 hk)
    replace KT := Lib.hid (KT.out.trans0 hk)
    clear hk
    have tR0 := nR0.out
    have tR1 := nR1.out
    have tR2 := nR2.out
    have tR3 := nR3.out
    have tR4 := nR4.out
    have uR0 := fR0.out
    have uR1 := fR1.out
    have uR2 := fR2.out
    have uR3 := fR3.out
    have uR4 := fR4.out
    go_wp2_with fail
    clear tR0 tR1 tR2 tR3 tR4 uR0 uR1 uR2 uR3 uR4
    generalize hW : (((((ww1.setCell ⟨w.heap.size + 1 + 1, 0, none⟩ (.int .i64 f)).setCell ⟨w.heap.size + 1 + 1, 1, none⟩ (.bool false)).setCell ⟨w.heap.size + 1 + 1, 2, none⟩ (.slice none 0 0)).setCell ⟨w.heap.size + 1 + 1, 3, none⟩ (.bool false)).setCell ⟨w.heap.size + 1 + 1, 4, none⟩ (.slice none 0 0)) = ww2
    have hk : Kept [w.heap.size + 1 + 1] ww1 ww2 := by rw [← hW]; exact (((((Kept.refl _ _).setCell _ _ (by simp)).setCell _ _ (by simp)).setCell _ _ (by simp)).setCell _ _ (by simp)).setCell _ _ (by simp)
    have hfz : ∀ x, ww2.frozen? x = ww1.frozen? x := by rw [← hW]; intro x; simp only [World.frozen?_setCell]
    obtain ⟨e0, e1, e2, e3, e4⟩ := st5 hW.symm nR0.out nR1.out nR2.out nR3.out nR4.out
    have z2 := hk.size
    replace fR0 := kz hfz fR0
    replace fR1 := kz hfz fR1
    replace fR2 := kz hfz fR2
    replace fR3 := kz hfz fR3
    replace fR4 := kz hfz fR4
    replace nA0 := kd hk nA0 (by simp <;> omega)
    replace nA1 := kd hk nA1 (by simp <;> omega)
    replace nA2 := kd hk nA2 (by simp <;> omega)
    replace nA3 := kd hk nA3 (by simp <;> omega)
    replace nB0 := kd hk nB0 (by simp <;> omega)
    replace nB1 := kd hk nB1 (by simp <;> omega)
    replace nB2 := kd hk nB2 (by simp <;> omega)
    replace nB3 := kd hk nB3 (by simp <;> omega)
    replace H1 := Lib.hid (H1.out.kept hk (fun hn y hy hm => by have h9 := F1.out hn y hy; simp at hm; omega))
    replace H2 := Lib.hid (H2.out.kept hk (fun hn y hy hm => by have h9 := F2.out hn y hy; simp at hm; omega))
    replace H3 := Lib.hid (H3.out.kept hk (fun hn y hy hm => by have h9 := F3.out hn y hy; simp at hm; omega))
    replace H4 := Lib.hid (H4.out.kept hk (fun hn y hy hm => by have h9 := F4.out hn y hy; simp at hm; omega))
    replace nR0 := Lib.hid e0
    replace nR1 := Lib.hid e1
    replace nR2 := Lib.hid e2
    replace nR3 := Lib.hid e3
    replace nR4 := Lib.hid e4
    replace KT := Lib.hid (KT.out.trans hk (fun x hx hlt => by simp at hx; omega))
    clear hk hfz hW e0 e1 e2 e3 e4
    have e0 := nR0.out
    have e1 := nR1.out
    have e2 := nR2.out
    have e3 := nR3.out
    have e4 := nR4.out
    refine bodyPost_ret (v := .agg #[.int .i64 f, .bool false, .slice none 0 0, .bool false, .slice none 0 0]) (by simp [results, Try.results7, go_sem, e0, e1, e2, e3, e4]) rfl ?_
    exact spanR_no KT.out

end Go.Proofs.Ytlhiahhpmjiioaa
