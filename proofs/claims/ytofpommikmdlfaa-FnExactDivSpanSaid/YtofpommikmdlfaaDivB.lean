/-
  Contract of the model's DivSpan. Conditions: the limbs read as lists of numbers.
-/
import Derived.Deep.RegionHeld3
import Derived.Deep.DrawnRows
import Derived.Deep.DeepCutAuto
import Derived.Test.YtofpommikmdlfaaDivA
namespace Go.Proofs.Ytofpommikmdlfaa
open Go.RowKit

/-- What a quotient of two spans is, where 0 is not in the second. -/
def divS (P : Int) (p : Bool) (xs : List Int) (q : Bool) (ys : List Int) (p' : Bool) (xs' : List Int) (q' : Bool) (ys' : List Int) : SV :=
  askS P (spanFault2 p xs q ys p' xs' q' ys') (if hasZ p' xs' q' = true then noSpan 6 else
    fitS (min4 (divZ false (isNeg (inU P p xs)) p' (val (mag (inU P p xs))) (val xs')) (divZ false (isNeg (inU P p xs)) q' (val (mag (inU P p xs))) (val ys')) (divZ false (isNeg (inU P q ys)) p' (val (mag (inU P q ys))) (val xs')) (divZ false (isNeg (inU P q ys)) q' (val (mag (inU P q ys))) (val ys')))
      (max4 (divZ true (isNeg (inU P p xs)) p' (val (mag (inU P p xs))) (val xs')) (divZ true (isNeg (inU P p xs)) q' (val (mag (inU P p xs))) (val ys')) (divZ true (isNeg (inU P q ys)) p' (val (mag (inU P q ys))) (val xs')) (divZ true (isNeg (inU P q ys)) q' (val (mag (inU P q ys))) (val ys'))))
theorem divS_short (P : Int) (p : Bool) (xs : List Int) (q : Bool) (ys : List Int) (p' : Bool) (xs' : List Int) (q' : Bool) (ys' : List Int) : Short (divS P p xs q ys p' xs' q' ys') := by
  refine askS_short ?_
  split
  · exact noSpan_short 6
  · exact fitS_short _ _
theorem noZ_len {p q : Bool} {xs ys : List Int} (h : ¬ hasZ p xs q = true) (o : SpanOk p xs q ys) : xs.length ≠ 0 ∧ ys.length ≠ 0 := by
  have hx := canon_nonneg o.lo.n40.canon
  have hy := canon_nonneg o.hi.n40.canon
  have hle := o.le
  have hsx := o.lo.sign
  have hsy := o.hi.sign
  unfold hasZ at h
  cases q with
  | true =>
    have h1 := hsy rfl
    refine ⟨fun e => ?_, h1⟩
    have e0 := List.eq_nil_of_length_eq_zero e
    subst e0
    have h2 := hy.2 (fun e9 => h1 (by rw [e9]; rfl))
    cases p <;> simp [sv, sg, val] at hle <;> omega
  | false =>
    have h1 : ¬ sv p xs ≤ 0 := by simpa using h
    cases p with
    | true => exact absurd (show sv true xs ≤ 0 by show - val xs ≤ 0; omega) h1
    | false =>
      have h2 : 0 < val xs := by have : ¬ val xs ≤ 0 := h1; omega
      refine ⟨fun e => ?_, fun e => ?_⟩
      · have e0 := List.eq_nil_of_length_eq_zero e; subst e0; simp [val] at h2
      · have e0 := List.eq_nil_of_length_eq_zero e
        subst e0
        have : val xs ≤ 0 := hle
        omega

set_option maxHeartbeats 8000000 in
set_option maxRecDepth 20000 in
theorem sDivSpan_any (P : Int) (p q : Bool) (a b : Option Addr) (n c m d : Nat) (xs ys : List Int) (p' q' : Bool) (a' b' : Option Addr) (n' c' m' d' : Nat) (xs' ys' : List Int) (w : World) (h1 : Sl w a n c xs) (h2 : Sl w b m d ys) (h3 : Sl w a' n' c' xs') (h4 : Sl w b' m' d' ys') :
    Calls Try.prog 6 #[.int .i64 P, .agg #[.bool p, .slice a n c, .bool q, .slice b m d], .agg #[.bool p', .slice a' n' c', .bool q', .slice b' m' d']] w (SpanM w (divS P p xs q ys p' xs' q' ys')) := by
  have H1 := Lib.hid h1
  have H2 := Lib.hid h2
  have H3 := Lib.hid h3
  have H4 := Lib.hid h4
  clear h1 h2 h3 h4
  have F1 := Lib.hid H1.out.lt
  have F2 := Lib.hid H2.out.lt
  have F3 := Lib.hid H3.out.lt
  have F4 := Lib.hid H4.out.lt
  by_cases hP : isP P = true
  · by_cases hz : spanFault2 p xs q ys p' xs' q' ys' = 0
    · skip
      by_cases h0z : hasZ p' xs' q' = true
      · skip
        rw [show divS P p xs q ys p' xs' q' ys' = noSpan 6 from by unfold divS; rw [askS_ok hP hz, if_pos h0z]]
        have HZ := Lib.hid (show precS P (spanFault2 p xs q ys p' xs' q' ys') = 0 by unfold precS; rw [if_pos hP]; exact hz)
        obtain ⟨ox, oy⟩ := spanFault2_zero hz
        have B3 := Lib.hid oy.lo
        have HZ0 := Lib.hid h0z
        clear ox oy h0z hz hP
        go_enter Try.func6, Try.ntmps6
        go_wp2_with fail
        generalize hW : (((w.alloc (.cells #[.bool p, .slice a n c, .bool q, .slice b m d] 30)).alloc (.cells #[.bool p', .slice a' n' c', .bool q', .slice b' m' d'] 30)).alloc (.cells #[.int .i64 0, .bool false, .slice none 0 0, .bool false, .slice none 0 0] 32)) = ww0
        have hkk : Kept [] (((w.alloc (.cells #[.bool p, .slice a n c, .bool q, .slice b m d] 30)).alloc (.cells #[.bool p', .slice a' n' c', .bool q', .slice b' m' d'] 30)).alloc (.cells #[.int .i64 0, .bool false, .slice none 0 0, .bool false, .slice none 0 0] 32)) ww0 := by rw [hW]; exact Kept.refl _ _
        have zzA : w.heap.size + 1 + 1 + 1 = ww0.heap.size := by rw [← hW]; simp
        obtain ⟨⟨nA0, nA1, nA2, nA3⟩, _⟩ := tp4 hkk.peel.peel (g := w.heap.size) (by simp) (by simp)
        obtain ⟨⟨nB0, nB1, nB2, nB3⟩, _⟩ := tp4 hkk.peel (g := w.heap.size + 1) (by simp) (by simp)
        obtain ⟨⟨nR0, nR1, nR2, nR3, nR4⟩, fR0, fR1, fR2, fR3, fR4⟩ := tp5 hkk (g := w.heap.size + 1 + 1) (by simp) (by simp)
        have hk := hkk.peel.peel.peel
        clear hkk hW
        have z0 := hk.size
        have KT := Lib.hid hk
        clear hk
        replace H1 := Lib.hid (H1.out.kept0 KT.out)
        replace H2 := Lib.hid (H2.out.kept0 KT.out)
        replace H3 := Lib.hid (H3.out.kept0 KT.out)
        replace H4 := Lib.hid (H4.out.kept0 KT.out)
        refine (l3Asked_any P _ _ _ _ _ _ _ _ _ _ _ _ _ _ _ _ _ _ _ _ _ H1.out H2.out H3.out H4.out).mono ?_
        rintro e ww1 ⟨rfl, hk⟩
        rw [HZ.out]
        have z1 := hk.size
        replace fR0 := kf hk nR0 fR0
        replace fR1 := kf hk nR1 fR1
        replace fR2 := kf hk nR2 fR2
        replace fR3 := kf hk nR3 fR3
        replace fR4 := kf hk nR4 fR4
        replace nA0 := kc hk nA0
        replace nA1 := kc hk nA1
        replace nA2 := kc hk nA2
        replace nA3 := kc hk nA3
        replace nB0 := kc hk nB0
        replace nB1 := kc hk nB1
        replace nB2 := kc hk nB2
        replace nB3 := kc hk nB3
        replace nR0 := kc hk nR0
        replace nR1 := kc hk nR1
        replace nR2 := kc hk nR2
        replace nR3 := kc hk nR3
        replace nR4 := kc hk nR4
        replace H1 := Lib.hid (H1.out.kept0 hk)
        replace H2 := Lib.hid (H2.out.kept0 hk)
        replace H3 := Lib.hid (H3.out.kept0 hk)
        replace H4 := Lib.hid (H4.out.kept0 hk)
        replace KT := Lib.hid (KT.out.trans0 hk)
        clear hk
        have tA0 := nA0.out
        have tA1 := nA1.out
        have tA2 := nA2.out
        have tA3 := nA3.out
        have tB0 := nB0.out
        have tB1 := nB1.out
        have tB2 := nB2.out
        have tB3 := nB3.out
        go_wp2_with fail
        clear tA0 tA1 tA2 tA3 tB0 tB1 tB2 tB3
        refine (l3Zero_any _ _ _ _ _ _ _ _ _ _ H3.out B3.out).mono ?_
        rintro e ww2 ⟨rfl, hk⟩
        rw [HZ0.out]
        have z2 := hk.size
        replace fR0 := kf hk nR0 fR0
        replace fR1 := kf hk nR1 fR1
        replace fR2 := kf hk nR2 fR2
        replace fR3 := kf hk nR3 fR3
        replace fR4 := kf hk nR4 fR4
        replace nA0 := kc hk nA0
        replace nA1 := kc hk nA1
        replace nA2 := kc hk nA2
        replace nA3 := kc hk nA3
        replace nB0 := kc hk nB0
        replace nB1 := kc hk nB1
        replace nB2 := kc hk nB2
        replace nB3 := kc hk nB3
        replace nR0 := kc hk nR0
        replace nR1 := kc hk nR1
        replace nR2 := kc hk nR2
        replace nR3 := kc hk nR3
        replace nR4 := kc hk nR4
        replace H1 := Lib.hid (H1.out.kept0 hk)
        replace H2 := Lib.hid (H2.out.kept0 hk)
        replace H3 := Lib.hid (H3.out.kept0 hk)
        replace H4 := Lib.hid (H4.out.kept0 hk)
        replace KT := Lib.hid (KT.out.trans0 hk)
        clear hk
        have tA0 := nA0.out
        have tA1 := nA1.out
        have tA2 := nA2.out
        have tA3 := nA3.out
        have tB0 := nB0.out
        have tB1 := nB1.out
        have tB2 := nB2.out
        have tB3 := nB3.out
        have tR0 := nR0.out
        have tR1 := nR1.out
        have tR2 := nR2.out
        have tR3 := nR3.out
        have tR4 := nR4.out
        have uR0 := fR0.out
        have uR1 := fR1.out
        have uR2 := fR2.out
        have uR3 := fR3.out
        have uR4 := fR4.out
        go_wp2_with fail
        clear tA0 tA1 tA2 tA3 tB0 tB1 tB2 tB3 tR0 tR1 tR2 tR3 tR4 uR0 uR1 uR2 uR3 uR4
        generalize hW : (((((ww2.setCell ⟨w.heap.size + 1 + 1, 0, none⟩ (.int .i64 6)).setCell ⟨w.heap.size + 1 + 1, 1, none⟩ (.bool false)).setCell ⟨w.heap.size + 1 + 1, 2, none⟩ (.slice none 0 0)).setCell ⟨w.heap.size + 1 + 1, 3, none⟩ (.bool false)).setCell ⟨w.heap.size + 1 + 1, 4, none⟩ (.slice none 0 0)) = ww3
        have hk : Kept [w.heap.size + 1 + 1] ww2 ww3 := by rw [← hW]; exact (((((Kept.refl _ _).setCell _ _ (by simp)).setCell _ _ (by simp)).setCell _ _ (by simp)).setCell _ _ (by simp)).setCell _ _ (by simp)
        have hfz : ∀ x, ww3.frozen? x = ww2.frozen? x := by rw [← hW]; intro x; simp only [World.frozen?_setCell]
        obtain ⟨e0, e1, e2, e3, e4⟩ := st5 hW.symm nR0.out nR1.out nR2.out nR3.out nR4.out
        have z3 := hk.size
        replace fR0 := kz hfz fR0
        replace fR1 := kz hfz fR1
        replace fR2 := kz hfz fR2
        replace fR3 := kz hfz fR3
        replace fR4 := kz hfz fR4
        replace nA0 := kd hk nA0 (by simp <;> omega)
        replace nA1 := kd hk nA1 (by simp <;> omega)
        replace nA2 := kd hk nA2 (by simp <;> omega)
        replace nA3 := kd hk nA3 (by simp <;> omega)
        replace nB0 := kd hk nB0 (by simp <;> omega)
        replace nB1 := kd hk nB1 (by simp <;> omega)
        replace nB2 := kd hk nB2 (by simp <;> omega)
        replace nB3 := kd hk nB3 (by simp <;> omega)
        replace H1 := Lib.hid (H1.out.kept hk (fun hn y hy hm => by have h9 := F1.out hn y hy; simp at hm; omega))
        replace H2 := Lib.hid (H2.out.kept hk (fun hn y hy hm => by have h9 := F2.out hn y hy; simp at hm; omega))
        replace H3 := Lib.hid (H3.out.kept hk (fun hn y hy hm => by have h9 := F3.out hn y hy; simp at hm; omega))
        replace H4 := Lib.hid (H4.out.kept hk (fun hn y hy hm => by have h9 := F4.out hn y hy; simp at hm; omega))
        replace nR0 := Lib.hid e0
        replace nR1 := Lib.hid e1
        replace nR2 := Lib.hid e2
        replace nR3 := Lib.hid e3
        replace nR4 := Lib.hid e4
        replace KT := Lib.hid (KT.out.trans hk (fun x hx hlt => by simp at hx; omega))
        clear hk hfz hW e0 e1 e2 e3 e4
        have e0 := nR0.out
        have e1 := nR1.out
        have e2 := nR2.out
        have e3 := nR3.out
        have e4 := nR4.out
        refine bodyPost_ret (v := .agg #[.int .i64 6, .bool false, .slice none 0 0, .bool false, .slice none 0 0]) (by simp [results, Try.results6, go_sem, e0, e1, e2, e3, e4]) rfl ?_
        exact spanM_no KT.out
      · skip
        have HZ := Lib.hid (show precS P (spanFault2 p xs q ys p' xs' q' ys') = 0 by unfold precS; rw [if_pos hP]; exact hz)
        obtain ⟨ox, oy⟩ := spanFault2_zero hz
        have hno := noZ_len h0z oy
        obtain ⟨z3, z4⟩ := hno
        obtain ⟨u1, hu1⟩ : ∃ u, u = inU P p xs := ⟨_, rfl⟩
        obtain ⟨u2, hu2⟩ : ∃ u, u = inU P q ys := ⟨_, rfl⟩
        obtain ⟨f1_, hf1⟩ : ∃ z, z = divZ false (isNeg u1) p' (val (mag u1)) (val xs') := ⟨_, rfl⟩
        obtain ⟨f2_, hf2⟩ : ∃ z, z = divZ false (isNeg u1) q' (val (mag u1)) (val ys') := ⟨_, rfl⟩
        obtain ⟨f3_, hf3⟩ : ∃ z, z = divZ false (isNeg u2) p' (val (mag u2)) (val xs') := ⟨_, rfl⟩
        obtain ⟨f4_, hf4⟩ : ∃ z, z = divZ false (isNeg u2) q' (val (mag u2)) (val ys') := ⟨_, rfl⟩
        obtain ⟨h1_, hh1⟩ : ∃ z, z = divZ true (isNeg u1) p' (val (mag u1)) (val xs') := ⟨_, rfl⟩
        obtain ⟨h2_, hh2⟩ : ∃ z, z = divZ true (isNeg u1) q' (val (mag u1)) (val ys') := ⟨_, rfl⟩
        obtain ⟨h3_, hh3⟩ : ∃ z, z = divZ true (isNeg u2) p' (val (mag u2)) (val xs') := ⟨_, rfl⟩
        obtain ⟨h4_, hh4⟩ : ∃ z, z = divZ true (isNeg u2) q' (val (mag u2)) (val ys') := ⟨_, rfl⟩
        obtain ⟨t1, ht1⟩ : ∃ t, t = min4 f1_ f2_ f3_ f4_ := ⟨_, rfl⟩
        obtain ⟨t2, ht2⟩ : ∃ t, t = max4 h1_ h2_ h3_ h4_ := ⟨_, rfl⟩
        obtain ⟨r, hr⟩ : ∃ r, r = fitS t1 t2 := ⟨_, rfl⟩
        rw [show divS P p xs q ys p' xs' q' ys' = r from by unfold divS; rw [askS_ok hP hz, if_neg h0z, ← hu1, ← hu2, ← hf1, ← hf2, ← hf3, ← hf4, ← hh1, ← hh2, ← hh3, ← hh4, ← ht1, ← ht2, hr]]
        have HZ0 := Lib.hid (show hasZ p' xs' q' = false by simpa using h0z)
        have HP := Lib.hid hP
        have B1 := Lib.hid ox.lo
        have B2 := Lib.hid ox.hi
        have B3 := Lib.hid oy.lo
        have B4 := Lib.hid oy.hi
        have HR := Lib.hid hr
        have X1 := Lib.hid ox.lx
        have X2 := Lib.hid ox.ly
        have ZZ3 := Lib.hid z3
        have ZZ4 := Lib.hid z4
        have HU1 := Lib.hid hu1
        have HU2 := Lib.hid hu2
        have HT1 := Lib.hid ht1
        have HT2 := Lib.hid ht2
        have Hf1 := Lib.hid hf1
        have Hf2 := Lib.hid hf2
        have Hf3 := Lib.hid hf3
        have Hf4 := Lib.hid hf4
        have Hh1 := Lib.hid hh1
        have Hh2 := Lib.hid hh2
        have Hh3 := Lib.hid hh3
        have Hh4 := Lib.hid hh4
        clear ox oy h0z hz hP hr z3 z4 hu1 hu2 ht1 ht2 hf1 hf2 hf3 hf4 hh1 hh2 hh3 hh4
        go_enter Try.func6, Try.ntmps6
        go_wp2_with fail
        generalize hW : (((w.alloc (.cells #[.bool p, .slice a n c, .bool q, .slice b m d] 30)).alloc (.cells #[.bool p', .slice a' n' c', .bool q', .slice b' m' d'] 30)).alloc (.cells #[.int .i64 0, .bool false, .slice none 0 0, .bool false, .slice none 0 0] 32)) = ww0
        have hkk : Kept [] (((w.alloc (.cells #[.bool p, .slice a n c, .bool q, .slice b m d] 30)).alloc (.cells #[.bool p', .slice a' n' c', .bool q', .slice b' m' d'] 30)).alloc (.cells #[.int .i64 0, .bool false, .slice none 0 0, .bool false, .slice none 0 0] 32)) ww0 := by rw [hW]; exact Kept.refl _ _
        have zzA : w.heap.size + 1 + 1 + 1 = ww0.heap.size := by rw [← hW]; simp
        obtain ⟨⟨nA0, nA1, nA2, nA3⟩, _⟩ := tp4 hkk.peel.peel (g := w.heap.size) (by simp) (by simp)
        obtain ⟨⟨nB0, nB1, nB2, nB3⟩, _⟩ := tp4 hkk.peel (g := w.heap.size + 1) (by simp) (by simp)
        obtain ⟨⟨nR0, nR1, nR2, nR3, nR4⟩, fR0, fR1, fR2, fR3, fR4⟩ := tp5 hkk (g := w.heap.size + 1 + 1) (by simp) (by simp)
        have hk := hkk.peel.peel.peel
        clear hkk hW
        have z0 := hk.size
        have KT := Lib.hid hk
        clear hk
        replace H1 := Lib.hid (H1.out.kept0 KT.out)
        replace H2 := Lib.hid (H2.out.kept0 KT.out)
        replace H3 := Lib.hid (H3.out.kept0 KT.out)
        replace H4 := Lib.hid (H4.out.kept0 KT.out)
        refine (l3Asked_any P _ _ _ _ _ _ _ _ _ _ _ _ _ _ _ _ _ _ _ _ _ H1.out H2.out H3.out H4.out).mono ?_
        rintro e ww1 ⟨rfl, hk⟩
        rw [HZ.out]
        have z1 := hk.size
        replace fR0 := kf hk nR0 fR0
        replace fR1 := kf hk nR1 fR1
        replace fR2 := kf hk nR2 fR2
        replace fR3 := kf hk nR3 fR3
        replace fR4 := kf hk nR4 fR4
        replace nA0 := kc hk nA0
        replace nA1 := kc hk nA1
        replace nA2 := kc hk nA2
        replace nA3 := kc hk nA3
        replace nB0 := kc hk nB0
        replace nB1 := kc hk nB1
        replace nB2 := kc hk nB2
        replace nB3 := kc hk nB3
        replace nR0 := kc hk nR0
        replace nR1 := kc hk nR1
        replace nR2 := kc hk nR2
        replace nR3 := kc hk nR3
        replace nR4 := kc hk nR4
        replace H1 := Lib.hid (H1.out.kept0 hk)
        replace H2 := Lib.hid (H2.out.kept0 hk)
        replace H3 := Lib.hid (H3.out.kept0 hk)
        replace H4 := Lib.hid (H4.out.kept0 hk)
        replace KT := Lib.hid (KT.out.trans0 hk)
        clear hk
        have tA0 := nA0.out
        have tA1 := nA1.out
        have tA2 := nA2.out
        have tA3 := nA3.out
        have tB0 := nB0.out
        have tB1 := nB1.out
        have tB2 := nB2.out
        have tB3 := nB3.out
        go_wp2_with fail
        clear tA0 tA1 tA2 tA3 tB0 tB1 tB2 tB3
        refine (l3Zero_any _ _ _ _ _ _ _ _ _ _ H3.out B3.out).mono ?_
        rintro e ww2 ⟨rfl, hk⟩
        rw [HZ0.out]
        have z2 := hk.size
        replace fR0 := kf hk nR0 fR0
        replace fR1 := kf hk nR1 fR1
        replace fR2 := kf hk nR2 fR2
        replace fR3 := kf hk nR3 fR3
        replace fR4 := kf hk nR4 fR4
        replace nA0 := kc hk nA0
        replace nA1 := kc hk nA1
        replace nA2 := kc hk nA2
        replace nA3 := kc hk nA3
        replace nB0 := kc hk nB0
        replace nB1 := kc hk nB1
        replace nB2 := kc hk nB2
        replace nB3 := kc hk nB3
        replace nR0 := kc hk nR0
        replace nR1 := kc hk nR1
        replace nR2 := kc hk nR2
        replace nR3 := kc hk nR3
        replace nR4 := kc hk nR4
        replace H1 := Lib.hid (H1.out.kept0 hk)
        replace H2 := Lib.hid (H2.out.kept0 hk)
        replace H3 := Lib.hid (H3.out.kept0 hk)
        replace H4 := Lib.hid (H4.out.kept0 hk)
        replace KT := Lib.hid (KT.out.trans0 hk)
        clear hk
        have tA0 := nA0.out
        have tA1 := nA1.out
        have tA2 := nA2.out
        have tA3 := nA3.out
        have tB0 := nB0.out
        have tB1 := nB1.out
        have tB2 := nB2.out
        have tB3 := nB3.out
        go_wp2_with fail
        clear tA0 tA1 tA2 tA3 tB0 tB1 tB2 tB3
        refine (l3Div_any P _ _ _ _ _ _ _ _ _ _ _ _ _ _ _ _ _ _ _ _ u1 u2 f1_ f2_ f3_ f4_ h1_ h2_ h3_ h4_ t1 t2 _ H1.out H2.out H3.out H4.out HP.out B1.out B2.out B3.out B4.out X1.out X2.out ZZ3.out ZZ4.out HU1.out HU2.out Hf1.out Hf2.out Hf3.out Hf4.out Hh1.out Hh2.out Hh3.out Hh4.out HT1.out HT2.out).mono ?_
        rintro e ww3 ⟨a1, c1, a2, c2, rfl, hs1, hs2, hf1, hf2, hk⟩
        have z3 := hk.size
        replace fR0 := kf hk nR0 fR0
        replace fR1 := kf hk nR1 fR1
        replace fR2 := kf hk nR2 fR2
        replace fR3 := kf hk nR3 fR3
        replace fR4 := kf hk nR4 fR4
        replace nA0 := kc hk nA0
        replace nA1 := kc hk nA1
        replace nA2 := kc hk nA2
        replace nA3 := kc hk nA3
        replace nB0 := kc hk nB0
        replace nB1 := kc hk nB1
        replace nB2 := kc hk nB2
        replace nB3 := kc hk nB3
        replace nR0 := kc hk nR0
        replace nR1 := kc hk nR1
        replace nR2 := kc hk nR2
        replace nR3 := kc hk nR3
        replace nR4 := kc hk nR4
        replace H1 := Lib.hid (H1.out.kept0 hk)
        replace H2 := Lib.hid (H2.out.kept0 hk)
        replace H3 := Lib.hid (H3.out.kept0 hk)
        replace H4 := Lib.hid (H4.out.kept0 hk)
        replace KT := Lib.hid (KT.out.trans0 hk)
        clear hk
        have hs1 := Lib.hid hs1
        have hs2 := Lib.hid hs2
        have G1 := Lib.hid hf1
        have G2 := Lib.hid hf2
        clear hf1 hf2
        go_wp2_with fail
        refine (l3Whole_any _ _ _ _ _ _ _ _ _ hs1.out hs2.out).mono ?_
        rintro e ww4 ⟨a3, c3, b3, d3, rfl, hs3, hs4, he3, he4, hk⟩
        have g3 := fr_of_fitS G1.out he3
        have g4 := fr_of_fitS' G2.out he4
        rw [← HR.out] at hs3 hs4 g3 g4 ⊢
        clear he3 he4
        have z4 := hk.size
        replace fR0 := kf hk nR0 fR0
        replace fR1 := kf hk nR1 fR1
        replace fR2 := kf hk nR2 fR2
        replace fR3 := kf hk nR3 fR3
        replace fR4 := kf hk nR4 fR4
        replace nA0 := kc hk nA0
        replace nA1 := kc hk nA1
        replace nA2 := kc hk nA2
        replace nA3 := kc hk nA3
        replace nB0 := kc hk nB0
        replace nB1 := kc hk nB1
        replace nB2 := kc hk nB2
        replace nB3 := kc hk nB3
        replace nR0 := kc hk nR0
        replace nR1 := kc hk nR1
        replace nR2 := kc hk nR2
        replace nR3 := kc hk nR3
        replace nR4 := kc hk nR4
        replace H1 := Lib.hid (H1.out.kept0 hk)
        replace H2 := Lib.hid (H2.out.kept0 hk)
        replace H3 := Lib.hid (H3.out.kept0 hk)
        replace H4 := Lib.hid (H4.out.kept0 hk)
        replace hs1 := Lib.hid (hs1.out.kept0 hk)
        replace hs2 := Lib.hid (hs2.out.kept0 hk)
        replace KT := Lib.hid (KT.out.trans0 hk)
        clear hk
        have hs3 := Lib.hid hs3
        have hs4 := Lib.hid hs4
        have G3 := Lib.hid (g3.mono (B' := w.heap.size + 1 + 1 + 1) (by omega))
        have G4 := Lib.hid (g4.mono (B' := w.heap.size + 1 + 1 + 1) (by omega))
        clear g3 g4
        clear hs1 hs2
        have tR0 := nR0.out
        have tR1 := nR1.out
        have tR2 := nR2.out
        have tR3 := nR3.out
        have tR4 := nR4.out
        have uR0 := fR0.out
        have uR1 := fR1.out
        have uR2 := fR2.out
        have uR3 := fR3.out
        have uR4 := fR4.out
        go_wp2_with fail
        clear tR0 tR1 tR2 tR3 tR4 uR0 uR1 uR2 uR3 uR4
        generalize hW : (((((ww4.setCell ⟨w.heap.size + 1 + 1, 0, none⟩ (.int .i64 r.code)).setCell ⟨w.heap.size + 1 + 1, 1, none⟩ (.bool (isNeg r.lo))).setCell ⟨w.heap.size + 1 + 1, 2, none⟩ (.slice a3 (mag r.lo).length c3)).setCell ⟨w.heap.size + 1 + 1, 3, none⟩ (.bool (isNeg r.hi))).setCell ⟨w.heap.size + 1 + 1, 4, none⟩ (.slice b3 (mag r.hi).length d3)) = ww5
        have hk : Kept [w.heap.size + 1 + 1] ww4 ww5 := by rw [← hW]; exact (((((Kept.refl _ _).setCell _ _ (by simp)).setCell _ _ (by simp)).setCell _ _ (by simp)).setCell _ _ (by simp)).setCell _ _ (by simp)
        have hfz : ∀ x, ww5.frozen? x = ww4.frozen? x := by rw [← hW]; intro x; simp only [World.frozen?_setCell]
        obtain ⟨e0, e1, e2, e3, e4⟩ := st5 hW.symm nR0.out nR1.out nR2.out nR3.out nR4.out
        have z5 := hk.size
        replace fR0 := kz hfz fR0
        replace fR1 := kz hfz fR1
        replace fR2 := kz hfz fR2
        replace fR3 := kz hfz fR3
        replace fR4 := kz hfz fR4
        replace nA0 := kd hk nA0 (by simp <;> omega)
        replace nA1 := kd hk nA1 (by simp <;> omega)
        replace nA2 := kd hk nA2 (by simp <;> omega)
        replace nA3 := kd hk nA3 (by simp <;> omega)
        replace nB0 := kd hk nB0 (by simp <;> omega)
        replace nB1 := kd hk nB1 (by simp <;> omega)
        replace nB2 := kd hk nB2 (by simp <;> omega)
        replace nB3 := kd hk nB3 (by simp <;> omega)
        replace H1 := Lib.hid (H1.out.kept hk (fun hn y hy hm => by have h9 := F1.out hn y hy; simp at hm; omega))
        replace H2 := Lib.hid (H2.out.kept hk (fun hn y hy hm => by have h9 := F2.out hn y hy; simp at hm; omega))
        replace H3 := Lib.hid (H3.out.kept hk (fun hn y hy hm => by have h9 := F3.out hn y hy; simp at hm; omega))
        replace H4 := Lib.hid (H4.out.kept hk (fun hn y hy hm => by have h9 := F4.out hn y hy; simp at hm; omega))
        replace hs3 := Lib.hid (hs3.out.kept hk (fun hn y hy hm => by have h9 := G3.out hn y hy; simp at hm; omega))
        replace hs4 := Lib.hid (hs4.out.kept hk (fun hn y hy hm => by have h9 := G4.out hn y hy; simp at hm; omega))
        replace nR0 := Lib.hid e0
        replace nR1 := Lib.hid e1
        replace nR2 := Lib.hid e2
        replace nR3 := Lib.hid e3
        replace nR4 := Lib.hid e4
        replace KT := Lib.hid (KT.out.trans hk (fun x hx hlt => by simp at hx; omega))
        clear hk hfz hW e0 e1 e2 e3 e4
        have e0 := nR0.out
        have e1 := nR1.out
        have e2 := nR2.out
        have e3 := nR3.out
        have e4 := nR4.out
        refine bodyPost_ret (v := .agg #[.int .i64 r.code, .bool (isNeg r.lo), .slice a3 (mag r.lo).length c3, .bool (isNeg r.hi), .slice b3 (mag r.hi).length d3]) (by simp [results, Try.results6, go_sem, e0, e1, e2, e3, e4]) rfl ?_
        exact ⟨a3, c3, b3, d3, rfl, hs3.out, hs4.out, G3.out.mono (by omega), G4.out.mono (by omega), KT.out⟩
    · skip
      rw [show divS P p xs q ys p' xs' q' ys' = noSpan (spanFault2 p xs q ys p' xs' q' ys') from askS_bad hP hz]
      obtain ⟨f, hf⟩ : ∃ f, f = spanFault2 p xs q ys p' xs' q' ys' := ⟨_, rfl⟩
      have HZ := Lib.hid (show precS P (spanFault2 p xs q ys p' xs' q' ys') = f by unfold precS; rw [if_pos hP]; exact hf.symm)
      rw [← hf]
      have hne : (f == 0) = false := by rw [beq_eq_false_iff_ne, hf]; exact hz
      clear hf hz hP
      go_enter Try.func6, Try.ntmps6
      go_wp2_with fail
      generalize hW : (((w.alloc (.cells #[.bool p, .slice a n c, .bool q, .slice b m d] 30)).alloc (.cells #[.bool p', .slice a' n' c', .bool q', .slice b' m' d'] 30)).alloc (.cells #[.int .i64 0, .bool false, .slice none 0 0, .bool false, .slice none 0 0] 32)) = ww0
      have hkk : Kept [] (((w.alloc (.cells #[.bool p, .slice a n c, .bool q, .slice b m d] 30)).alloc (.cells #[.bool p', .slice a' n' c', .bool q', .slice b' m' d'] 30)).alloc (.cells #[.int .i64 0, .bool false, .slice none 0 0, .bool false, .slice none 0 0] 32)) ww0 := by rw [hW]; exact Kept.refl _ _
      have zzA : w.heap.size + 1 + 1 + 1 = ww0.heap.size := by rw [← hW]; simp
      obtain ⟨⟨nA0, nA1, nA2, nA3⟩, _⟩ := tp4 hkk.peel.peel (g := w.heap.size) (by simp) (by simp)
      obtain ⟨⟨nB0, nB1, nB2, nB3⟩, _⟩ := tp4 hkk.peel (g := w.heap.size + 1) (by simp) (by simp)
      obtain ⟨⟨nR0, nR1, nR2, nR3, nR4⟩, fR0, fR1, fR2, fR3, fR4⟩ := tp5 hkk (g := w.heap.size + 1 + 1) (by simp) (by simp)
      have hk := hkk.peel.peel.peel
      clear hkk hW
      have z0 := hk.size
      have KT := Lib.hid hk
      clear hk
      replace H1 := Lib.hid (H1.out.kept0 KT.out)
      replace H2 := Lib.hid (H2.out.kept0 KT.out)
      replace H3 := Lib.hid (H3.out.kept0 KT.out)
      replace H4 := Lib.hid (H4.out.kept0 KT.out)
      refine (l3Asked_any P _ _ _ _ _ _ _ _ _ _ _ _ _ _ _ _ _ _ _ _ _ H1.out H2.out H3.out H4.out).mono ?_
      rintro e ww1 ⟨rfl, hk⟩
      rw [HZ.out]
      have z1 := hk.size
      replace fR0 := kf hk nR0 fR0
      replace fR1 := kf hk nR1 fR1
      replace fR2 := kf hk nR2 fR2
      replace fR3 := kf hk nR3 fR3
      replace fR4 := kf hk nR4 fR4
      replace nA0 := kc hk nA0
      replace nA1 := kc hk nA1
      replace nA2 := kc hk nA2
      replace nA3 := kc hk nA3
      replace nB0 := kc hk nB0
      replace nB1 := kc hk nB1
      replace nB2 := kc hk nB2
      replace nB3 := kc hk nB3
      replace nR0 := kc hk nR0
      replace nR1 := kc hk nR1
      replace nR2 := kc hk nR2
      replace nR3 := kc hk nR3
      replace nR4 := kc hk nR4
      replace H1 := Lib.hid (H1.out.kept0 hk)
      replace H2 := Lib.hid (H2.out.kept0 hk)
      replace H3 := Lib.hid (H3.out.kept0 hk)
      replace H4 := Lib.hid (H4.out.kept0 hk)
      replace KT := Lib.hid (KT.out.trans0 hk)
      clear hk
      have tA0 := nA0.out
      have tA1 := nA1.out
      have tA2 := nA2.out
      have tA3 := nA3.out
      have tB0 := nB0.out
      have tB1 := nB1.out
      have tB2 := nB2.out
      have tB3 := nB3.out
      have tR0 := nR0.out
      have tR1 := nR1.out
      have tR2 := nR2.out
      have tR3 := nR3.out
      have tR4 := nR4.out
      have uR0 := fR0.out
      have uR1 := fR1.out
      have uR2 := fR2.out
      have uR3 := fR3.out
      have uR4 := fR4.out
      go_wp2_with fail
      clear tA0 tA1 tA2 tA3 tB0 tB1 tB2 tB3 tR0 tR1 tR2 tR3 tR4 uR0 uR1 uR2 uR3 uR4
      generalize hW : (((((ww1.setCell ⟨w.heap.size + 1 + 1, 0, none⟩ (.int .i64 f)).setCell ⟨w.heap.size + 1 + 1, 1, none⟩ (.bool false)).setCell ⟨w.heap.size + 1 + 1, 2, none⟩ (.slice none 0 0)).setCell ⟨w.heap.size + 1 + 1, 3, none⟩ (.bool false)).setCell ⟨w.heap.size + 1 + 1, 4, none⟩ (.slice none 0 0)) = ww2
      have hk : Kept [w.heap.size + 1 + 1] ww1 ww2 := by rw [← hW]; exact (((((Kept.refl _ _).setCell _ _ (by simp)).setCell _ _ (by simp)).setCell _ _ (by simp)).setCell _ _ (by simp)).setCell _ _ (by simp)
      have hfz : ∀ x, ww2.frozen? x = ww1.frozen? x := by rw [← hW]; intro x; simp only [World.frozen?_setCell]
      obtain ⟨e0, e1, e2, e3, e4⟩ := st5 hW.symm nR0.out nR1.out nR2.out nR3.out nR4.out
      have z2 := hk.size
      replace fR0 := kz hfz fR0
      replace fR1 := kz hfz fR1
      replace fR2 := kz hfz fR2
      replace fR3 := kz hfz fR3
      replace fR4 := kz hfz fR4
      replace nA0 := kd hk nA0 (by simp <;> omega)
      replace nA1 := kd hk nA1 (by simp <;> omega)
      replace nA2 := kd hk nA2 (by simp <;> omega)
      replace nA3 := kd hk nA3 (by simp <;> omega)
      replace nB0 := kd hk nB0 (by simp <;> omega)
      replace nB1 := kd hk nB1 (by simp <;> omega)
      replace nB2 := kd hk nB2 (by simp <;> omega)
      replace nB3 := kd hk nB3 (by simp <;> omega)
      replace H1 := Lib.hid (H1.out.kept hk (fun hn y hy hm => by have h9 := F1.out hn y hy; simp at hm; omega))
      replace H2 := Lib.hid (H2.out.kept hk (fun hn y hy hm => by have h9 := F2.out hn y hy; simp at hm; omega))
      replace H3 := Lib.hid (H3.out.kept hk (fun hn y hy hm => by have h9 := F3.out hn y hy; simp at hm; omega))
      replace H4 := Lib.hid (H4.out.kept hk (fun hn y hy hm => by have h9 := F4.out hn y hy; simp at hm; omega))
      replace nR0 := Lib.hid e0
      replace nR1 := Lib.hid e1
      replace nR2 := Lib.hid e2
      replace nR3 := Lib.hid e3
      replace nR4 := Lib.hid e4
      replace KT := Lib.hid (KT.out.trans hk (fun x hx hlt => by simp at hx; omega))
      clear hk hfz hW e0 e1 e2 e3 e4
      have e0 := nR0.out
      have e1 := nR1.out
      have e2 := nR2.out
      have e3 := nR3.out
      have e4 := nR4.out
      refine bodyPost_ret (v := .agg #[.int .i64 f, .bool false, .slice none 0 0, .bool false, .slice none 0 0]) (by simp [results, Try.results6, go_sem, e0, e1, e2, e3, e4]) rfl ?_
      exact spanM_no KT.out
  · skip
    rw [show divS P p xs q ys p' xs' q' ys' = noSpan 3 from askS_no hP]
    have HZ := Lib.hid (show precS P (spanFault2 p xs q ys p' xs' q' ys') = 3 from if_neg hP)
    clear hP
    go_enter Try.func6, Try.ntmps6
    go_wp2_with fail
    generalize hW : (((w.alloc (.cells #[.bool p, .slice a n c, .bool q, .slice b m d] 30)).alloc (.cells #[.bool p', .slice a' n' c', .bool q', .slice b' m' d'] 30)).alloc (.cells #[.int .i64 0, .bool false, .slice none 0 0, .bool false, .slice none 0 0] 32)) = ww0
    have hkk : Kept [] (((w.alloc (.cells #[.bool p, .slice a n c, .bool q, .slice b m d] 30)).alloc (.cells #[.bool p', .slice a' n' c', .bool q', .slice b' m' d'] 30)).alloc (.cells #[.int .i64 0, .bool false, .slice none 0 0, .bool false, .slice none 0 0] 32)) ww0 := by rw [hW]; exact Kept.refl _ _
    have zzA : w.heap.size + 1 + 1 + 1 = ww0.heap.size := by rw [← hW]; simp
    obtain ⟨⟨nA0, nA1, nA2, nA3⟩, _⟩ := tp4 hkk.peel.peel (g := w.heap.size) (by simp) (by simp)
    obtain ⟨⟨nB0, nB1, nB2, nB3⟩, _⟩ := tp4 hkk.peel (g := w.heap.size + 1) (by simp) (by simp)
    obtain ⟨⟨nR0, nR1, nR2, nR3, nR4⟩, fR0, fR1, fR2, fR3, fR4⟩ := tp5 hkk (g := w.heap.size + 1 + 1) (by simp) (by simp)
    have hk := hkk.peel.peel.peel
    clear hkk hW
    have z0 := hk.size
    have KT := Lib.hid hk
    clear hk
    replace H1 := Lib.hid (H1.out.kept0 KT.out)
    replace H2 := Lib.hid (H2.out.kept0 KT.out)
    replace H3 := Lib.hid (H3.out.kept0 KT.out)
    replace H4 := Lib.hid (H4.out.kept0 KT.out)
    refine (l3Asked_any P _ _ _ _ _ _ _ _ _ _ _ _ _ _ _ _ _ _ _ _ _ H1.out H2.out H3.out H4.out).mono ?_
    rintro e ww1 ⟨rfl, hk⟩
    rw [HZ.out]
    have z1 := hk.size
    replace fR0 := kf hk nR0 fR0
    replace fR1 := kf hk nR1 fR1
    replace fR2 := kf hk nR2 fR2
    replace fR3 := kf hk nR3 fR3
    replace fR4 := kf hk nR4 fR4
    replace nA0 := kc hk nA0
    replace nA1 := kc hk nA1
    replace nA2 := kc hk nA2
    replace nA3 := kc hk nA3
    replace nB0 := kc hk nB0
    replace nB1 := kc hk nB1
    replace nB2 := kc hk nB2
    replace nB3 := kc hk nB3
    replace nR0 := kc hk nR0
    replace nR1 := kc hk nR1
    replace nR2 := kc hk nR2
    replace nR3 := kc hk nR3
    replace nR4 := kc hk nR4
    replace H1 := Lib.hid (H1.out.kept0 hk)
    replace H2 := Lib.hid (H2.out.kept0 hk)
    replace H3 := Lib.hid (H3.out.kept0 hk)
    replace H4 := Lib.hid (H4.out.kept0 hk)
    replace KT := Lib.hid (KT.out.trans0 hk)
    clear hk
    have tA0 := nA0.out
    have tA1 := nA1.out
    have tA2 := nA2.out
    have tA3 := nA3.out
    have tB0 := nB0.out
    have tB1 := nB1.out
    have tB2 := nB2.out
    have tB3 := nB3.out
    have tR0 := nR0.out
    have tR1 := nR1.out
    have tR2 := nR2.out
    have tR3 := nR3.out
    have tR4 := nR4.out
    have uR0 := fR0.out
    have uR1 := fR1.out
    have uR2 := fR2.out
    have uR3 := fR3.out
    have uR4 := fR4.out
    go_wp2_with fail
    clear tA0 tA1 tA2 tA3 tB0 tB1 tB2 tB3 tR0 tR1 tR2 tR3 tR4 uR0 uR1 uR2 uR3 uR4
    generalize hW : (((((ww1.setCell ⟨w.heap.size + 1 + 1, 0, none⟩ (.int .i64 3)).setCell ⟨w.heap.size + 1 + 1, 1, none⟩ (.bool false)).setCell ⟨w.heap.size + 1 + 1, 2, none⟩ (.slice none 0 0)).setCell ⟨w.heap.size + 1 + 1, 3, none⟩ (.bool false)).setCell ⟨w.heap.size + 1 + 1, 4, none⟩ (.slice none 0 0)) = ww2
    have hk : Kept [w.heap.size + 1 + 1] ww1 ww2 := by rw [← hW]; exact (((((Kept.refl _ _).setCell _ _ (by simp)).setCell _ _ (by simp)).setCell _ _ (by simp)).setCell _ _ (by simp)).setCell _ _ (by simp)
    have hfz : ∀ x, ww2.frozen? x = ww1.frozen? x := by rw [← hW]; intro x; simp only [World.frozen?_setCell]
    obtain ⟨e0, e1, e2, e3, e4⟩ := st5 hW.symm nR0.out nR1.out nR2.out nR3.out nR4.out
    have z2 := hk.size
    replace fR0 := kz hfz fR0
    replace fR1 := kz hfz fR1
    replace fR2 := kz hfz fR2
    replace fR3 := kz hfz fR3
    replace fR4 := kz hfz fR4
    replace nA0 := kd hk nA0 (by simp <;> omega)
    replace nA1 := kd hk nA1 (by simp <;> omega)
    replace nA2 := kd hk nA2 (by simp <;> omega)
    replace nA3 := kd hk nA3 (by simp <;> omega)
    replace nB0 := kd hk nB0 (by simp <;> omega)
    replace nB1 := kd hk nB1 (by simp <;> omega)
    replace nB2 := kd hk nB2 (by simp <;> omega)
    replace nB3 := kd hk nB3 (by simp <;> omega)
    replace H1 := Lib.hid (H1.out.kept hk (fun hn y hy hm => by have h9 := F1.out hn y hy; simp at hm; omega))
    replace H2 := Lib.hid (H2.out.kept hk (fun hn y hy hm => by have h9 := F2.out hn y hy; simp at hm; omega))
    replace H3 := Lib.hid (H3.out.kept hk (fun hn y hy hm => by have h9 := F3.out hn y hy; simp at hm; omega))
    replace H4 := Lib.hid (H4.out.kept hk (fun hn y hy hm => by have h9 := F4.out hn y hy; simp at hm; omega))
    replace nR0 := Lib.hid e0
    replace nR1 := Lib.hid e1
    replace nR2 := Lib.hid e2
    replace nR3 := Lib.hid e3
    replace nR4 := Lib.hid e4
    replace KT := Lib.hid (KT.out.trans hk (fun x hx hlt => by simp at hx; omega))
    clear hk hfz hW e0 e1 e2 e3 e4
    have e0 := nR0.out
    have e1 := nR1.out
    have e2 := nR2.out
    have e3 := nR3.out
    have e4 := nR4.out
    refine bodyPost_ret (v := .agg #[.int .i64 3, .bool false, .slice none 0 0, .bool false, .slice none 0 0]) (by simp [results, Try.results6, go_sem, e0, e1, e2, e3, e4]) rfl ?_
    exact spanM_no KT.out

end Go.Proofs.Ytofpommikmdlfaa
