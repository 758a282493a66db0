/-
  Contracts of AddSpan and SubSpan. Conditions: the limbs read as lists of numbers.
-/
import Derived.Deep.RegionHeld3
import Derived.Deep.DrawnRows
import Derived.Deep.DeepCutAuto
import Derived.Test.YtaemfcllodmlkaaSpanF
namespace Go.Proofs.Ytaemfcllodmlkaa
open Go.RowKit

theorem field_big (v0 v1 v2 : Value) (w : World) : Sem.run Try.prog (Instr.field 55 (.agg #[v0, v1, v2]) 1) w = .ok (.agg #[v1, v2]) w := by kernel_rfl
attribute [local go_sem ↓] field_big
/-- A call that answers a big's result without a code. -/
def BigZ (w : World) (z : Int) (e : Ending) (w' : World) : Prop :=
  ∃ a c, e = .returned (.agg #[.int .i64 0, .bool (isNeg z), .slice a (mag z).length c]) ∧ Sl w' a (mag z).length c (mag z) ∧ Fr w.heap.size a (mag z).length ∧ Kept [] w w'
theorem AddBigs_z (p q : Bool) (a b : Option Addr) (n c m d : Nat) (xs ys : List Int) (z : Int) (w : World) (h : Sl w a n c xs) (h' : Sl w b m d ys) (hx : BigOk p xs) (hy : BigOk q ys) (lx : xs.length ≤ 20) (ly : ys.length ≤ 20) (hz : z = sv p xs + sv q ys) :
    Calls Try.prog 42 #[.agg #[.bool p, .slice a n c], .agg #[.bool q, .slice b m d]] w (BigZ w z) := by
  have := AddBigs_any p q a b n c m d xs ys w h h'
  rw [addB_z hx hy lx ly hz] at this
  exact this
theorem SubBigs_z (p q : Bool) (a b : Option Addr) (n c m d : Nat) (xs ys : List Int) (z : Int) (w : World) (h : Sl w a n c xs) (h' : Sl w b m d ys) (hx : BigOk p xs) (hy : BigOk q ys) (lx : xs.length ≤ 20) (ly : ys.length ≤ 20) (hz : z = sv p xs - sv q ys) :
    Calls Try.prog 46 #[.agg #[.bool p, .slice a n c], .agg #[.bool q, .slice b m d]] w (BigZ w z) := by
  have := SubBigs_any p q a b n c m d xs ys w h h'
  rw [subB_z hx hy lx ly hz] at this
  exact this

set_option maxHeartbeats 8000000 in
set_option maxRecDepth 20000 in
theorem AddSpan_any (p q : Bool) (a b : Option Addr) (n c m d : Nat) (xs ys : List Int) (p' q' : Bool) (a' b' : Option Addr) (n' c' m' d' : Nat) (xs' ys' : List Int) (w : World) (h1 : Sl w a n c xs) (h2 : Sl w b m d ys) (h3 : Sl w a' n' c' xs') (h4 : Sl w b' m' d' ys') :
    Calls Try.prog 15 #[.agg #[.bool p, .slice a n c, .bool q, .slice b m d], .agg #[.bool p', .slice a' n' c', .bool q', .slice b' m' d']] w (SpanR w (addS p xs q ys p' xs' q' ys')) := by
  have H1 := Lib.hid h1
  have H2 := Lib.hid h2
  have H3 := Lib.hid h3
  have H4 := Lib.hid h4
  clear h1 h2 h3 h4
  have F1 := Lib.hid H1.out.lt
  have F2 := Lib.hid H2.out.lt
  have F3 := Lib.hid H3.out.lt
  have F4 := Lib.hid H4.out.lt
  by_cases hz : spanFault2 p xs q ys p' xs' q' ys' = 0
  · skip
    obtain ⟨t1, ht1⟩ : ∃ t, t = sv p xs + sv p' xs' := ⟨_, rfl⟩
    obtain ⟨t2, ht2⟩ : ∃ t, t = sv q ys + sv q' ys' := ⟨_, rfl⟩
    obtain ⟨r, hr⟩ : ∃ r, r = fitS t1 t2 := ⟨_, rfl⟩
    rw [show addS p xs q ys p' xs' q' ys' = r from by unfold addS; rw [twoS_zero hz, hr, ht1, ht2]]
    have HZ := Lib.hid hz
    obtain ⟨ox, oy⟩ := spanFault2_zero hz
    have OX := Lib.hid ox
    have OY := Lib.hid oy
    clear ox oy hz
    have B1 := Lib.hid OX.out.lo
    have B2 := Lib.hid OX.out.hi
    have B3 := Lib.hid OY.out.lo
    have B4 := Lib.hid OY.out.hi
    have X1 := Lib.hid OX.out.lx
    have X2 := Lib.hid OX.out.ly
    have X3 := Lib.hid OY.out.lx
    have X4 := Lib.hid OY.out.ly
    have HT1 := Lib.hid ht1
    have HT2 := Lib.hid ht2
    have HR := Lib.hid hr
    clear ht1 ht2 hr
    go_enter Try.func15, Try.ntmps15
    go_wp2_with fail
    generalize hW : (((w.alloc (.cells #[.bool p, .slice a n c, .bool q, .slice b m d] 31)).alloc (.cells #[.bool p', .slice a' n' c', .bool q', .slice b' m' d'] 31)).alloc (.cells #[.int .i64 0, .bool false, .slice none 0 0, .bool false, .slice none 0 0] 36)) = ww0
    have hkk : Kept [] (((w.alloc (.cells #[.bool p, .slice a n c, .bool q, .slice b m d] 31)).alloc (.cells #[.bool p', .slice a' n' c', .bool q', .slice b' m' d'] 31)).alloc (.cells #[.int .i64 0, .bool false, .slice none 0 0, .bool false, .slice none 0 0] 36)) ww0 := by rw [hW]; exact Kept.refl _ _
    have zzA : w.heap.size + 1 + 1 + 1 = ww0.heap.size := by rw [← hW]; simp
    obtain ⟨⟨nA0, nA1, nA2, nA3⟩, _⟩ := tp4 hkk.peel.peel (g := w.heap.size) (by simp) (by simp)
    obtain ⟨⟨nB0, nB1, nB2, nB3⟩, _⟩ := tp4 hkk.peel (g := w.heap.size + 1) (by simp) (by simp)
    obtain ⟨⟨nR0, nR1, nR2, nR3, nR4⟩, fR0, fR1, fR2, fR3, fR4⟩ := tp5 hkk (g := w.heap.size + 1 + 1) (by simp) (by simp)
    have hk := hkk.peel.peel.peel
    clear hkk hW
    have z0 := hk.size
    have KT := Lib.hid hk
    clear hk
    replace H1 := Lib.hid (H1.out.kept0 KT.out)
    replace H2 := Lib.hid (H2.out.kept0 KT.out)
    replace H3 := Lib.hid (H3.out.kept0 KT.out)
    replace H4 := Lib.hid (H4.out.kept0 KT.out)
    refine (firstSpanFault_two _ _ _ _ _ _ _ _ _ _ _ _ _ _ _ _ _ _ _ _ _ _ (by omega) H1.out H2.out H3.out H4.out).mono ?_
    rintro e ww1 ⟨rfl, hk⟩
    rw [HZ.out]
    have z1 := hk.size
    replace fR0 := kf hk nR0 fR0
    replace fR1 := kf hk nR1 fR1
    replace fR2 := kf hk nR2 fR2
    replace fR3 := kf hk nR3 fR3
    replace fR4 := kf hk nR4 fR4
    replace nA0 := kc hk nA0
    replace nA1 := kc hk nA1
    replace nA2 := kc hk nA2
    replace nA3 := kc hk nA3
    replace nB0 := kc hk nB0
    replace nB1 := kc hk nB1
    replace nB2 := kc hk nB2
    replace nB3 := kc hk nB3
    replace nR0 := kc hk nR0
    replace nR1 := kc hk nR1
    replace nR2 := kc hk nR2
    replace nR3 := kc hk nR3
    replace nR4 := kc hk nR4
    replace H1 := Lib.hid (H1.out.kept0 hk)
    replace H2 := Lib.hid (H2.out.kept0 hk)
    replace H3 := Lib.hid (H3.out.kept0 hk)
    replace H4 := Lib.hid (H4.out.kept0 hk)
    replace KT := Lib.hid (KT.out.trans0 hk)
    clear hk
    have tA0 := nA0.out
    have tA1 := nA1.out
    have tA2 := nA2.out
    have tA3 := nA3.out
    have tB0 := nB0.out
    have tB1 := nB1.out
    have tB2 := nB2.out
    have tB3 := nB3.out
    go_wp2_with fail
    clear tA0 tA1 tA2 tA3 tB0 tB1 tB2 tB3
    have tA0 := nA0.out
    have tA1 := nA1.out
    have tA2 := nA2.out
    have tA3 := nA3.out
    have tB0 := nB0.out
    have tB1 := nB1.out
    have tB2 := nB2.out
    have tB3 := nB3.out
    go_region_held3 (fun w' => w'.cell? ⟨w.heap.size, 0, none⟩ = some (.bool p) ∧ w'.cell? ⟨w.heap.size, 1, none⟩ = some (.slice a n c) ∧ w'.cell? ⟨w.heap.size, 2, none⟩ = some (.bool q) ∧ w'.cell? ⟨w.heap.size, 3, none⟩ = some (.slice b m d) ∧ w'.cell? ⟨w.heap.size + 1, 0, none⟩ = some (.bool p') ∧ w'.cell? ⟨w.heap.size + 1, 1, none⟩ = some (.slice a' n' c') ∧ w'.cell? ⟨w.heap.size + 1, 2, none⟩ = some (.bool q') ∧ w'.cell? ⟨w.heap.size + 1, 3, none⟩ = some (.slice b' m' d') ∧ Hid (Kept [w.heap.size + 1 + 1] ww1 w'))
      ((go_split_ands; (try refine ⟨?_, ?_, ?_, ?_, ?_, ?_, ?_, ?_, ?_⟩) <;> with_reducible first | exact Kept.set5 (by assumption) | exact cell_set5 (by assumption) (by simp <;> omega) | exact Lib.hid ((Kept.refl _ _).drew) | exact drew_cell (by assumption) | exact Kept.allocH (by assumption) | exact alloc_cell (by assumption) | exact Lib.hid (Kept.trans0 (Hid.out (by assumption)) (by assumption)) | exact Kept.cell (by assumption) (by assumption) (by simp)))
      (first
        | (go_at_call_of 42 (Value.agg #[Value.bool p, Value.slice a n c]); go_split_ands; refine (AddBigs_z _ _ _ _ _ _ _ _ _ _ _ _ (H1.out.kept0 ((Kept.refl [] _).drew)) (H3.out.kept0 ((Kept.refl [] _).drew)) B1.out B3.out X1.out X3.out HT1.out).mono ?_; rintro e v1 ⟨a1, c1, rfl, hs1, hf1, hk1⟩)
        | (go_at_call_of 42 (Value.agg #[Value.bool q, Value.slice b m d]); go_split_ands; refine (AddBigs_z _ _ _ _ _ _ _ _ _ _ _ _ (H2.out.kept0 (((Kept.refl [] _).drew).trans0 hk1)) (H4.out.kept0 (((Kept.refl [] _).drew).trans0 hk1)) B2.out B4.out X2.out X4.out HT2.out).mono ?_; rintro e v2 ⟨a2, c2, rfl, hs2, hf2, hk2⟩)
        | (go_at_call 41; go_split_ands; refine (spanResult_any _ _ _ _ _ _ _ _ _ (hs1.kept0 hk2) hs2).mono ?_; rintro e v3 ⟨a3, c3, b3, d3, rfl, hs3, hs4, hf3, hf4, hne, hk3⟩; have z12 := (hk1.trans0 hk2).size; simp only [World.size_drew] at z12; have hkr := ((((Kept.refl [] ww1).drew).trans0 hk1).trans0 hk2).trans0 hk3; have rg0 := hkr.cell (p := ⟨w.heap.size + 1 + 1, 0, none⟩) nR0.out (by simp); have rg1 := hkr.cell (p := ⟨w.heap.size + 1 + 1, 1, none⟩) nR1.out (by simp); have rg2 := hkr.cell (p := ⟨w.heap.size + 1 + 1, 2, none⟩) nR2.out (by simp); have rg3 := hkr.cell (p := ⟨w.heap.size + 1 + 1, 3, none⟩) nR3.out (by simp); have rg4 := hkr.cell (p := ⟨w.heap.size + 1 + 1, 4, none⟩) nR4.out (by simp); have ru0 := hkr.free' (p := ⟨w.heap.size + 1 + 1, 0, none⟩) nR0.out fR0.out (by simp); have ru1 := hkr.free' (p := ⟨w.heap.size + 1 + 1, 1, none⟩) nR1.out fR1.out (by simp); have ru2 := hkr.free' (p := ⟨w.heap.size + 1 + 1, 2, none⟩) nR2.out fR2.out (by simp); have ru3 := hkr.free' (p := ⟨w.heap.size + 1 + 1, 3, none⟩) nR3.out fR3.out (by simp); have ru4 := hkr.free' (p := ⟨w.heap.size + 1 + 1, 4, none⟩) nR4.out fR4.out (by simp)))
    clear tA0 tA1 tA2 tA3 tB0 tB1 tB2 tB3
    have hk := hkr
    clear hkr
    clear hs1 hf1 hs2 hf2 hk1 hk2 hk3
    rw [← HR.out] at hs3 hs4 hf3 hf4 hne ⊢
    have z2 := hk.size
    replace fR0 := kf hk nR0 fR0
    replace fR1 := kf hk nR1 fR1
    replace fR2 := kf hk nR2 fR2
    replace fR3 := kf hk nR3 fR3
    replace fR4 := kf hk nR4 fR4
    replace nA0 := kc hk nA0
    replace nA1 := kc hk nA1
    replace nA2 := kc hk nA2
    replace nA3 := kc hk nA3
    replace nB0 := kc hk nB0
    replace nB1 := kc hk nB1
    replace nB2 := kc hk nB2
    replace nB3 := kc hk nB3
    replace nR0 := kc hk nR0
    replace nR1 := kc hk nR1
    replace nR2 := kc hk nR2
    replace nR3 := kc hk nR3
    replace nR4 := kc hk nR4
    replace H1 := Lib.hid (H1.out.kept0 hk)
    replace H2 := Lib.hid (H2.out.kept0 hk)
    replace H3 := Lib.hid (H3.out.kept0 hk)
    replace H4 := Lib.hid (H4.out.kept0 hk)
    replace KT := Lib.hid (KT.out.trans0 hk)
    clear hk
    have hs3 := Lib.hid hs3
    have hs4 := Lib.hid hs4
    have HNE := Lib.hid hne
    have G3 := Lib.hid (hf3.mono (B' := w.heap.size + 1 + 1 + 1) (by omega))
    have G4 := Lib.hid (hf4.mono (B' := w.heap.size + 1 + 1 + 1) (by omega))
    clear hf3 hf4 hne
    generalize hW : (((((v3.setCell ⟨w.heap.size + 1 + 1, 0, none⟩ (.int .i64 r.code)).setCell ⟨w.heap.size + 1 + 1, 1, none⟩ (.bool (isNeg r.lo))).setCell ⟨w.heap.size + 1 + 1, 2, none⟩ (.slice a3 (mag r.lo).length c3)).setCell ⟨w.heap.size + 1 + 1, 3, none⟩ (.bool (isNeg r.hi))).setCell ⟨w.heap.size + 1 + 1, 4, none⟩ (.slice b3 (mag r.hi).length d3)) = ww3
    have hk : Kept [w.heap.size + 1 + 1] v3 ww3 := by rw [← hW]; exact (((((Kept.refl _ _).setCell _ _ (by simp)).setCell _ _ (by simp)).setCell _ _ (by simp)).setCell _ _ (by simp)).setCell _ _ (by simp)
    have hfz : ∀ x, ww3.frozen? x = v3.frozen? x := by rw [← hW]; intro x; simp only [World.frozen?_setCell]
    obtain ⟨e0, e1, e2, e3, e4⟩ := st5 hW.symm nR0.out nR1.out nR2.out nR3.out nR4.out
    have z3 := hk.size
    replace fR0 := kz hfz fR0
    replace fR1 := kz hfz fR1
    replace fR2 := kz hfz fR2
    replace fR3 := kz hfz fR3
    replace fR4 := kz hfz fR4
    replace nA0 := kd hk nA0 (by simp <;> omega)
    replace nA1 := kd hk nA1 (by simp <;> omega)
    replace nA2 := kd hk nA2 (by simp <;> omega)
    replace nA3 := kd hk nA3 (by simp <;> omega)
    replace nB0 := kd hk nB0 (by simp <;> omega)
    replace nB1 := kd hk nB1 (by simp <;> omega)
    replace nB2 := kd hk nB2 (by simp <;> omega)
    replace nB3 := kd hk nB3 (by simp <;> omega)
    replace H1 := Lib.hid (H1.out.kept hk (fun hn y hy hm => by have h9 := F1.out hn y hy; simp at hm; omega))
    replace H2 := Lib.hid (H2.out.kept hk (fun hn y hy hm => by have h9 := F2.out hn y hy; simp at hm; omega))
    replace H3 := Lib.hid (H3.out.kept hk (fun hn y hy hm => by have h9 := F3.out hn y hy; simp at hm; omega))
    replace H4 := Lib.hid (H4.out.kept hk (fun hn y hy hm => by have h9 := F4.out hn y hy; simp at hm; omega))
    replace hs3 := Lib.hid (hs3.out.kept hk (fun hn y hy hm => by have h9 := G3.out hn y hy; simp at hm; omega))
    replace hs4 := Lib.hid (hs4.out.kept hk (fun hn y hy hm => by have h9 := G4.out hn y hy; simp at hm; omega))
    replace nR0 := Lib.hid e0
    replace nR1 := Lib.hid e1
    replace nR2 := Lib.hid e2
    replace nR3 := Lib.hid e3
    replace nR4 := Lib.hid e4
    replace KT := Lib.hid (KT.out.trans hk (fun x hx hlt => by simp at hx; omega))
    clear hk hfz hW e0 e1 e2 e3 e4
    go_wp2_with fail
    have e0 := nR0.out
    have e1 := nR1.out
    have e2 := nR2.out
    have e3 := nR3.out
    have e4 := nR4.out
    refine bodyPost_ret (v := .agg #[.int .i64 r.code, .bool (isNeg r.lo), .slice a3 (mag r.lo).length c3, .bool (isNeg r.hi), .slice b3 (mag r.hi).length d3]) (by simp [results, Try.results15, go_sem, e0, e1, e2, e3, e4]) rfl ?_
    exact ⟨a3, c3, b3, d3, rfl, hs3.out, hs4.out, G3.out.mono (by omega), G4.out.mono (by omega), HNE.out, KT.out⟩
  · skip
    rw [show addS p xs q ys p' xs' q' ys' = noSpan (spanFault2 p xs q ys p' xs' q' ys') from twoS_not hz]
    generalize hf : spanFault2 p xs q ys p' xs' q' ys' = f at *
    have hne : (f == 0) = false := by rw [beq_eq_false_iff_ne]; exact hz
    have HZ := Lib.hid hf
    clear hf hz
    go_enter Try.func15, Try.ntmps15
    go_wp2_with fail
    generalize hW : (((w.alloc (.cells #[.bool p, .slice a n c, .bool q, .slice b m d] 31)).alloc (.cells #[.bool p', .slice a' n' c', .bool q', .slice b' m' d'] 31)).alloc (.cells #[.int .i64 0, .bool false, .slice none 0 0, .bool false, .slice none 0 0] 36)) = ww0
    have hkk : Kept [] (((w.alloc (.cells #[.bool p, .slice a n c, .bool q, .slice b m d] 31)).alloc (.cells #[.bool p', .slice a' n' c', .bool q', .slice b' m' d'] 31)).alloc (.cells #[.int .i64 0, .bool false, .slice none 0 0, .bool false, .slice none 0 0] 36)) ww0 := by rw [hW]; exact Kept.refl _ _
    have zzA : w.heap.size + 1 + 1 + 1 = ww0.heap.size := by rw [← hW]; simp
    obtain ⟨⟨nA0, nA1, nA2, nA3⟩, _⟩ := tp4 hkk.peel.peel (g := w.heap.size) (by simp) (by simp)
    obtain ⟨⟨nB0, nB1, nB2, nB3⟩, _⟩ := tp4 hkk.peel (g := w.heap.size + 1) (by simp) (by simp)
    obtain ⟨⟨nR0, nR1, nR2, nR3, nR4⟩, fR0, fR1, fR2, fR3, fR4⟩ := tp5 hkk (g := w.heap.size + 1 + 1) (by simp) (by simp)
    have hk := hkk.peel.peel.peel
    clear hkk hW
    have z0 := hk.size
    have KT := Lib.hid hk
    clear hk
    replace H1 := Lib.hid (H1.out.kept0 KT.out)
    replace H2 := Lib.hid (H2.out.kept0 KT.out)
    replace H3 := Lib.hid (H3.out.kept0 KT.out)
    replace H4 := Lib.hid (H4.out.kept0 KT.out)
    refine (firstSpanFault_two _ _ _ _ _ _ _ _ _ _ _ _ _ _ _ _ _ _ _ _ _ _ (by omega) H1.out H2.out H3.out H4.out).mono ?_
    rintro e ww1 ⟨rfl, hk⟩
    rw [HZ.out]
    have z1 := hk.size
    replace fR0 := kf hk nR0 fR0
    replace fR1 := kf hk nR1 fR1
    replace fR2 := kf hk nR2 fR2
    replace fR3 := kf hk nR3 fR3
    replace fR4 := kf hk nR4 fR4
    replace nA0 := kc hk nA0
    replace nA1 := kc hk nA1
    replace nA2 := kc hk nA2
    replace nA3 := kc hk nA3
    replace nB0 := kc hk nB0
    replace nB1 := kc hk nB1
    replace nB2 := kc hk nB2
    replace nB3 := kc hk nB3
    replace nR0 := kc hk nR0
    replace nR1 := kc hk nR1
    replace nR2 := kc hk nR2
    replace nR3 := kc hk nR3
    replace nR4 := kc hk nR4
    replace H1 := Lib.hid (H1.out.kept0 hk)
    replace H2 := Lib.hid (H2.out.kept0 hk)
    replace H3 := Lib.hid (H3.out.kept0 hk)
    replace H4 := Lib.hid (H4.out.kept0 hk)
    replace KT := Lib.hid (KT.out.trans0 hk)
    clear hk
    have tR0 := nR0.out
    have tR1 := nR1.out
    have tR2 := nR2.out
    have tR3 := nR3.out
    have tR4 := nR4.out
    have uR0 := fR0.out
    have uR1 := fR1.out
    have uR2 := fR2.out
    have uR3 := fR3.out
    have uR4 := fR4.out
    go_wp2_with fail
    clear tR0 tR1 tR2 tR3 tR4 uR0 uR1 uR2 uR3 uR4
    generalize hW : (((((ww1.setCell ⟨w.heap.size + 1 + 1, 0, none⟩ (.int .i64 f)).setCell ⟨w.heap.size + 1 + 1, 1, none⟩ (.bool false)).setCell ⟨w.heap.size + 1 + 1, 2, none⟩ (.slice none 0 0)).setCell ⟨w.heap.size + 1 + 1, 3, none⟩ (.bool false)).setCell ⟨w.heap.size + 1 + 1, 4, none⟩ (.slice none 0 0)) = ww2
    have hk : Kept [w.heap.size + 1 + 1] ww1 ww2 := by rw [← hW]; exact (((((Kept.refl _ _).setCell _ _ (by simp)).setCell _ _ (by simp)).setCell _ _ (by simp)).setCell _ _ (by simp)).setCell _ _ (by simp)
    have hfz : ∀ x, ww2.frozen? x = ww1.frozen? x := by rw [← hW]; intro x; simp only [World.frozen?_setCell]
    obtain ⟨e0, e1, e2, e3, e4⟩ := st5 hW.symm nR0.out nR1.out nR2.out nR3.out nR4.out
    have z2 := hk.size
    replace fR0 := kz hfz fR0
    replace fR1 := kz hfz fR1
    replace fR2 := kz hfz fR2
    replace fR3 := kz hfz fR3
    replace fR4 := kz hfz fR4
    replace nA0 := kd hk nA0 (by simp <;> omega)
    replace nA1 := kd hk nA1 (by simp <;> omega)
    replace nA2 := kd hk nA2 (by simp <;> omega)
    replace nA3 := kd hk nA3 (by simp <;> omega)
    replace nB0 := kd hk nB0 (by simp <;> omega)
    replace nB1 := kd hk nB1 (by simp <;> omega)
    replace nB2 := kd hk nB2 (by simp <;> omega)
    replace nB3 := kd hk nB3 (by simp <;> omega)
    replace H1 := Lib.hid (H1.out.kept hk (fun hn y hy hm => by have h9 := F1.out hn y hy; simp at hm; omega))
    replace H2 := Lib.hid (H2.out.kept hk (fun hn y hy hm => by have h9 := F2.out hn y hy; simp at hm; omega))
    replace H3 := Lib.hid (H3.out.kept hk (fun hn y hy hm => by have h9 := F3.out hn y hy; simp at hm; omega))
    replace H4 := Lib.hid (H4.out.kept hk (fun hn y hy hm => by have h9 := F4.out hn y hy; simp at hm; omega))
    replace nR0 := Lib.hid e0
    replace nR1 := Lib.hid e1
    replace nR2 := Lib.hid e2
    replace nR3 := Lib.hid e3
    replace nR4 := Lib.hid e4
    replace KT := Lib.hid (KT.out.trans hk (fun x hx hlt => by simp at hx; omega))
    clear hk hfz hW e0 e1 e2 e3 e4
    have e0 := nR0.out
    have e1 := nR1.out
    have e2 := nR2.out
    have e3 := nR3.out
    have e4 := nR4.out
    refine bodyPost_ret (v := .agg #[.int .i64 f, .bool false, .slice none 0 0, .bool false, .slice none 0 0]) (by simp [results, Try.results15, go_sem, e0, e1, e2, e3, e4]) rfl ?_
    exact spanR_no KT.out

set_option maxHeartbeats 8000000 in
set_option maxRecDepth 20000 in
theorem SubSpan_any (p q : Bool) (a b : Option Addr) (n c m d : Nat) (xs ys : List Int) (p' q' : Bool) (a' b' : Option Addr) (n' c' m' d' : Nat) (xs' ys' : List Int) (w : World) (h1 : Sl w a n c xs) (h2 : Sl w b m d ys) (h3 : Sl w a' n' c' xs') (h4 : Sl w b' m' d' ys') :
    Calls Try.prog 21 #[.agg #[.bool p, .slice a n c, .bool q, .slice b m d], .agg #[.bool p', .slice a' n' c', .bool q', .slice b' m' d']] w (SpanR w (subS p xs q ys p' xs' q' ys')) := by
  have H1 := Lib.hid h1
  have H2 := Lib.hid h2
  have H3 := Lib.hid h3
  have H4 := Lib.hid h4
  clear h1 h2 h3 h4
  have F1 := Lib.hid H1.out.lt
  have F2 := Lib.hid H2.out.lt
  have F3 := Lib.hid H3.out.lt
  have F4 := Lib.hid H4.out.lt
  by_cases hz : spanFault2 p xs q ys p' xs' q' ys' = 0
  · skip
    obtain ⟨t1, ht1⟩ : ∃ t, t = sv p xs - sv q' ys' := ⟨_, rfl⟩
    obtain ⟨t2, ht2⟩ : ∃ t, t = sv q ys - sv p' xs' := ⟨_, rfl⟩
    obtain ⟨r, hr⟩ : ∃ r, r = fitS t1 t2 := ⟨_, rfl⟩
    rw [show subS p xs q ys p' xs' q' ys' = r from by unfold subS; rw [twoS_zero hz, hr, ht1, ht2]]
    have HZ := Lib.hid hz
    obtain ⟨ox, oy⟩ := spanFault2_zero hz
    have OX := Lib.hid ox
    have OY := Lib.hid oy
    clear ox oy hz
    have B1 := Lib.hid OX.out.lo
    have B2 := Lib.hid OX.out.hi
    have B3 := Lib.hid OY.out.lo
    have B4 := Lib.hid OY.out.hi
    have X1 := Lib.hid OX.out.lx
    have X2 := Lib.hid OX.out.ly
    have X3 := Lib.hid OY.out.lx
    have X4 := Lib.hid OY.out.ly
    have HT1 := Lib.hid ht1
    have HT2 := Lib.hid ht2
    have HR := Lib.hid hr
    clear ht1 ht2 hr
    go_enter Try.func21, Try.ntmps21
    go_wp2_with fail
    generalize hW : (((w.alloc (.cells #[.bool p, .slice a n c, .bool q, .slice b m d] 31)).alloc (.cells #[.bool p', .slice a' n' c', .bool q', .slice b' m' d'] 31)).alloc (.cells #[.int .i64 0, .bool false, .slice none 0 0, .bool false, .slice none 0 0] 36)) = ww0
    have hkk : Kept [] (((w.alloc (.cells #[.bool p, .slice a n c, .bool q, .slice b m d] 31)).alloc (.cells #[.bool p', .slice a' n' c', .bool q', .slice b' m' d'] 31)).alloc (.cells #[.int .i64 0, .bool false, .slice none 0 0, .bool false, .slice none 0 0] 36)) ww0 := by rw [hW]; exact Kept.refl _ _
    have zzA : w.heap.size + 1 + 1 + 1 = ww0.heap.size := by rw [← hW]; simp
    obtain ⟨⟨nA0, nA1, nA2, nA3⟩, _⟩ := tp4 hkk.peel.peel (g := w.heap.size) (by simp) (by simp)
    obtain ⟨⟨nB0, nB1, nB2, nB3⟩, _⟩ := tp4 hkk.peel (g := w.heap.size + 1) (by simp) (by simp)
    obtain ⟨⟨nR0, nR1, nR2, nR3, nR4⟩, fR0, fR1, fR2, fR3, fR4⟩ := tp5 hkk (g := w.heap.size + 1 + 1) (by simp) (by simp)
    have hk := hkk.peel.peel.peel
    clear hkk hW
    have z0 := hk.size
    have KT := Lib.hid hk
    clear hk
    replace H1 := Lib.hid (H1.out.kept0 KT.out)
    replace H2 := Lib.hid (H2.out.kept0 KT.out)
    replace H3 := Lib.hid (H3.out.kept0 KT.out)
    replace H4 := Lib.hid (H4.out.kept0 KT.out)
    refine (firstSpanFault_two _ _ _ _ _ _ _ _ _ _ _ _ _ _ _ _ _ _ _ _ _ _ (by omega) H1.out H2.out H3.out H4.out).mono ?_
    rintro e ww1 ⟨rfl, hk⟩
    rw [HZ.out]
    have z1 := hk.size
    replace fR0 := kf hk nR0 fR0
    replace fR1 := kf hk nR1 fR1
    replace fR2 := kf hk nR2 fR2
    replace fR3 := kf hk nR3 fR3
    replace fR4 := kf hk nR4 fR4
    replace nA0 := kc hk nA0
    replace nA1 := kc hk nA1
    replace nA2 := kc hk nA2
    replace nA3 := kc hk nA3
    replace nB0 := kc hk nB0
    replace nB1 := kc hk nB1
    replace nB2 := kc hk nB2
    replace nB3 := kc hk nB3
    replace nR0 := kc hk nR0
    replace nR1 := kc hk nR1
    replace nR2 := kc hk nR2
    replace nR3 := kc hk nR3
    replace nR4 := kc hk nR4
    replace H1 := Lib.hid (H1.out.kept0 hk)
    replace H2 := Lib.hid (H2.out.kept0 hk)
    replace H3 := Lib.hid (H3.out.kept0 hk)
    replace H4 := Lib.hid (H4.out.kept0 hk)
    replace KT := Lib.hid (KT.out.trans0 hk)
    clear hk
    have tA0 := nA0.out
    have tA1 := nA1.out
    have tA2 := nA2.out
    have tA3 := nA3.out
    have tB0 := nB0.out
    have tB1 := nB1.out
    have tB2 := nB2.out
    have tB3 := nB3.out
    go_wp2_with fail
    clear tA0 tA1 tA2 tA3 tB0 tB1 tB2 tB3
    have tA0 := nA0.out
    have tA1 := nA1.out
    have tA2 := nA2.out
    have tA3 := nA3.out
    have tB0 := nB0.out
    have tB1 := nB1.out
    have tB2 := nB2.out
    have tB3 := nB3.out
    go_region_held3 (fun w' => w'.cell? ⟨w.heap.size, 0, none⟩ = some (.bool p) ∧ w'.cell? ⟨w.heap.size, 1, none⟩ = some (.slice a n c) ∧ w'.cell? ⟨w.heap.size, 2, none⟩ = some (.bool q) ∧ w'.cell? ⟨w.heap.size, 3, none⟩ = some (.slice b m d) ∧ w'.cell? ⟨w.heap.size + 1, 0, none⟩ = some (.bool p') ∧ w'.cell? ⟨w.heap.size + 1, 1, none⟩ = some (.slice a' n' c') ∧ w'.cell? ⟨w.heap.size + 1, 2, none⟩ = some (.bool q') ∧ w'.cell? ⟨w.heap.size + 1, 3, none⟩ = some (.slice b' m' d') ∧ Hid (Kept [w.heap.size + 1 + 1] ww1 w'))
      ((go_split_ands; (try refine ⟨?_, ?_, ?_, ?_, ?_, ?_, ?_, ?_, ?_⟩) <;> with_reducible first | exact Kept.set5 (by assumption) | exact cell_set5 (by assumption) (by simp <;> omega) | exact Lib.hid ((Kept.refl _ _).drew) | exact drew_cell (by assumption) | exact Kept.allocH (by assumption) | exact alloc_cell (by assumption) | exact Lib.hid (Kept.trans0 (Hid.out (by assumption)) (by assumption)) | exact Kept.cell (by assumption) (by assumption) (by simp)))
      (first
        | (go_at_call_of 46 (Value.agg #[Value.bool p, Value.slice a n c]); go_split_ands; refine (SubBigs_z _ _ _ _ _ _ _ _ _ _ _ _ (H1.out.kept0 ((Kept.refl [] _).drew)) (H4.out.kept0 ((Kept.refl [] _).drew)) B1.out B4.out X1.out X4.out HT1.out).mono ?_; rintro e v1 ⟨a1, c1, rfl, hs1, hf1, hk1⟩)
        | (go_at_call_of 46 (Value.agg #[Value.bool q, Value.slice b m d]); go_split_ands; refine (SubBigs_z _ _ _ _ _ _ _ _ _ _ _ _ (H2.out.kept0 (((Kept.refl [] _).drew).trans0 hk1)) (H3.out.kept0 (((Kept.refl [] _).drew).trans0 hk1)) B2.out B3.out X2.out X3.out HT2.out).mono ?_; rintro e v2 ⟨a2, c2, rfl, hs2, hf2, hk2⟩)
        | (go_at_call 41; go_split_ands; refine (spanResult_any _ _ _ _ _ _ _ _ _ (hs1.kept0 hk2) hs2).mono ?_; rintro e v3 ⟨a3, c3, b3, d3, rfl, hs3, hs4, hf3, hf4, hne, hk3⟩; have z12 := (hk1.trans0 hk2).size; simp only [World.size_drew] at z12; have hkr := ((((Kept.refl [] ww1).drew).trans0 hk1).trans0 hk2).trans0 hk3; have rg0 := hkr.cell (p := ⟨w.heap.size + 1 + 1, 0, none⟩) nR0.out (by simp); have rg1 := hkr.cell (p := ⟨w.heap.size + 1 + 1, 1, none⟩) nR1.out (by simp); have rg2 := hkr.cell (p := ⟨w.heap.size + 1 + 1, 2, none⟩) nR2.out (by simp); have rg3 := hkr.cell (p := ⟨w.heap.size + 1 + 1, 3, none⟩) nR3.out (by simp); have rg4 := hkr.cell (p := ⟨w.heap.size + 1 + 1, 4, none⟩) nR4.out (by simp); have ru0 := hkr.free' (p := ⟨w.heap.size + 1 + 1, 0, none⟩) nR0.out fR0.out (by simp); have ru1 := hkr.free' (p := ⟨w.heap.size + 1 + 1, 1, none⟩) nR1.out fR1.out (by simp); have ru2 := hkr.free' (p := ⟨w.heap.size + 1 + 1, 2, none⟩) nR2.out fR2.out (by simp); have ru3 := hkr.free' (p := ⟨w.heap.size + 1 + 1, 3, none⟩) nR3.out fR3.out (by simp); have ru4 := hkr.free' (p := ⟨w.heap.size + 1 + 1, 4, none⟩) nR4.out fR4.out (by simp)))
    clear tA0 tA1 tA2 tA3 tB0 tB1 tB2 tB3
    have hk := hkr
    clear hkr
    clear hs1 hf1 hs2 hf2 hk1 hk2 hk3
    rw [← HR.out] at hs3 hs4 hf3 hf4 hne ⊢
    have z2 := hk.size
    replace fR0 := kf hk nR0 fR0
    replace fR1 := kf hk nR1 fR1
    replace fR2 := kf hk nR2 fR2
    replace fR3 := kf hk nR3 fR3
    replace fR4 := kf hk nR4 fR4
    replace nA0 := kc hk nA0
    replace nA1 := kc hk nA1
    replace nA2 := kc hk nA2
    replace nA3 := kc hk nA3
    replace nB0 := kc hk nB0
    replace nB1 := kc hk nB1
    replace nB2 := kc hk nB2
    replace nB3 := kc hk nB3
    replace nR0 := kc hk nR0
    replace nR1 := kc hk nR1
    replace nR2 := kc hk nR2
    replace nR3 := kc hk nR3
    replace nR4 := kc hk nR4
    replace H1 := Lib.hid (H1.out.kept0 hk)
    replace H2 := Lib.hid (H2.out.kept0 hk)
    replace H3 := Lib.hid (H3.out.kept0 hk)
    replace H4 := Lib.hid (H4.out.kept0 hk)
    replace KT := Lib.hid (KT.out.trans0 hk)
    clear hk
    have hs3 := Lib.hid hs3
    have hs4 := Lib.hid hs4
    have HNE := Lib.hid hne
    have G3 := Lib.hid (hf3.mono (B' := w.heap.size + 1 + 1 + 1) (by omega))
    have G4 := Lib.hid (hf4.mono (B' := w.heap.size + 1 + 1 + 1) (by omega))
    clear hf3 hf4 hne
    generalize hW : (((((v3.setCell ⟨w.heap.size + 1 + 1, 0, none⟩ (.int .i64 r.code)).setCell ⟨w.heap.size + 1 + 1, 1, none⟩ (.bool (isNeg r.lo))).setCell ⟨w.heap.size + 1 + 1, 2, none⟩ (.slice a3 (mag r.lo).length c3)).setCell ⟨w.heap.size + 1 + 1, 3, none⟩ (.bool (isNeg r.hi))).setCell ⟨w.heap.size + 1 + 1, 4, none⟩ (.slice b3 (mag r.hi).length d3)) = ww3
    have hk : Kept [w.heap.size + 1 + 1] v3 ww3 := by rw [← hW]; exact (((((Kept.refl _ _).setCell _ _ (by simp)).setCell _ _ (by simp)).setCell _ _ (by simp)).setCell _ _ (by simp)).setCell _ _ (by simp)
    have hfz : ∀ x, ww3.frozen? x = v3.frozen? x := by rw [← hW]; intro x; simp only [World.frozen?_setCell]
    obtain ⟨e0, e1, e2, e3, e4⟩ := st5 hW.symm nR0.out nR1.out nR2.out nR3.out nR4.out
    have z3 := hk.size
    replace fR0 := kz hfz fR0
    replace fR1 := kz hfz fR1
    replace fR2 := kz hfz fR2
    replace fR3 := kz hfz fR3
    replace fR4 := kz hfz fR4
    replace nA0 := kd hk nA0 (by simp <;> omega)
    replace nA1 := kd hk nA1 (by simp <;> omega)
    replace nA2 := kd hk nA2 (by simp <;> omega)
    replace nA3 := kd hk nA3 (by simp <;> omega)
    replace nB0 := kd hk nB0 (by simp <;> omega)
    replace nB1 := kd hk nB1 (by simp <;> omega)
    replace nB2 := kd hk nB2 (by simp <;> omega)
    replace nB3 := kd hk nB3 (by simp <;> omega)
    replace H1 := Lib.hid (H1.out.kept hk (fun hn y hy hm => by have h9 := F1.out hn y hy; simp at hm; omega))
    replace H2 := Lib.hid (H2.out.kept hk (fun hn y hy hm => by have h9 := F2.out hn y hy; simp at hm; omega))
    replace H3 := Lib.hid (H3.out.kept hk (fun hn y hy hm => by have h9 := F3.out hn y hy; simp at hm; omega))
    replace H4 := Lib.hid (H4.out.kept hk (fun hn y hy hm => by have h9 := F4.out hn y hy; simp at hm; omega))
    replace hs3 := Lib.hid (hs3.out.kept hk (fun hn y hy hm => by have h9 := G3.out hn y hy; simp at hm; omega))
    replace hs4 := Lib.hid (hs4.out.kept hk (fun hn y hy hm => by have h9 := G4.out hn y hy; simp at hm; omega))
    replace nR0 := Lib.hid e0
    replace nR1 := Lib.hid e1
    replace nR2 := Lib.hid e2
    replace nR3 := Lib.hid e3
    replace nR4 := Lib.hid e4
    replace KT := Lib.hid (KT.out.trans hk (fun x hx hlt => by simp at hx; omega))
    clear hk hfz hW e0 e1 e2 e3 e4
    go_wp2_with fail
    have e0 := nR0.out
    have e1 := nR1.out
    have e2 := nR2.out
    have e3 := nR3.out
    have e4 := nR4.out
    refine bodyPost_ret (v := .agg #[.int .i64 r.code, .bool (isNeg r.lo), .slice a3 (mag r.lo).length c3, .bool (isNeg r.hi), .slice b3 (mag r.hi).length d3]) (by simp [results, Try.results21, go_sem, e0, e1, e2, e3, e4]) rfl ?_
    exact ⟨a3, c3, b3, d3, rfl, hs3.out, hs4.out, G3.out.mono (by omega), G4.out.mono (by omega), HNE.out, KT.out⟩
  · skip
    rw [show subS p xs q ys p' xs' q' ys' = noSpan (spanFault2 p xs q ys p' xs' q' ys') from twoS_not hz]
    generalize hf : spanFault2 p xs q ys p' xs' q' ys' = f at *
    have hne : (f == 0) = false := by rw [beq_eq_false_iff_ne]; exact hz
    have HZ := Lib.hid hf
    clear hf hz
    go_enter Try.func21, Try.ntmps21
    go_wp2_with fail
    generalize hW : (((w.alloc (.cells #[.bool p, .slice a n c, .bool q, .slice b m d] 31)).alloc (.cells #[.bool p', .slice a' n' c', .bool q', .slice b' m' d'] 31)).alloc (.cells #[.int .i64 0, .bool false, .slice none 0 0, .bool false, .slice none 0 0] 36)) = ww0
    have hkk : Kept [] (((w.alloc (.cells #[.bool p, .slice a n c, .bool q, .slice b m d] 31)).alloc (.cells #[.bool p', .slice a' n' c', .bool q', .slice b' m' d'] 31)).alloc (.cells #[.int .i64 0, .bool false, .slice none 0 0, .bool false, .slice none 0 0] 36)) ww0 := by rw [hW]; exact Kept.refl _ _
    have zzA : w.heap.size + 1 + 1 + 1 = ww0.heap.size := by rw [← hW]; simp
    obtain ⟨⟨nA0, nA1, nA2, nA3⟩, _⟩ := tp4 hkk.peel.peel (g := w.heap.size) (by simp) (by simp)
    obtain ⟨⟨nB0, nB1, nB2, nB3⟩, _⟩ := tp4 hkk.peel (g := w.heap.size + 1) (by simp) (by simp)
    obtain ⟨⟨nR0, nR1, nR2, nR3, nR4⟩, fR0, fR1, fR2, fR3, fR4⟩ := tp5 hkk (g := w.heap.size + 1 + 1) (by simp) (by simp)
    have hk := hkk.peel.peel.peel
    clear hkk hW
    have z0 := hk.size
    have KT := Lib.hid hk
    clear hk
    replace H1 := Lib.hid (H1.out.kept0 KT.out)
    replace H2 := Lib.hid (H2.out.kept0 KT.out)
    replace H3 := Lib.hid (H3.out.kept0 KT.out)
    replace H4 := Lib.hid (H4.out.kept0 KT.out)
    refine (firstSpanFault_two _ _ _ _ _ _ _ _ _ _ _ _ _ _ _ _ _ _ _ _ _ _ (by omega) H1.out H2.out H3.out H4.out).mono ?_
    rintro e ww1 ⟨rfl, hk⟩
    rw [HZ.out]
    have z1 := hk.size
    replace fR0 := kf hk nR0 fR0
    replace fR1 := kf hk nR1 fR1
    replace fR2 := kf hk nR2 fR2
    replace fR3 := kf hk nR3 fR3
    replace fR4 := kf hk nR4 fR4
    replace nA0 := kc hk nA0
    replace nA1 := kc hk nA1
    replace nA2 := kc hk nA2
    replace nA3 := kc hk nA3
    replace nB0 := kc hk nB0
    replace nB1 := kc hk nB1
    replace nB2 := kc hk nB2
    replace nB3 := kc hk nB3
    replace nR0 := kc hk nR0
    replace nR1 := kc hk nR1
    replace nR2 := kc hk nR2
    replace nR3 := kc hk nR3
    replace nR4 := kc hk nR4
    replace H1 := Lib.hid (H1.out.kept0 hk)
    replace H2 := Lib.hid (H2.out.kept0 hk)
    replace H3 := Lib.hid (H3.out.kept0 hk)
    replace H4 := Lib.hid (H4.out.kept0 hk)
    replace KT := Lib.hid (KT.out.trans0 hk)
    clear hk
    have tR0 := nR0.out
    have tR1 := nR1.out
    have tR2 := nR2.out
    have tR3 := nR3.out
    have tR4 := nR4.out
    have uR0 := fR0.out
    have uR1 := fR1.out
    have uR2 := fR2.out
    have uR3 := fR3.out
    have uR4 := fR4.out
    go_wp2_with fail
    clear tR0 tR1 tR2 tR3 tR4 uR0 uR1 uR2 uR3 uR4
    generalize hW : (((((ww1.setCell ⟨w.heap.size + 1 + 1, 0, none⟩ (.int .i64 f)).setCell ⟨w.heap.size + 1 + 1, 1, none⟩ (.bool false)).setCell ⟨w.heap.size + 1 + 1, 2, none⟩ (.slice none 0 0)).setCell ⟨w.heap.size + 1 + 1, 3, none⟩ (.bool false)).setCell ⟨w.heap.size + 1 + 1, 4, none⟩ (.slice none 0 0)) = ww2
    have hk : Kept [w.heap.size + 1 + 1] ww1 ww2 := by rw [← hW]; exact (((((Kept.refl _ _).setCell _ _ (by simp)).setCell _ _ (by simp)).setCell _ _ (by simp)).setCell _ _ (by simp)).setCell _ _ (by simp)
    have hfz : ∀ x, ww2.frozen? x = ww1.frozen? x := by rw [← hW]; intro x; simp only [World.frozen?_setCell]
    obtain ⟨e0, e1, e2, e3, e4⟩ := st5 hW.symm nR0.out nR1.out nR2.out nR3.out nR4.out
    have z2 := hk.size
    replace fR0 := kz hfz fR0
    replace fR1 := kz hfz fR1
    replace fR2 := kz hfz fR2
    replace fR3 := kz hfz fR3
    replace fR4 := kz hfz fR4
    replace nA0 := kd hk nA0 (by simp <;> omega)
    replace nA1 := kd hk nA1 (by simp <;> omega)
    replace nA2 := kd hk nA2 (by simp <;> omega)
    replace nA3 := kd hk nA3 (by simp <;> omega)
    replace nB0 := kd hk nB0 (by simp <;> omega)
    replace nB1 := kd hk nB1 (by simp <;> omega)
    replace nB2 := kd hk nB2 (by simp <;> omega)
    replace nB3 := kd hk nB3 (by simp <;> omega)
    replace H1 := Lib.hid (H1.out.kept hk (fun hn y hy hm => by have h9 := F1.out hn y hy; simp at hm; omega))
    replace H2 := Lib.hid (H2.out.kept hk (fun hn y hy hm => by have h9 := F2.out hn y hy; simp at hm; omega))
    replace H3 := Lib.hid (H3.out.kept hk (fun hn y hy hm => by have h9 := F3.out hn y hy; simp at hm; omega))
    replace H4 := Lib.hid (H4.out.kept hk (fun hn y hy hm => by have h9 := F4.out hn y hy; simp at hm; omega))
    replace nR0 := Lib.hid e0
    replace nR1 := Lib.hid e1
    replace nR2 := Lib.hid e2
    replace nR3 := Lib.hid e3
    replace nR4 := Lib.hid e4
    replace KT := Lib.hid (KT.out.trans hk (fun x hx hlt => by simp at hx; omega))
    clear hk hfz hW e0 e1 e2 e3 e4
    have e0 := nR0.out
    have e1 := nR1.out
    have e2 := nR2.out
    have e3 := nR3.out
    have e4 := nR4.out
    refine bodyPost_ret (v := .agg #[.int .i64 f, .bool false, .slice none 0 0, .bool false, .slice none 0 0]) (by simp [results, Try.results21, go_sem, e0, e1, e2, e3, e4]) rfl ?_
    exact spanR_no KT.out

end Go.Proofs.Ytaemfcllodmlkaa
