/-
  Contracts of cornersOf over MulBigs, FloorDiv and CeilDiv. Conditions: the ends have no fault; the answers have 40 limbs at most.
-/
import Derived.Deep.RegionHeld3
import Derived.Deep.DrawnRows
import Derived.Deep.DeepCutAuto
import Derived.Test.YtofpommikmdlfaaSqA
namespace Go.Proofs.Ytofpommikmdlfaa
open Go.RowKit

theorem Kept.set8 {W w2 : World} {g : Nat} {v1 v2 v3 v4 v5 v6 v7 v8 : Value} (h : Hid (Kept [g] W w2)) : Hid (Kept [g] W ((((((((w2.setCell ⟨g, 0, none⟩ v1).setCell ⟨g, 1, none⟩ v2).setCell ⟨g, 2, none⟩ v3).setCell ⟨g, 3, none⟩ v4).setCell ⟨g, 4, none⟩ v5).setCell ⟨g, 5, none⟩ v6).setCell ⟨g, 6, none⟩ v7).setCell ⟨g, 7, none⟩ v8)) :=
  Lib.hid ((((((((h.out.setCell _ _ (by simp)).setCell _ _ (by simp)).setCell _ _ (by simp)).setCell _ _ (by simp)).setCell _ _ (by simp)).setCell _ _ (by simp)).setCell _ _ (by simp)).setCell _ _ (by simp))
theorem cell_set8 {w2 : World} {g : Nat} {p : Addr} {v v1 v2 v3 v4 v5 v6 v7 v8 : Value} (h : w2.cell? p = some v) (hg : p.block ≠ g) : ((((((((w2.setCell ⟨g, 0, none⟩ v1).setCell ⟨g, 1, none⟩ v2).setCell ⟨g, 2, none⟩ v3).setCell ⟨g, 3, none⟩ v4).setCell ⟨g, 4, none⟩ v5).setCell ⟨g, 5, none⟩ v6).setCell ⟨g, 6, none⟩ v7).setCell ⟨g, 7, none⟩ v8).cell? p = some v :=
  (Kept.set8 (Lib.hid (Kept.refl [g] w2))).out.cell h (by simpa using hg)
/-- A call that answers four bigs, told by their numbers, as an array. -/
def FourR (w : World) (y1 y2 y3 y4 : Int) (e : Ending) (w' : World) : Prop :=
  ∃ b1 e1 b2 e2 b3 e3 b4 e4, e = .returned (.agg #[.bool (isNeg y1), .slice b1 (mag y1).length e1, .bool (isNeg y2), .slice b2 (mag y2).length e2, .bool (isNeg y3), .slice b3 (mag y3).length e3, .bool (isNeg y4), .slice b4 (mag y4).length e4]) ∧
    Sl w' b1 (mag y1).length e1 (mag y1) ∧ Sl w' b2 (mag y2).length e2 (mag y2) ∧ Sl w' b3 (mag y3).length e3 (mag y3) ∧ Sl w' b4 (mag y4).length e4 (mag y4) ∧ Kept [] w w'
attribute [local go_sem ↓] field_big

theorem four_fin {w w' : World} {y1 y2 y3 y4 : Int} {b1 b2 b3 b4 : Option Addr} {e1 e2 e3 e4 : Nat} {p1 p2 p3 p4 : Bool} (h1 : p1 = isNeg y1) (h2 : p2 = isNeg y2) (h3 : p3 = isNeg y3) (h4 : p4 = isNeg y4) (s1 : Sl w' b1 (mag y1).length e1 (mag y1)) (s2 : Sl w' b2 (mag y2).length e2 (mag y2)) (s3 : Sl w' b3 (mag y3).length e3 (mag y3)) (s4 : Sl w' b4 (mag y4).length e4 (mag y4)) (hk : Kept [] w w') :
    FourR w y1 y2 y3 y4 (.returned (.agg #[.bool p1, .slice b1 (mag y1).length e1, .bool p2, .slice b2 (mag y2).length e2, .bool p3, .slice b3 (mag y3).length e3, .bool p4, .slice b4 (mag y4).length e4])) w' := by
  subst h1 h2 h3 h4; exact ⟨b1, e1, b2, e2, b3, e3, b4, e4, rfl, s1, s2, s3, s4, hk⟩
/-- The same, and the limbs are new memory. -/
def FourF (w : World) (y1 y2 y3 y4 : Int) (e : Ending) (w' : World) : Prop :=
  ∃ b1 e1 b2 e2 b3 e3 b4 e4, e = .returned (.agg #[.bool (isNeg y1), .slice b1 (mag y1).length e1, .bool (isNeg y2), .slice b2 (mag y2).length e2, .bool (isNeg y3), .slice b3 (mag y3).length e3, .bool (isNeg y4), .slice b4 (mag y4).length e4]) ∧
    Sl w' b1 (mag y1).length e1 (mag y1) ∧ Sl w' b2 (mag y2).length e2 (mag y2) ∧ Sl w' b3 (mag y3).length e3 (mag y3) ∧ Sl w' b4 (mag y4).length e4 (mag y4) ∧
    Fr w.heap.size b1 (mag y1).length ∧ Fr w.heap.size b2 (mag y2).length ∧ Fr w.heap.size b3 (mag y3).length ∧ Fr w.heap.size b4 (mag y4).length ∧ Kept [] w w'
theorem four_finF {w w' : World} {y1 y2 y3 y4 : Int} {b1 b2 b3 b4 : Option Addr} {e1 e2 e3 e4 : Nat} {p1 p2 p3 p4 : Bool} (h1 : p1 = isNeg y1) (h2 : p2 = isNeg y2) (h3 : p3 = isNeg y3) (h4 : p4 = isNeg y4) (s1 : Sl w' b1 (mag y1).length e1 (mag y1)) (s2 : Sl w' b2 (mag y2).length e2 (mag y2)) (s3 : Sl w' b3 (mag y3).length e3 (mag y3)) (s4 : Sl w' b4 (mag y4).length e4 (mag y4))
    (f1 : Fr w.heap.size b1 (mag y1).length) (f2 : Fr w.heap.size b2 (mag y2).length) (f3 : Fr w.heap.size b3 (mag y3).length) (f4 : Fr w.heap.size b4 (mag y4).length) (hk : Kept [] w w') :
    FourF w y1 y2 y3 y4 (.returned (.agg #[.bool p1, .slice b1 (mag y1).length e1, .bool p2, .slice b2 (mag y2).length e2, .bool p3, .slice b3 (mag y3).length e3, .bool p4, .slice b4 (mag y4).length e4])) w' := by
  subst h1 h2 h3 h4; exact ⟨b1, e1, b2, e2, b3, e3, b4, e4, rfl, s1, s2, s3, s4, f1, f2, f3, f4, hk⟩

set_option maxHeartbeats 8000000 in
set_option maxRecDepth 20000 in
theorem cornersOf_MulBigs (p q : Bool) (a b : Option Addr) (n c m d : Nat) (xs ys : List Int) (p' q' : Bool) (a' b' : Option Addr) (n' c' m' d' : Nat) (xs' ys' : List Int) (y1 y2 y3 y4 : Int) (w : World) (h1 : Sl w a n c xs) (h2 : Sl w b m d ys) (h3 : Sl w a' n' c' xs') (h4 : Sl w b' m' d' ys') (hx : BigOk p xs) (hy : BigOk q ys) (hx' : BigOk p' xs') (hy' : BigOk q' ys') (o1 : (mag y1).length ≤ 40) (o2 : (mag y2).length ≤ 40) (o3 : (mag y3).length ≤ 40) (o4 : (mag y4).length ≤ 40) (hy1 : y1 = sv p xs * sv p' xs') (hy2 : y2 = sv p xs * sv q' ys') (hy3 : y3 = sv q ys * sv p' xs') (hy4 : y4 = sv q ys * sv q' ys') :
    Calls Try.prog 26 #[.agg #[.bool p, .slice a n c, .bool q, .slice b m d], .agg #[.bool p', .slice a' n' c', .bool q', .slice b' m' d'], .func (.func 52) #[] #[]] w (FourR w y1 y2 y3 y4) := by
  have H1 := Lib.hid h1
  have H2 := Lib.hid h2
  have H3 := Lib.hid h3
  have H4 := Lib.hid h4
  clear h1 h2 h3 h4
  have B1 := Lib.hid hx
  have B2 := Lib.hid hy
  have B3 := Lib.hid hx'
  have B4 := Lib.hid hy'
  have HY1 := Lib.hid hy1
  have HY2 := Lib.hid hy2
  have HY3 := Lib.hid hy3
  have HY4 := Lib.hid hy4
  clear hx hy hx' hy' hy1 hy2 hy3 hy4
  have F1 := Lib.hid H1.out.lt
  have F2 := Lib.hid H2.out.lt
  have F3 := Lib.hid H3.out.lt
  have F4 := Lib.hid H4.out.lt
  go_enter Try.func26, Try.ntmps26
  go_upto_region 1 with fail
  generalize hW : (((w.alloc (.cells #[.bool p, .slice a n c, .bool q, .slice b m d] 30)).alloc (.cells #[.bool p', .slice a' n' c', .bool q', .slice b' m' d'] 30)).alloc (.cells #[.bool false, .slice none 0 0, .bool false, .slice none 0 0, .bool false, .slice none 0 0, .bool false, .slice none 0 0] 51)) = ww0
  have hkk : Kept [] (((w.alloc (.cells #[.bool p, .slice a n c, .bool q, .slice b m d] 30)).alloc (.cells #[.bool p', .slice a' n' c', .bool q', .slice b' m' d'] 30)).alloc (.cells #[.bool false, .slice none 0 0, .bool false, .slice none 0 0, .bool false, .slice none 0 0, .bool false, .slice none 0 0] 51)) ww0 := by rw [hW]; exact Kept.refl _ _
  have zzA : w.heap.size + 1 + 1 + 1 = ww0.heap.size := by rw [← hW]; simp
  obtain ⟨⟨nA0, nA1, nA2, nA3⟩, _⟩ := tp4 hkk.peel.peel (g := w.heap.size) (by simp) (by simp)
  obtain ⟨⟨nB0, nB1, nB2, nB3⟩, _⟩ := tp4 hkk.peel (g := w.heap.size + 1) (by simp) (by simp)
  have nR0 := Lib.hid (hkk.top (g := w.heap.size + 1 + 1) (by simp) (by simp) 0 (v := .bool false) rfl).1
  have fR0 := Lib.hid (hkk.top (g := w.heap.size + 1 + 1) (by simp) (by simp) 0 (v := .bool false) rfl).2.1
  have nR1 := Lib.hid (hkk.top (g := w.heap.size + 1 + 1) (by simp) (by simp) 1 (v := .slice none 0 0) rfl).1
  have fR1 := Lib.hid (hkk.top (g := w.heap.size + 1 + 1) (by simp) (by simp) 1 (v := .slice none 0 0) rfl).2.1
  have nR2 := Lib.hid (hkk.top (g := w.heap.size + 1 + 1) (by simp) (by simp) 2 (v := .bool false) rfl).1
  have fR2 := Lib.hid (hkk.top (g := w.heap.size + 1 + 1) (by simp) (by simp) 2 (v := .bool false) rfl).2.1
  have nR3 := Lib.hid (hkk.top (g := w.heap.size + 1 + 1) (by simp) (by simp) 3 (v := .slice none 0 0) rfl).1
  have fR3 := Lib.hid (hkk.top (g := w.heap.size + 1 + 1) (by simp) (by simp) 3 (v := .slice none 0 0) rfl).2.1
  have nR4 := Lib.hid (hkk.top (g := w.heap.size + 1 + 1) (by simp) (by simp) 4 (v := .bool false) rfl).1
  have fR4 := Lib.hid (hkk.top (g := w.heap.size + 1 + 1) (by simp) (by simp) 4 (v := .bool false) rfl).2.1
  have nR5 := Lib.hid (hkk.top (g := w.heap.size + 1 + 1) (by simp) (by simp) 5 (v := .slice none 0 0) rfl).1
  have fR5 := Lib.hid (hkk.top (g := w.heap.size + 1 + 1) (by simp) (by simp) 5 (v := .slice none 0 0) rfl).2.1
  have nR6 := Lib.hid (hkk.top (g := w.heap.size + 1 + 1) (by simp) (by simp) 6 (v := .bool false) rfl).1
  have fR6 := Lib.hid (hkk.top (g := w.heap.size + 1 + 1) (by simp) (by simp) 6 (v := .bool false) rfl).2.1
  have nR7 := Lib.hid (hkk.top (g := w.heap.size + 1 + 1) (by simp) (by simp) 7 (v := .slice none 0 0) rfl).1
  have fR7 := Lib.hid (hkk.top (g := w.heap.size + 1 + 1) (by simp) (by simp) 7 (v := .slice none 0 0) rfl).2.1
  have hk := hkk.peel.peel.peel
  clear hkk hW
  have z0 := hk.size
  have KT := Lib.hid hk
  clear hk
  replace H1 := Lib.hid (H1.out.kept0 KT.out)
  replace H2 := Lib.hid (H2.out.kept0 KT.out)
  replace H3 := Lib.hid (H3.out.kept0 KT.out)
  replace H4 := Lib.hid (H4.out.kept0 KT.out)
  have tA0 := nA0.out
  have tA1 := nA1.out
  have tA2 := nA2.out
  have tA3 := nA3.out
  have tB0 := nB0.out
  have tB1 := nB1.out
  have tB2 := nB2.out
  have tB3 := nB3.out
  go_region_held3 (fun w' => w'.cell? ⟨w.heap.size, 0, none⟩ = some (.bool p) ∧ w'.cell? ⟨w.heap.size, 1, none⟩ = some (.slice a n c) ∧ w'.cell? ⟨w.heap.size, 2, none⟩ = some (.bool q) ∧ w'.cell? ⟨w.heap.size, 3, none⟩ = some (.slice b m d) ∧ w'.cell? ⟨w.heap.size + 1, 0, none⟩ = some (.bool p') ∧ w'.cell? ⟨w.heap.size + 1, 1, none⟩ = some (.slice a' n' c') ∧ w'.cell? ⟨w.heap.size + 1, 2, none⟩ = some (.bool q') ∧ w'.cell? ⟨w.heap.size + 1, 3, none⟩ = some (.slice b' m' d') ∧ Hid (Kept [w.heap.size + 1 + 1] ww0 w'))
    ((go_split_ands; (try refine ⟨?_, ?_, ?_, ?_, ?_, ?_, ?_, ?_, ?_⟩) <;> with_reducible first | exact Kept.set8 (by assumption) | exact cell_set8 (by assumption) (by simp <;> omega) | exact Lib.hid ((Kept.refl _ _).drew) | exact drew_cell (by assumption) | exact Kept.allocH (by assumption) | exact alloc_cell (by assumption) | exact Lib.hid (Kept.trans0 (Hid.out (by assumption)) (by assumption)) | exact Kept.cell (by assumption) (by assumption) (by simp)))
    (first
      | (go_at_call 52; with_reducible show Calls _ _ #[Value.agg #[Value.bool p, Value.slice a n c], Value.agg #[Value.bool p', Value.slice a' n' c']] _ _; go_split_ands; refine (MulBigs_z _ _ _ _ _ _ _ _ _ _ _ _ (H1.out.kept0 ((Kept.refl [] _).drew)) (H3.out.kept0 ((Kept.refl [] _).drew)) B1.out B3.out o1 HY1.out).mono ?_; intro e v1 hh; unfold BigZ at hh; obtain ⟨b1, hh⟩ := hh; obtain ⟨cc1, hh, hs1, hf1, hk1⟩ := hh; subst hh)
      | (go_at_call 52; with_reducible show Calls _ _ #[Value.agg #[Value.bool p, Value.slice a n c], Value.agg #[Value.bool q', Value.slice b' m' d']] _ _; go_split_ands; refine (MulBigs_z _ _ _ _ _ _ _ _ _ _ _ _ (H1.out.kept0 (((Kept.refl [] _).drew).trans0 hk1)) (H4.out.kept0 (((Kept.refl [] _).drew).trans0 hk1)) B1.out B4.out o2 HY2.out).mono ?_; intro e v2 hh; unfold BigZ at hh; obtain ⟨b2, hh⟩ := hh; obtain ⟨cc2, hh, hs2, hf2, hk2⟩ := hh; subst hh)
      | (go_at_call 52; with_reducible show Calls _ _ #[Value.agg #[Value.bool q, Value.slice b m d], Value.agg #[Value.bool p', Value.slice a' n' c']] _ _; go_split_ands; refine (MulBigs_z _ _ _ _ _ _ _ _ _ _ _ _ (H2.out.kept0 ((((Kept.refl [] _).drew).trans0 hk1).trans0 hk2)) (H3.out.kept0 ((((Kept.refl [] _).drew).trans0 hk1).trans0 hk2)) B2.out B3.out o3 HY3.out).mono ?_; intro e v3 hh; unfold BigZ at hh; obtain ⟨b3, hh⟩ := hh; obtain ⟨cc3, hh, hs3, hf3, hk3⟩ := hh; subst hh)
      | (go_at_call 52; with_reducible show Calls _ _ #[Value.agg #[Value.bool q, Value.slice b m d], Value.agg #[Value.bool q', Value.slice b' m' d']] _ _; go_split_ands; refine (MulBigs_z _ _ _ _ _ _ _ _ _ _ _ _ (H2.out.kept0 (((((Kept.refl [] _).drew).trans0 hk1).trans0 hk2).trans0 hk3)) (H4.out.kept0 (((((Kept.refl [] _).drew).trans0 hk1).trans0 hk2).trans0 hk3)) B2.out B4.out o4 HY4.out).mono ?_; intro e v4 hh; unfold BigZ at hh; obtain ⟨b4, hh⟩ := hh; obtain ⟨cc4, hh, hs4, hf4, hk4⟩ := hh; subst hh; have hkr := (((((Kept.refl [] ww0).drew).trans0 hk1).trans0 hk2).trans0 hk3).trans0 hk4; have rg0 := hkr.cell (p := ⟨w.heap.size + 1 + 1, 0, none⟩) nR0.out (by simp); have rg1 := hkr.cell (p := ⟨w.heap.size + 1 + 1, 1, none⟩) nR1.out (by simp); have rg2 := hkr.cell (p := ⟨w.heap.size + 1 + 1, 2, none⟩) nR2.out (by simp); have rg3 := hkr.cell (p := ⟨w.heap.size + 1 + 1, 3, none⟩) nR3.out (by simp); have rg4 := hkr.cell (p := ⟨w.heap.size + 1 + 1, 4, none⟩) nR4.out (by simp); have rg5 := hkr.cell (p := ⟨w.heap.size + 1 + 1, 5, none⟩) nR5.out (by simp); have rg6 := hkr.cell (p := ⟨w.heap.size + 1 + 1, 6, none⟩) nR6.out (by simp); have rg7 := hkr.cell (p := ⟨w.heap.size + 1 + 1, 7, none⟩) nR7.out (by simp); have ru0 := hkr.free' (p := ⟨w.heap.size + 1 + 1, 0, none⟩) nR0.out fR0.out (by simp); have ru1 := hkr.free' (p := ⟨w.heap.size + 1 + 1, 1, none⟩) nR1.out fR1.out (by simp); have ru2 := hkr.free' (p := ⟨w.heap.size + 1 + 1, 2, none⟩) nR2.out fR2.out (by simp); have ru3 := hkr.free' (p := ⟨w.heap.size + 1 + 1, 3, none⟩) nR3.out fR3.out (by simp); have ru4 := hkr.free' (p := ⟨w.heap.size + 1 + 1, 4, none⟩) nR4.out fR4.out (by simp); have ru5 := hkr.free' (p := ⟨w.heap.size + 1 + 1, 5, none⟩) nR5.out fR5.out (by simp); have ru6 := hkr.free' (p := ⟨w.heap.size + 1 + 1, 6, none⟩) nR6.out fR6.out (by simp); have ru7 := hkr.free' (p := ⟨w.heap.size + 1 + 1, 7, none⟩) nR7.out fR7.out (by simp)))
  clear tA0 tA1 tA2 tA3 tB0 tB1 tB2 tB3
  have hs1 := hs1.kept0 ((hk2.trans0 hk3).trans0 hk4)
  have hs2 := hs2.kept0 (hk3.trans0 hk4)
  have hs3 := hs3.kept0 hk4
  have z1 := hk1.size
  have z2 := hk2.size
  have z3 := hk3.size
  have z4 := hk4.size
  simp only [World.size_drew] at z1 hf1
  have hk := hkr
  clear hkr hk1 hk2 hk3 hk4
  have z1 := hk.size
  replace fR0 := kf hk nR0 fR0
  replace fR1 := kf hk nR1 fR1
  replace fR2 := kf hk nR2 fR2
  replace fR3 := kf hk nR3 fR3
  replace fR4 := kf hk nR4 fR4
  replace fR5 := kf hk nR5 fR5
  replace fR6 := kf hk nR6 fR6
  replace fR7 := kf hk nR7 fR7
  replace nA0 := kc hk nA0
  replace nA1 := kc hk nA1
  replace nA2 := kc hk nA2
  replace nA3 := kc hk nA3
  replace nB0 := kc hk nB0
  replace nB1 := kc hk nB1
  replace nB2 := kc hk nB2
  replace nB3 := kc hk nB3
  replace nR0 := kc hk nR0
  replace nR1 := kc hk nR1
  replace nR2 := kc hk nR2
  replace nR3 := kc hk nR3
  replace nR4 := kc hk nR4
  replace nR5 := kc hk nR5
  replace nR6 := kc hk nR6
  replace nR7 := kc hk nR7
  replace H1 := Lib.hid (H1.out.kept0 hk)
  replace H2 := Lib.hid (H2.out.kept0 hk)
  replace H3 := Lib.hid (H3.out.kept0 hk)
  replace H4 := Lib.hid (H4.out.kept0 hk)
  replace KT := Lib.hid (KT.out.trans0 hk)
  clear hk
  have S1 := Lib.hid hs1
  have G1 := Lib.hid (hf1.mono (B' := w.heap.size + 1 + 1 + 1) (by omega))
  have S2 := Lib.hid hs2
  have G2 := Lib.hid (hf2.mono (B' := w.heap.size + 1 + 1 + 1) (by omega))
  have S3 := Lib.hid hs3
  have G3 := Lib.hid (hf3.mono (B' := w.heap.size + 1 + 1 + 1) (by omega))
  have S4 := Lib.hid hs4
  have G4 := Lib.hid (hf4.mono (B' := w.heap.size + 1 + 1 + 1) (by omega))
  clear hs1 hs2 hs3 hs4 hf1 hf2 hf3 hf4
  obtain ⟨p1_, hp1_⟩ : ∃ r, r = isNeg y1 := ⟨_, rfl⟩
  obtain ⟨p2_, hp2_⟩ : ∃ r, r = isNeg y2 := ⟨_, rfl⟩
  obtain ⟨p3_, hp3_⟩ : ∃ r, r = isNeg y3 := ⟨_, rfl⟩
  obtain ⟨p4_, hp4_⟩ : ∃ r, r = isNeg y4 := ⟨_, rfl⟩
  rw [← hp1_, ← hp2_, ← hp3_, ← hp4_]
  generalize hW : ((((((((v4.setCell ⟨w.heap.size + 1 + 1, 0, none⟩ (.bool p1_)).setCell ⟨w.heap.size + 1 + 1, 1, none⟩ (.slice b1 (mag y1).length cc1)).setCell ⟨w.heap.size + 1 + 1, 2, none⟩ (.bool p2_)).setCell ⟨w.heap.size + 1 + 1, 3, none⟩ (.slice b2 (mag y2).length cc2)).setCell ⟨w.heap.size + 1 + 1, 4, none⟩ (.bool p3_)).setCell ⟨w.heap.size + 1 + 1, 5, none⟩ (.slice b3 (mag y3).length cc3)).setCell ⟨w.heap.size + 1 + 1, 6, none⟩ (.bool p4_)).setCell ⟨w.heap.size + 1 + 1, 7, none⟩ (.slice b4 (mag y4).length cc4)) = ww2
  have hk : Kept [w.heap.size + 1 + 1] v4 ww2 := by rw [← hW]; exact ((((((((Kept.refl _ _).setCell _ _ (by simp)).setCell _ _ (by simp)).setCell _ _ (by simp)).setCell _ _ (by simp)).setCell _ _ (by simp)).setCell _ _ (by simp)).setCell _ _ (by simp)).setCell _ _ (by simp)
  have hfz : ∀ x, ww2.frozen? x = v4.frozen? x := by rw [← hW]; intro x; simp only [World.frozen?_setCell]
  obtain ⟨e0, e1, e2, e3, e4, e5, e6, e7⟩ := st8 hW.symm nR0.out nR1.out nR2.out nR3.out nR4.out nR5.out nR6.out nR7.out
  have z2 := hk.size
  replace fR0 := kz hfz fR0
  replace fR1 := kz hfz fR1
  replace fR2 := kz hfz fR2
  replace fR3 := kz hfz fR3
  replace fR4 := kz hfz fR4
  replace fR5 := kz hfz fR5
  replace fR6 := kz hfz fR6
  replace fR7 := kz hfz fR7
  replace nA0 := kd hk nA0 (by simp <;> omega)
  replace nA1 := kd hk nA1 (by simp <;> omega)
  replace nA2 := kd hk nA2 (by simp <;> omega)
  replace nA3 := kd hk nA3 (by simp <;> omega)
  replace nB0 := kd hk nB0 (by simp <;> omega)
  replace nB1 := kd hk nB1 (by simp <;> omega)
  replace nB2 := kd hk nB2 (by simp <;> omega)
  replace nB3 := kd hk nB3 (by simp <;> omega)
  replace H1 := Lib.hid (H1.out.kept hk (fun hn y hy hm => by have h9 := F1.out hn y hy; simp at hm; omega))
  replace H2 := Lib.hid (H2.out.kept hk (fun hn y hy hm => by have h9 := F2.out hn y hy; simp at hm; omega))
  replace H3 := Lib.hid (H3.out.kept hk (fun hn y hy hm => by have h9 := F3.out hn y hy; simp at hm; omega))
  replace H4 := Lib.hid (H4.out.kept hk (fun hn y hy hm => by have h9 := F4.out hn y hy; simp at hm; omega))
  replace S1 := Lib.hid (S1.out.kept hk (fun hn y hy hm => by have h9 := G1.out hn y hy; simp at hm; omega))
  replace S2 := Lib.hid (S2.out.kept hk (fun hn y hy hm => by have h9 := G2.out hn y hy; simp at hm; omega))
  replace S3 := Lib.hid (S3.out.kept hk (fun hn y hy hm => by have h9 := G3.out hn y hy; simp at hm; omega))
  replace S4 := Lib.hid (S4.out.kept hk (fun hn y hy hm => by have h9 := G4.out hn y hy; simp at hm; omega))
  replace nR0 := Lib.hid e0
  replace nR1 := Lib.hid e1
  replace nR2 := Lib.hid e2
  replace nR3 := Lib.hid e3
  replace nR4 := Lib.hid e4
  replace nR5 := Lib.hid e5
  replace nR6 := Lib.hid e6
  replace nR7 := Lib.hid e7
  replace KT := Lib.hid (KT.out.trans hk (fun x hx hlt => by simp at hx; omega))
  clear hk hfz hW e0 e1 e2 e3 e4 e5 e6 e7
  have HP1 := Lib.hid hp1_
  have HP2 := Lib.hid hp2_
  have HP3 := Lib.hid hp3_
  have HP4 := Lib.hid hp4_
  clear hp1_ hp2_ hp3_ hp4_
  go_wp2_with fail
  have e0 := nR0.out
  have e1 := nR1.out
  have e2 := nR2.out
  have e3 := nR3.out
  have e4 := nR4.out
  have e5 := nR5.out
  have e6 := nR6.out
  have e7 := nR7.out
  refine bodyPost_ret (v := .agg #[.bool p1_, .slice b1 (mag y1).length cc1, .bool p2_, .slice b2 (mag y2).length cc2, .bool p3_, .slice b3 (mag y3).length cc3, .bool p4_, .slice b4 (mag y4).length cc4]) (by simp [results, Try.results26, go_sem, e0, e1, e2, e3, e4, e5, e6, e7]) rfl ?_
  exact four_fin HP1.out HP2.out HP3.out HP4.out S1.out S2.out S3.out S4.out KT.out

set_option maxHeartbeats 8000000 in
set_option maxRecDepth 20000 in
theorem cornersOf_FloorDiv (p q : Bool) (a b : Option Addr) (n c m d : Nat) (xs ys : List Int) (p' q' : Bool) (a' b' : Option Addr) (n' c' m' d' : Nat) (xs' ys' : List Int) (y1 y2 y3 y4 : Int) (w : World) (h1 : Sl w a n c xs) (h2 : Sl w b m d ys) (h3 : Sl w a' n' c' xs') (h4 : Sl w b' m' d' ys') (hx : BigOk p xs) (hy : BigOk q ys) (hx' : BigOk p' xs') (hy' : BigOk q' ys') (lx : xs.length ≤ 39) (ly : ys.length ≤ 39) (z3 : xs'.length ≠ 0) (z4 : ys'.length ≠ 0) (hy1 : y1 = divZ false p p' (val xs) (val xs')) (hy2 : y2 = divZ false p q' (val xs) (val ys')) (hy3 : y3 = divZ false q p' (val ys) (val xs')) (hy4 : y4 = divZ false q q' (val ys) (val ys')) :
    Calls Try.prog 26 #[.agg #[.bool p, .slice a n c, .bool q, .slice b m d], .agg #[.bool p', .slice a' n' c', .bool q', .slice b' m' d'], .func (.func 27) #[] #[]] w (FourF w y1 y2 y3 y4) := by
  have H1 := Lib.hid h1
  have H2 := Lib.hid h2
  have H3 := Lib.hid h3
  have H4 := Lib.hid h4
  clear h1 h2 h3 h4
  have B1 := Lib.hid hx
  have B2 := Lib.hid hy
  have B3 := Lib.hid hx'
  have B4 := Lib.hid hy'
  have HY1 := Lib.hid hy1
  have HY2 := Lib.hid hy2
  have HY3 := Lib.hid hy3
  have HY4 := Lib.hid hy4
  clear hx hy hx' hy' hy1 hy2 hy3 hy4
  have Z3 := Lib.hid z3
  have Z4 := Lib.hid z4
  clear z3 z4
  have F1 := Lib.hid H1.out.lt
  have F2 := Lib.hid H2.out.lt
  have F3 := Lib.hid H3.out.lt
  have F4 := Lib.hid H4.out.lt
  go_enter Try.func26, Try.ntmps26
  go_upto_region 1 with fail
  generalize hW : (((w.alloc (.cells #[.bool p, .slice a n c, .bool q, .slice b m d] 30)).alloc (.cells #[.bool p', .slice a' n' c', .bool q', .slice b' m' d'] 30)).alloc (.cells #[.bool false, .slice none 0 0, .bool false, .slice none 0 0, .bool false, .slice none 0 0, .bool false, .slice none 0 0] 51)) = ww0
  have hkk : Kept [] (((w.alloc (.cells #[.bool p, .slice a n c, .bool q, .slice b m d] 30)).alloc (.cells #[.bool p', .slice a' n' c', .bool q', .slice b' m' d'] 30)).alloc (.cells #[.bool false, .slice none 0 0, .bool false, .slice none 0 0, .bool false, .slice none 0 0, .bool false, .slice none 0 0] 51)) ww0 := by rw [hW]; exact Kept.refl _ _
  have zzA : w.heap.size + 1 + 1 + 1 = ww0.heap.size := by rw [← hW]; simp
  obtain ⟨⟨nA0, nA1, nA2, nA3⟩, _⟩ := tp4 hkk.peel.peel (g := w.heap.size) (by simp) (by simp)
  obtain ⟨⟨nB0, nB1, nB2, nB3⟩, _⟩ := tp4 hkk.peel (g := w.heap.size + 1) (by simp) (by simp)
  have nR0 := Lib.hid (hkk.top (g := w.heap.size + 1 + 1) (by simp) (by simp) 0 (v := .bool false) rfl).1
  have fR0 := Lib.hid (hkk.top (g := w.heap.size + 1 + 1) (by simp) (by simp) 0 (v := .bool false) rfl).2.1
  have nR1 := Lib.hid (hkk.top (g := w.heap.size + 1 + 1) (by simp) (by simp) 1 (v := .slice none 0 0) rfl).1
  have fR1 := Lib.hid (hkk.top (g := w.heap.size + 1 + 1) (by simp) (by simp) 1 (v := .slice none 0 0) rfl).2.1
  have nR2 := Lib.hid (hkk.top (g := w.heap.size + 1 + 1) (by simp) (by simp) 2 (v := .bool false) rfl).1
  have fR2 := Lib.hid (hkk.top (g := w.heap.size + 1 + 1) (by simp) (by simp) 2 (v := .bool false) rfl).2.1
  have nR3 := Lib.hid (hkk.top (g := w.heap.size + 1 + 1) (by simp) (by simp) 3 (v := .slice none 0 0) rfl).1
  have fR3 := Lib.hid (hkk.top (g := w.heap.size + 1 + 1) (by simp) (by simp) 3 (v := .slice none 0 0) rfl).2.1
  have nR4 := Lib.hid (hkk.top (g := w.heap.size + 1 + 1) (by simp) (by simp) 4 (v := .bool false) rfl).1
  have fR4 := Lib.hid (hkk.top (g := w.heap.size + 1 + 1) (by simp) (by simp) 4 (v := .bool false) rfl).2.1
  have nR5 := Lib.hid (hkk.top (g := w.heap.size + 1 + 1) (by simp) (by simp) 5 (v := .slice none 0 0) rfl).1
  have fR5 := Lib.hid (hkk.top (g := w.heap.size + 1 + 1) (by simp) (by simp) 5 (v := .slice none 0 0) rfl).2.1
  have nR6 := Lib.hid (hkk.top (g := w.heap.size + 1 + 1) (by simp) (by simp) 6 (v := .bool false) rfl).1
  have fR6 := Lib.hid (hkk.top (g := w.heap.size + 1 + 1) (by simp) (by simp) 6 (v := .bool false) rfl).2.1
  have nR7 := Lib.hid (hkk.top (g := w.heap.size + 1 + 1) (by simp) (by simp) 7 (v := .slice none 0 0) rfl).1
  have fR7 := Lib.hid (hkk.top (g := w.heap.size + 1 + 1) (by simp) (by simp) 7 (v := .slice none 0 0) rfl).2.1
  have hk := hkk.peel.peel.peel
  clear hkk hW
  have z0 := hk.size
  have KT := Lib.hid hk
  clear hk
  replace H1 := Lib.hid (H1.out.kept0 KT.out)
  replace H2 := Lib.hid (H2.out.kept0 KT.out)
  replace H3 := Lib.hid (H3.out.kept0 KT.out)
  replace H4 := Lib.hid (H4.out.kept0 KT.out)
  have tA0 := nA0.out
  have tA1 := nA1.out
  have tA2 := nA2.out
  have tA3 := nA3.out
  have tB0 := nB0.out
  have tB1 := nB1.out
  have tB2 := nB2.out
  have tB3 := nB3.out
  go_region_held3 (fun w' => w'.cell? ⟨w.heap.size, 0, none⟩ = some (.bool p) ∧ w'.cell? ⟨w.heap.size, 1, none⟩ = some (.slice a n c) ∧ w'.cell? ⟨w.heap.size, 2, none⟩ = some (.bool q) ∧ w'.cell? ⟨w.heap.size, 3, none⟩ = some (.slice b m d) ∧ w'.cell? ⟨w.heap.size + 1, 0, none⟩ = some (.bool p') ∧ w'.cell? ⟨w.heap.size + 1, 1, none⟩ = some (.slice a' n' c') ∧ w'.cell? ⟨w.heap.size + 1, 2, none⟩ = some (.bool q') ∧ w'.cell? ⟨w.heap.size + 1, 3, none⟩ = some (.slice b' m' d') ∧ Hid (Kept [w.heap.size + 1 + 1] ww0 w'))
    ((go_split_ands; (try refine ⟨?_, ?_, ?_, ?_, ?_, ?_, ?_, ?_, ?_⟩) <;> with_reducible first | exact Kept.set8 (by assumption) | exact cell_set8 (by assumption) (by simp <;> omega) | exact Lib.hid ((Kept.refl _ _).drew) | exact drew_cell (by assumption) | exact Kept.allocH (by assumption) | exact alloc_cell (by assumption) | exact Lib.hid (Kept.trans0 (Hid.out (by assumption)) (by assumption)) | exact Kept.cell (by assumption) (by assumption) (by simp)))
    (first
      | (go_at_call 27; with_reducible show Calls _ _ #[Value.agg #[Value.bool p, Value.slice a n c], Value.agg #[Value.bool p', Value.slice a' n' c']] _ _; go_split_ands; refine (FloorDiv_z _ _ _ _ _ _ _ _ _ _ _ _ (H1.out.kept0 ((Kept.refl [] _).drew)) (H3.out.kept0 ((Kept.refl [] _).drew)) B1.out B3.out Z3.out lx HY1.out).mono ?_; intro e v1 hh; unfold BigZ at hh; obtain ⟨b1, hh⟩ := hh; obtain ⟨cc1, hh, hs1, hf1, hk1⟩ := hh; subst hh)
      | (go_at_call 27; with_reducible show Calls _ _ #[Value.agg #[Value.bool p, Value.slice a n c], Value.agg #[Value.bool q', Value.slice b' m' d']] _ _; go_split_ands; refine (FloorDiv_z _ _ _ _ _ _ _ _ _ _ _ _ (H1.out.kept0 (((Kept.refl [] _).drew).trans0 hk1)) (H4.out.kept0 (((Kept.refl [] _).drew).trans0 hk1)) B1.out B4.out Z4.out lx HY2.out).mono ?_; intro e v2 hh; unfold BigZ at hh; obtain ⟨b2, hh⟩ := hh; obtain ⟨cc2, hh, hs2, hf2, hk2⟩ := hh; subst hh)
      | (go_at_call 27; with_reducible show Calls _ _ #[Value.agg #[Value.bool q, Value.slice b m d], Value.agg #[Value.bool p', Value.slice a' n' c']] _ _; go_split_ands; refine (FloorDiv_z _ _ _ _ _ _ _ _ _ _ _ _ (H2.out.kept0 ((((Kept.refl [] _).drew).trans0 hk1).trans0 hk2)) (H3.out.kept0 ((((Kept.refl [] _).drew).trans0 hk1).trans0 hk2)) B2.out B3.out Z3.out ly HY3.out).mono ?_; intro e v3 hh; unfold BigZ at hh; obtain ⟨b3, hh⟩ := hh; obtain ⟨cc3, hh, hs3, hf3, hk3⟩ := hh; subst hh)
      | (go_at_call 27; with_reducible show Calls _ _ #[Value.agg #[Value.bool q, Value.slice b m d], Value.agg #[Value.bool q', Value.slice b' m' d']] _ _; go_split_ands; refine (FloorDiv_z _ _ _ _ _ _ _ _ _ _ _ _ (H2.out.kept0 (((((Kept.refl [] _).drew).trans0 hk1).trans0 hk2).trans0 hk3)) (H4.out.kept0 (((((Kept.refl [] _).drew).trans0 hk1).trans0 hk2).trans0 hk3)) B2.out B4.out Z4.out ly HY4.out).mono ?_; intro e v4 hh; unfold BigZ at hh; obtain ⟨b4, hh⟩ := hh; obtain ⟨cc4, hh, hs4, hf4, hk4⟩ := hh; subst hh; have hkr := (((((Kept.refl [] ww0).drew).trans0 hk1).trans0 hk2).trans0 hk3).trans0 hk4; have rg0 := hkr.cell (p := ⟨w.heap.size + 1 + 1, 0, none⟩) nR0.out (by simp); have rg1 := hkr.cell (p := ⟨w.heap.size + 1 + 1, 1, none⟩) nR1.out (by simp); have rg2 := hkr.cell (p := ⟨w.heap.size + 1 + 1, 2, none⟩) nR2.out (by simp); have rg3 := hkr.cell (p := ⟨w.heap.size + 1 + 1, 3, none⟩) nR3.out (by simp); have rg4 := hkr.cell (p := ⟨w.heap.size + 1 + 1, 4, none⟩) nR4.out (by simp); have rg5 := hkr.cell (p := ⟨w.heap.size + 1 + 1, 5, none⟩) nR5.out (by simp); have rg6 := hkr.cell (p := ⟨w.heap.size + 1 + 1, 6, none⟩) nR6.out (by simp); have rg7 := hkr.cell (p := ⟨w.heap.size + 1 + 1, 7, none⟩) nR7.out (by simp); have ru0 := hkr.free' (p := ⟨w.heap.size + 1 + 1, 0, none⟩) nR0.out fR0.out (by simp); have ru1 := hkr.free' (p := ⟨w.heap.size + 1 + 1, 1, none⟩) nR1.out fR1.out (by simp); have ru2 := hkr.free' (p := ⟨w.heap.size + 1 + 1, 2, none⟩) nR2.out fR2.out (by simp); have ru3 := hkr.free' (p := ⟨w.heap.size + 1 + 1, 3, none⟩) nR3.out fR3.out (by simp); have ru4 := hkr.free' (p := ⟨w.heap.size + 1 + 1, 4, none⟩) nR4.out fR4.out (by simp); have ru5 := hkr.free' (p := ⟨w.heap.size + 1 + 1, 5, none⟩) nR5.out fR5.out (by simp); have ru6 := hkr.free' (p := ⟨w.heap.size + 1 + 1, 6, none⟩) nR6.out fR6.out (by simp); have ru7 := hkr.free' (p := ⟨w.heap.size + 1 + 1, 7, none⟩) nR7.out fR7.out (by simp)))
  clear tA0 tA1 tA2 tA3 tB0 tB1 tB2 tB3
  have hs1 := hs1.kept0 ((hk2.trans0 hk3).trans0 hk4)
  have hs2 := hs2.kept0 (hk3.trans0 hk4)
  have hs3 := hs3.kept0 hk4
  have z1 := hk1.size
  have z2 := hk2.size
  have z3 := hk3.size
  have z4 := hk4.size
  simp only [World.size_drew] at z1 hf1
  have hk := hkr
  clear hkr hk1 hk2 hk3 hk4
  have z1 := hk.size
  replace fR0 := kf hk nR0 fR0
  replace fR1 := kf hk nR1 fR1
  replace fR2 := kf hk nR2 fR2
  replace fR3 := kf hk nR3 fR3
  replace fR4 := kf hk nR4 fR4
  replace fR5 := kf hk nR5 fR5
  replace fR6 := kf hk nR6 fR6
  replace fR7 := kf hk nR7 fR7
  replace nA0 := kc hk nA0
  replace nA1 := kc hk nA1
  replace nA2 := kc hk nA2
  replace nA3 := kc hk nA3
  replace nB0 := kc hk nB0
  replace nB1 := kc hk nB1
  replace nB2 := kc hk nB2
  replace nB3 := kc hk nB3
  replace nR0 := kc hk nR0
  replace nR1 := kc hk nR1
  replace nR2 := kc hk nR2
  replace nR3 := kc hk nR3
  replace nR4 := kc hk nR4
  replace nR5 := kc hk nR5
  replace nR6 := kc hk nR6
  replace nR7 := kc hk nR7
  replace H1 := Lib.hid (H1.out.kept0 hk)
  replace H2 := Lib.hid (H2.out.kept0 hk)
  replace H3 := Lib.hid (H3.out.kept0 hk)
  replace H4 := Lib.hid (H4.out.kept0 hk)
  replace KT := Lib.hid (KT.out.trans0 hk)
  clear hk
  have S1 := Lib.hid hs1
  have G1 := Lib.hid (hf1.mono (B' := w.heap.size + 1 + 1 + 1) (by omega))
  have S2 := Lib.hid hs2
  have G2 := Lib.hid (hf2.mono (B' := w.heap.size + 1 + 1 + 1) (by omega))
  have S3 := Lib.hid hs3
  have G3 := Lib.hid (hf3.mono (B' := w.heap.size + 1 + 1 + 1) (by omega))
  have S4 := Lib.hid hs4
  have G4 := Lib.hid (hf4.mono (B' := w.heap.size + 1 + 1 + 1) (by omega))
  clear hs1 hs2 hs3 hs4 hf1 hf2 hf3 hf4
  obtain ⟨p1_, hp1_⟩ : ∃ r, r = isNeg y1 := ⟨_, rfl⟩
  obtain ⟨p2_, hp2_⟩ : ∃ r, r = isNeg y2 := ⟨_, rfl⟩
  obtain ⟨p3_, hp3_⟩ : ∃ r, r = isNeg y3 := ⟨_, rfl⟩
  obtain ⟨p4_, hp4_⟩ : ∃ r, r = isNeg y4 := ⟨_, rfl⟩
  rw [← hp1_, ← hp2_, ← hp3_, ← hp4_]
  generalize hW : ((((((((v4.setCell ⟨w.heap.size + 1 + 1, 0, none⟩ (.bool p1_)).setCell ⟨w.heap.size + 1 + 1, 1, none⟩ (.slice b1 (mag y1).length cc1)).setCell ⟨w.heap.size + 1 + 1, 2, none⟩ (.bool p2_)).setCell ⟨w.heap.size + 1 + 1, 3, none⟩ (.slice b2 (mag y2).length cc2)).setCell ⟨w.heap.size + 1 + 1, 4, none⟩ (.bool p3_)).setCell ⟨w.heap.size + 1 + 1, 5, none⟩ (.slice b3 (mag y3).length cc3)).setCell ⟨w.heap.size + 1 + 1, 6, none⟩ (.bool p4_)).setCell ⟨w.heap.size + 1 + 1, 7, none⟩ (.slice b4 (mag y4).length cc4)) = ww2
  have hk : Kept [w.heap.size + 1 + 1] v4 ww2 := by rw [← hW]; exact ((((((((Kept.refl _ _).setCell _ _ (by simp)).setCell _ _ (by simp)).setCell _ _ (by simp)).setCell _ _ (by simp)).setCell _ _ (by simp)).setCell _ _ (by simp)).setCell _ _ (by simp)).setCell _ _ (by simp)
  have hfz : ∀ x, ww2.frozen? x = v4.frozen? x := by rw [← hW]; intro x; simp only [World.frozen?_setCell]
  obtain ⟨e0, e1, e2, e3, e4, e5, e6, e7⟩ := st8 hW.symm nR0.out nR1.out nR2.out nR3.out nR4.out nR5.out nR6.out nR7.out
  have z2 := hk.size
  replace fR0 := kz hfz fR0
  replace fR1 := kz hfz fR1
  replace fR2 := kz hfz fR2
  replace fR3 := kz hfz fR3
  replace fR4 := kz hfz fR4
  replace fR5 := kz hfz fR5
  replace fR6 := kz hfz fR6
  replace fR7 := kz hfz fR7
  replace nA0 := kd hk nA0 (by simp <;> omega)
  replace nA1 := kd hk nA1 (by simp <;> omega)
  replace nA2 := kd hk nA2 (by simp <;> omega)
  replace nA3 := kd hk nA3 (by simp <;> omega)
  replace nB0 := kd hk nB0 (by simp <;> omega)
  replace nB1 := kd hk nB1 (by simp <;> omega)
  replace nB2 := kd hk nB2 (by simp <;> omega)
  replace nB3 := kd hk nB3 (by simp <;> omega)
  replace H1 := Lib.hid (H1.out.kept hk (fun hn y hy hm => by have h9 := F1.out hn y hy; simp at hm; omega))
  replace H2 := Lib.hid (H2.out.kept hk (fun hn y hy hm => by have h9 := F2.out hn y hy; simp at hm; omega))
  replace H3 := Lib.hid (H3.out.kept hk (fun hn y hy hm => by have h9 := F3.out hn y hy; simp at hm; omega))
  replace H4 := Lib.hid (H4.out.kept hk (fun hn y hy hm => by have h9 := F4.out hn y hy; simp at hm; omega))
  replace S1 := Lib.hid (S1.out.kept hk (fun hn y hy hm => by have h9 := G1.out hn y hy; simp at hm; omega))
  replace S2 := Lib.hid (S2.out.kept hk (fun hn y hy hm => by have h9 := G2.out hn y hy; simp at hm; omega))
  replace S3 := Lib.hid (S3.out.kept hk (fun hn y hy hm => by have h9 := G3.out hn y hy; simp at hm; omega))
  replace S4 := Lib.hid (S4.out.kept hk (fun hn y hy hm => by have h9 := G4.out hn y hy; simp at hm; omega))
  replace nR0 := Lib.hid e0
  replace nR1 := Lib.hid e1
  replace nR2 := Lib.hid e2
  replace nR3 := Lib.hid e3
  replace nR4 := Lib.hid e4
  replace nR5 := Lib.hid e5
  replace nR6 := Lib.hid e6
  replace nR7 := Lib.hid e7
  replace KT := Lib.hid (KT.out.trans hk (fun x hx hlt => by simp at hx; omega))
  clear hk hfz hW e0 e1 e2 e3 e4 e5 e6 e7
  have HP1 := Lib.hid hp1_
  have HP2 := Lib.hid hp2_
  have HP3 := Lib.hid hp3_
  have HP4 := Lib.hid hp4_
  clear hp1_ hp2_ hp3_ hp4_
  go_wp2_with fail
  have e0 := nR0.out
  have e1 := nR1.out
  have e2 := nR2.out
  have e3 := nR3.out
  have e4 := nR4.out
  have e5 := nR5.out
  have e6 := nR6.out
  have e7 := nR7.out
  refine bodyPost_ret (v := .agg #[.bool p1_, .slice b1 (mag y1).length cc1, .bool p2_, .slice b2 (mag y2).length cc2, .bool p3_, .slice b3 (mag y3).length cc3, .bool p4_, .slice b4 (mag y4).length cc4]) (by simp [results, Try.results26, go_sem, e0, e1, e2, e3, e4, e5, e6, e7]) rfl ?_
  exact four_finF HP1.out HP2.out HP3.out HP4.out S1.out S2.out S3.out S4.out (G1.out.mono (by omega)) (G2.out.mono (by omega)) (G3.out.mono (by omega)) (G4.out.mono (by omega)) KT.out

set_option maxHeartbeats 8000000 in
set_option maxRecDepth 20000 in
theorem cornersOf_CeilDiv (p q : Bool) (a b : Option Addr) (n c m d : Nat) (xs ys : List Int) (p' q' : Bool) (a' b' : Option Addr) (n' c' m' d' : Nat) (xs' ys' : List Int) (y1 y2 y3 y4 : Int) (w : World) (h1 : Sl w a n c xs) (h2 : Sl w b m d ys) (h3 : Sl w a' n' c' xs') (h4 : Sl w b' m' d' ys') (hx : BigOk p xs) (hy : BigOk q ys) (hx' : BigOk p' xs') (hy' : BigOk q' ys') (lx : xs.length ≤ 39) (ly : ys.length ≤ 39) (z3 : xs'.length ≠ 0) (z4 : ys'.length ≠ 0) (hy1 : y1 = divZ true p p' (val xs) (val xs')) (hy2 : y2 = divZ true p q' (val xs) (val ys')) (hy3 : y3 = divZ true q p' (val ys) (val xs')) (hy4 : y4 = divZ true q q' (val ys) (val ys')) :
    Calls Try.prog 26 #[.agg #[.bool p, .slice a n c, .bool q, .slice b m d], .agg #[.bool p', .slice a' n' c', .bool q', .slice b' m' d'], .func (.func 28) #[] #[]] w (FourF w y1 y2 y3 y4) := by
  have H1 := Lib.hid h1
  have H2 := Lib.hid h2
  have H3 := Lib.hid h3
  have H4 := Lib.hid h4
  clear h1 h2 h3 h4
  have B1 := Lib.hid hx
  have B2 := Lib.hid hy
  have B3 := Lib.hid hx'
  have B4 := Lib.hid hy'
  have HY1 := Lib.hid hy1
  have HY2 := Lib.hid hy2
  have HY3 := Lib.hid hy3
  have HY4 := Lib.hid hy4
  clear hx hy hx' hy' hy1 hy2 hy3 hy4
  have Z3 := Lib.hid z3
  have Z4 := Lib.hid z4
  clear z3 z4
  have F1 := Lib.hid H1.out.lt
  have F2 := Lib.hid H2.out.lt
  have F3 := Lib.hid H3.out.lt
  have F4 := Lib.hid H4.out.lt
  go_enter Try.func26, Try.ntmps26
  go_upto_region 1 with fail
  generalize hW : (((w.alloc (.cells #[.bool p, .slice a n c, .bool q, .slice b m d] 30)).alloc (.cells #[.bool p', .slice a' n' c', .bool q', .slice b' m' d'] 30)).alloc (.cells #[.bool false, .slice none 0 0, .bool false, .slice none 0 0, .bool false, .slice none 0 0, .bool false, .slice none 0 0] 51)) = ww0
  have hkk : Kept [] (((w.alloc (.cells #[.bool p, .slice a n c, .bool q, .slice b m d] 30)).alloc (.cells #[.bool p', .slice a' n' c', .bool q', .slice b' m' d'] 30)).alloc (.cells #[.bool false, .slice none 0 0, .bool false, .slice none 0 0, .bool false, .slice none 0 0, .bool false, .slice none 0 0] 51)) ww0 := by rw [hW]; exact Kept.refl _ _
  have zzA : w.heap.size + 1 + 1 + 1 = ww0.heap.size := by rw [← hW]; simp
  obtain ⟨⟨nA0, nA1, nA2, nA3⟩, _⟩ := tp4 hkk.peel.peel (g := w.heap.size) (by simp) (by simp)
  obtain ⟨⟨nB0, nB1, nB2, nB3⟩, _⟩ := tp4 hkk.peel (g := w.heap.size + 1) (by simp) (by simp)
  have nR0 := Lib.hid (hkk.top (g := w.heap.size + 1 + 1) (by simp) (by simp) 0 (v := .bool false) rfl).1
  have fR0 := Lib.hid (hkk.top (g := w.heap.size + 1 + 1) (by simp) (by simp) 0 (v := .bool false) rfl).2.1
  have nR1 := Lib.hid (hkk.top (g := w.heap.size + 1 + 1) (by simp) (by simp) 1 (v := .slice none 0 0) rfl).1
  have fR1 := Lib.hid (hkk.top (g := w.heap.size + 1 + 1) (by simp) (by simp) 1 (v := .slice none 0 0) rfl).2.1
  have nR2 := Lib.hid (hkk.top (g := w.heap.size + 1 + 1) (by simp) (by simp) 2 (v := .bool false) rfl).1
  have fR2 := Lib.hid (hkk.top (g := w.heap.size + 1 + 1) (by simp) (by simp) 2 (v := .bool false) rfl).2.1
  have nR3 := Lib.hid (hkk.top (g := w.heap.size + 1 + 1) (by simp) (by simp) 3 (v := .slice none 0 0) rfl).1
  have fR3 := Lib.hid (hkk.top (g := w.heap.size + 1 + 1) (by simp) (by simp) 3 (v := .slice none 0 0) rfl).2.1
  have nR4 := Lib.hid (hkk.top (g := w.heap.size + 1 + 1) (by simp) (by simp) 4 (v := .bool false) rfl).1
  have fR4 := Lib.hid (hkk.top (g := w.heap.size + 1 + 1) (by simp) (by simp) 4 (v := .bool false) rfl).2.1
  have nR5 := Lib.hid (hkk.top (g := w.heap.size + 1 + 1) (by simp) (by simp) 5 (v := .slice none 0 0) rfl).1
  have fR5 := Lib.hid (hkk.top (g := w.heap.size + 1 + 1) (by simp) (by simp) 5 (v := .slice none 0 0) rfl).2.1
  have nR6 := Lib.hid (hkk.top (g := w.heap.size + 1 + 1) (by simp) (by simp) 6 (v := .bool false) rfl).1
  have fR6 := Lib.hid (hkk.top (g := w.heap.size + 1 + 1) (by simp) (by simp) 6 (v := .bool false) rfl).2.1
  have nR7 := Lib.hid (hkk.top (g := w.heap.size + 1 + 1) (by simp) (by simp) 7 (v := .slice none 0 0) rfl).1
  have fR7 := Lib.hid (hkk.top (g := w.heap.size + 1 + 1) (by simp) (by simp) 7 (v := .slice none 0 0) rfl).2.1
  have hk := hkk.peel.peel.peel
  clear hkk hW
  have z0 := hk.size
  have KT := Lib.hid hk
  clear hk
  replace H1 := Lib.hid (H1.out.kept0 KT.out)
  replace H2 := Lib.hid (H2.out.kept0 KT.out)
  replace H3 := Lib.hid (H3.out.kept0 KT.out)
  replace H4 := Lib.hid (H4.out.kept0 KT.out)
  have tA0 := nA0.out
  have tA1 := nA1.out
  have tA2 := nA2.out
  have tA3 := nA3.out
  have tB0 := nB0.out
  have tB1 := nB1.out
  have tB2 := nB2.out
  have tB3 := nB3.out
  go_region_held3 (fun w' => w'.cell? ⟨w.heap.size, 0, none⟩ = some (.bool p) ∧ w'.cell? ⟨w.heap.size, 1, none⟩ = some (.slice a n c) ∧ w'.cell? ⟨w.heap.size, 2, none⟩ = some (.bool q) ∧ w'.cell? ⟨w.heap.size, 3, none⟩ = some (.slice b m d) ∧ w'.cell? ⟨w.heap.size + 1, 0, none⟩ = some (.bool p') ∧ w'.cell? ⟨w.heap.size + 1, 1, none⟩ = some (.slice a' n' c') ∧ w'.cell? ⟨w.heap.size + 1, 2, none⟩ = some (.bool q') ∧ w'.cell? ⟨w.heap.size + 1, 3, none⟩ = some (.slice b' m' d') ∧ Hid (Kept [w.heap.size + 1 + 1] ww0 w'))
    ((go_split_ands; (try refine ⟨?_, ?_, ?_, ?_, ?_, ?_, ?_, ?_, ?_⟩) <;> with_reducible first | exact Kept.set8 (by assumption) | exact cell_set8 (by assumption) (by simp <;> omega) | exact Lib.hid ((Kept.refl _ _).drew) | exact drew_cell (by assumption) | exact Kept.allocH (by assumption) | exact alloc_cell (by assumption) | exact Lib.hid (Kept.trans0 (Hid.out (by assumption)) (by assumption)) | exact Kept.cell (by assumption) (by assumption) (by simp)))
    (first
      | (go_at_call 28; with_reducible show Calls _ _ #[Value.agg #[Value.bool p, Value.slice a n c], Value.agg #[Value.bool p', Value.slice a' n' c']] _ _; go_split_ands; refine (CeilDiv_z _ _ _ _ _ _ _ _ _ _ _ _ (H1.out.kept0 ((Kept.refl [] _).drew)) (H3.out.kept0 ((Kept.refl [] _).drew)) B1.out B3.out Z3.out lx HY1.out).mono ?_; intro e v1 hh; unfold BigZ at hh; obtain ⟨b1, hh⟩ := hh; obtain ⟨cc1, hh, hs1, hf1, hk1⟩ := hh; subst hh)
      | (go_at_call 28; with_reducible show Calls _ _ #[Value.agg #[Value.bool p, Value.slice a n c], Value.agg #[Value.bool q', Value.slice b' m' d']] _ _; go_split_ands; refine (CeilDiv_z _ _ _ _ _ _ _ _ _ _ _ _ (H1.out.kept0 (((Kept.refl [] _).drew).trans0 hk1)) (H4.out.kept0 (((Kept.refl [] _).drew).trans0 hk1)) B1.out B4.out Z4.out lx HY2.out).mono ?_; intro e v2 hh; unfold BigZ at hh; obtain ⟨b2, hh⟩ := hh; obtain ⟨cc2, hh, hs2, hf2, hk2⟩ := hh; subst hh)
      | (go_at_call 28; with_reducible show Calls _ _ #[Value.agg #[Value.bool q, Value.slice b m d], Value.agg #[Value.bool p', Value.slice a' n' c']] _ _; go_split_ands; refine (CeilDiv_z _ _ _ _ _ _ _ _ _ _ _ _ (H2.out.kept0 ((((Kept.refl [] _).drew).trans0 hk1).trans0 hk2)) (H3.out.kept0 ((((Kept.refl [] _).drew).trans0 hk1).trans0 hk2)) B2.out B3.out Z3.out ly HY3.out).mono ?_; intro e v3 hh; unfold BigZ at hh; obtain ⟨b3, hh⟩ := hh; obtain ⟨cc3, hh, hs3, hf3, hk3⟩ := hh; subst hh)
      | (go_at_call 28; with_reducible show Calls _ _ #[Value.agg #[Value.bool q, Value.slice b m d], Value.agg #[Value.bool q', Value.slice b' m' d']] _ _; go_split_ands; refine (CeilDiv_z _ _ _ _ _ _ _ _ _ _ _ _ (H2.out.kept0 (((((Kept.refl [] _).drew).trans0 hk1).trans0 hk2).trans0 hk3)) (H4.out.kept0 (((((Kept.refl [] _).drew).trans0 hk1).trans0 hk2).trans0 hk3)) B2.out B4.out Z4.out ly HY4.out).mono ?_; intro e v4 hh; unfold BigZ at hh; obtain ⟨b4, hh⟩ := hh; obtain ⟨cc4, hh, hs4, hf4, hk4⟩ := hh; subst hh; have hkr := (((((Kept.refl [] ww0).drew).trans0 hk1).trans0 hk2).trans0 hk3).trans0 hk4; have rg0 := hkr.cell (p := ⟨w.heap.size + 1 + 1, 0, none⟩) nR0.out (by simp); have rg1 := hkr.cell (p := ⟨w.heap.size + 1 + 1, 1, none⟩) nR1.out (by simp); have rg2 := hkr.cell (p := ⟨w.heap.size + 1 + 1, 2, none⟩) nR2.out (by simp); have rg3 := hkr.cell (p := ⟨w.heap.size + 1 + 1, 3, none⟩) nR3.out (by simp); have rg4 := hkr.cell (p := ⟨w.heap.size + 1 + 1, 4, none⟩) nR4.out (by simp); have rg5 := hkr.cell (p := ⟨w.heap.size + 1 + 1, 5, none⟩) nR5.out (by simp); have rg6 := hkr.cell (p := ⟨w.heap.size + 1 + 1, 6, none⟩) nR6.out (by simp); have rg7 := hkr.cell (p := ⟨w.heap.size + 1 + 1, 7, none⟩) nR7.out (by simp); have ru0 := hkr.free' (p := ⟨w.heap.size + 1 + 1, 0, none⟩) nR0.out fR0.out (by simp); have ru1 := hkr.free' (p := ⟨w.heap.size + 1 + 1, 1, none⟩) nR1.out fR1.out (by simp); have ru2 := hkr.free' (p := ⟨w.heap.size + 1 + 1, 2, none⟩) nR2.out fR2.out (by simp); have ru3 := hkr.free' (p := ⟨w.heap.size + 1 + 1, 3, none⟩) nR3.out fR3.out (by simp); have ru4 := hkr.free' (p := ⟨w.heap.size + 1 + 1, 4, none⟩) nR4.out fR4.out (by simp); have ru5 := hkr.free' (p := ⟨w.heap.size + 1 + 1, 5, none⟩) nR5.out fR5.out (by simp); have ru6 := hkr.free' (p := ⟨w.heap.size + 1 + 1, 6, none⟩) nR6.out fR6.out (by simp); have ru7 := hkr.free' (p := ⟨w.heap.size + 1 + 1, 7, none⟩) nR7.out fR7.out (by simp)))
  clear tA0 tA1 tA2 tA3 tB0 tB1 tB2 tB3
  have hs1 := hs1.kept0 ((hk2.trans0 hk3).trans0 hk4)
  have hs2 := hs2.kept0 (hk3.trans0 hk4)
  have hs3 := hs3.kept0 hk4
  have z1 := hk1.size
  have z2 := hk2.size
  have z3 := hk3.size
  have z4 := hk4.size
  simp only [World.size_drew] at z1 hf1
  have hk := hkr
  clear hkr hk1 hk2 hk3 hk4
  have z1 := hk.size
  replace fR0 := kf hk nR0 fR0
  replace fR1 := kf hk nR1 fR1
  replace fR2 := kf hk nR2 fR2
  replace fR3 := kf hk nR3 fR3
  replace fR4 := kf hk nR4 fR4
  replace fR5 := kf hk nR5 fR5
  replace fR6 := kf hk nR6 fR6
  replace fR7 := kf hk nR7 fR7
  replace nA0 := kc hk nA0
  replace nA1 := kc hk nA1
  replace nA2 := kc hk nA2
  replace nA3 := kc hk nA3
  replace nB0 := kc hk nB0
  replace nB1 := kc hk nB1
  replace nB2 := kc hk nB2
  replace nB3 := kc hk nB3
  replace nR0 := kc hk nR0
  replace nR1 := kc hk nR1
  replace nR2 := kc hk nR2
  replace nR3 := kc hk nR3
  replace nR4 := kc hk nR4
  replace nR5 := kc hk nR5
  replace nR6 := kc hk nR6
  replace nR7 := kc hk nR7
  replace H1 := Lib.hid (H1.out.kept0 hk)
  replace H2 := Lib.hid (H2.out.kept0 hk)
  replace H3 := Lib.hid (H3.out.kept0 hk)
  replace H4 := Lib.hid (H4.out.kept0 hk)
  replace KT := Lib.hid (KT.out.trans0 hk)
  clear hk
  have S1 := Lib.hid hs1
  have G1 := Lib.hid (hf1.mono (B' := w.heap.size + 1 + 1 + 1) (by omega))
  have S2 := Lib.hid hs2
  have G2 := Lib.hid (hf2.mono (B' := w.heap.size + 1 + 1 + 1) (by omega))
  have S3 := Lib.hid hs3
  have G3 := Lib.hid (hf3.mono (B' := w.heap.size + 1 + 1 + 1) (by omega))
  have S4 := Lib.hid hs4
  have G4 := Lib.hid (hf4.mono (B' := w.heap.size + 1 + 1 + 1) (by omega))
  clear hs1 hs2 hs3 hs4 hf1 hf2 hf3 hf4
  obtain ⟨p1_, hp1_⟩ : ∃ r, r = isNeg y1 := ⟨_, rfl⟩
  obtain ⟨p2_, hp2_⟩ : ∃ r, r = isNeg y2 := ⟨_, rfl⟩
  obtain ⟨p3_, hp3_⟩ : ∃ r, r = isNeg y3 := ⟨_, rfl⟩
  obtain ⟨p4_, hp4_⟩ : ∃ r, r = isNeg y4 := ⟨_, rfl⟩
  rw [← hp1_, ← hp2_, ← hp3_, ← hp4_]
  generalize hW : ((((((((v4.setCell ⟨w.heap.size + 1 + 1, 0, none⟩ (.bool p1_)).setCell ⟨w.heap.size + 1 + 1, 1, none⟩ (.slice b1 (mag y1).length cc1)).setCell ⟨w.heap.size + 1 + 1, 2, none⟩ (.bool p2_)).setCell ⟨w.heap.size + 1 + 1, 3, none⟩ (.slice b2 (mag y2).length cc2)).setCell ⟨w.heap.size + 1 + 1, 4, none⟩ (.bool p3_)).setCell ⟨w.heap.size + 1 + 1, 5, none⟩ (.slice b3 (mag y3).length cc3)).setCell ⟨w.heap.size + 1 + 1, 6, none⟩ (.bool p4_)).setCell ⟨w.heap.size + 1 + 1, 7, none⟩ (.slice b4 (mag y4).length cc4)) = ww2
  have hk : Kept [w.heap.size + 1 + 1] v4 ww2 := by rw [← hW]; exact ((((((((Kept.refl _ _).setCell _ _ (by simp)).setCell _ _ (by simp)).setCell _ _ (by simp)).setCell _ _ (by simp)).setCell _ _ (by simp)).setCell _ _ (by simp)).setCell _ _ (by simp)).setCell _ _ (by simp)
  have hfz : ∀ x, ww2.frozen? x = v4.frozen? x := by rw [← hW]; intro x; simp only [World.frozen?_setCell]
  obtain ⟨e0, e1, e2, e3, e4, e5, e6, e7⟩ := st8 hW.symm nR0.out nR1.out nR2.out nR3.out nR4.out nR5.out nR6.out nR7.out
  have z2 := hk.size
  replace fR0 := kz hfz fR0
  replace fR1 := kz hfz fR1
  replace fR2 := kz hfz fR2
  replace fR3 := kz hfz fR3
  replace fR4 := kz hfz fR4
  replace fR5 := kz hfz fR5
  replace fR6 := kz hfz fR6
  replace fR7 := kz hfz fR7
  replace nA0 := kd hk nA0 (by simp <;> omega)
  replace nA1 := kd hk nA1 (by simp <;> omega)
  replace nA2 := kd hk nA2 (by simp <;> omega)
  replace nA3 := kd hk nA3 (by simp <;> omega)
  replace nB0 := kd hk nB0 (by simp <;> omega)
  replace nB1 := kd hk nB1 (by simp <;> omega)
  replace nB2 := kd hk nB2 (by simp <;> omega)
  replace nB3 := kd hk nB3 (by simp <;> omega)
  replace H1 := Lib.hid (H1.out.kept hk (fun hn y hy hm => by have h9 := F1.out hn y hy; simp at hm; omega))
  replace H2 := Lib.hid (H2.out.kept hk (fun hn y hy hm => by have h9 := F2.out hn y hy; simp at hm; omega))
  replace H3 := Lib.hid (H3.out.kept hk (fun hn y hy hm => by have h9 := F3.out hn y hy; simp at hm; omega))
  replace H4 := Lib.hid (H4.out.kept hk (fun hn y hy hm => by have h9 := F4.out hn y hy; simp at hm; omega))
  replace S1 := Lib.hid (S1.out.kept hk (fun hn y hy hm => by have h9 := G1.out hn y hy; simp at hm; omega))
  replace S2 := Lib.hid (S2.out.kept hk (fun hn y hy hm => by have h9 := G2.out hn y hy; simp at hm; omega))
  replace S3 := Lib.hid (S3.out.kept hk (fun hn y hy hm => by have h9 := G3.out hn y hy; simp at hm; omega))
  replace S4 := Lib.hid (S4.out.kept hk (fun hn y hy hm => by have h9 := G4.out hn y hy; simp at hm; omega))
  replace nR0 := Lib.hid e0
  replace nR1 := Lib.hid e1
  replace nR2 := Lib.hid e2
  replace nR3 := Lib.hid e3
  replace nR4 := Lib.hid e4
  replace nR5 := Lib.hid e5
  replace nR6 := Lib.hid e6
  replace nR7 := Lib.hid e7
  replace KT := Lib.hid (KT.out.trans hk (fun x hx hlt => by simp at hx; omega))
  clear hk hfz hW e0 e1 e2 e3 e4 e5 e6 e7
  have HP1 := Lib.hid hp1_
  have HP2 := Lib.hid hp2_
  have HP3 := Lib.hid hp3_
  have HP4 := Lib.hid hp4_
  clear hp1_ hp2_ hp3_ hp4_
  go_wp2_with fail
  have e0 := nR0.out
  have e1 := nR1.out
  have e2 := nR2.out
  have e3 := nR3.out
  have e4 := nR4.out
  have e5 := nR5.out
  have e6 := nR6.out
  have e7 := nR7.out
  refine bodyPost_ret (v := .agg #[.bool p1_, .slice b1 (mag y1).length cc1, .bool p2_, .slice b2 (mag y2).length cc2, .bool p3_, .slice b3 (mag y3).length cc3, .bool p4_, .slice b4 (mag y4).length cc4]) (by simp [results, Try.results26, go_sem, e0, e1, e2, e3, e4, e5, e6, e7]) rfl ?_
  exact four_finF HP1.out HP2.out HP3.out HP4.out S1.out S2.out S3.out S4.out (G1.out.mono (by omega)) (G2.out.mono (by omega)) (G3.out.mono (by omega)) (G4.out.mono (by omega)) KT.out

end Go.Proofs.Ytofpommikmdlfaa
