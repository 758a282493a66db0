/-
  Contracts of the model's l3Whole, l3Neg, l3Add and l3Sub. Conditions: the limbs read as lists of numbers that are in order.
-/
import Derived.Deep.RegionHeld3
import Derived.Deep.DrawnRows
import Derived.Deep.DeepCutAuto
import Derived.Test.YtlhiahhpmjiioaaSpanF
import Derived.Test.YtlhiahhpmjiioaaBigE
namespace Go.Proofs.Ytlhiahhpmjiioaa
open Go.RowKit

/-- A call of the model that answers a span's result: a code, and two ends in new memory. -/
def SpanM (w : World) (r : SV) (e : Ending) (w' : World) : Prop :=
  ∃ a c b d, e = .returned (.agg #[.int .i64 r.code, .bool (isNeg r.lo), .slice a (mag r.lo).length c, .bool (isNeg r.hi), .slice b (mag r.hi).length d]) ∧ Sl w' a (mag r.lo).length c (mag r.lo) ∧ Sl w' b (mag r.hi).length d (mag r.hi) ∧
    Fr w.heap.size a (mag r.lo).length ∧ Fr w.heap.size b (mag r.hi).length ∧ Kept [] w w'
/-- A call that answers a span's result whose ends are those that were given, where they are not empty. -/
def SpanF (w : World) (a0 b0 : Option Addr) (r : SV) (e : Ending) (w' : World) : Prop :=
  ∃ a c b d, e = .returned (.agg #[.int .i64 r.code, .bool (isNeg r.lo), .slice a (mag r.lo).length c, .bool (isNeg r.hi), .slice b (mag r.hi).length d]) ∧ Sl w' a (mag r.lo).length c (mag r.lo) ∧ Sl w' b (mag r.hi).length d (mag r.hi) ∧
    (0 < (mag r.lo).length → a = a0) ∧ (0 < (mag r.hi).length → b = b0) ∧ Kept [] w w'
/-- A call of the model that answers a span, its ends in new memory. -/
def SpanV (w : World) (lo hi : Int) (e : Ending) (w' : World) : Prop :=
  ∃ a c b d, e = .returned (.agg #[.bool (isNeg lo), .slice a (mag lo).length c, .bool (isNeg hi), .slice b (mag hi).length d]) ∧ Sl w' a (mag lo).length c (mag lo) ∧ Sl w' b (mag hi).length d (mag hi) ∧
    Fr w.heap.size a (mag lo).length ∧ Fr w.heap.size b (mag hi).length ∧ Kept [] w w'
theorem spanF_no {w w' : World} {a0 b0 : Option Addr} {f : Int} (hk : Kept [] w w') : SpanF w a0 b0 (noSpan f) (.returned (.agg #[.int .i64 f, .bool false, .slice none 0 0, .bool false, .slice none 0 0])) w' := by
  obtain ⟨h1, h2, h3, h4, h5⟩ := noSpan_ends f
  refine ⟨none, 0, none, 0, ?_, ?_, ?_, fun h => by rw [h3] at h; simp at h, fun h => by rw [h5] at h; simp at h, hk⟩
  · rw [h1, h2, h3, h4, h5]; rfl
  · rw [h3]; exact Sl.nil _
  · rw [h5]; exact Sl.nil _
theorem spanM_no {w w' : World} {f : Int} (hk : Kept [] w w') : SpanM w (noSpan f) (.returned (.agg #[.int .i64 f, .bool false, .slice none 0 0, .bool false, .slice none 0 0])) w' := by
  obtain ⟨h1, h2, h3, h4, h5⟩ := noSpan_ends f
  refine ⟨none, 0, none, 0, ?_, ?_, ?_, fun h => by rw [h3] at h; simp at h, fun h => by rw [h5] at h; simp at h, hk⟩
  · rw [h1, h2, h3, h4, h5]; rfl
  · rw [h3]; exact Sl.nil _
  · rw [h5]; exact Sl.nil _
theorem spanF_fin {w w' : World} {lo hi : Int} {a b : Option Addr} {n c m d : Nat} {p q : Bool} (hp : p = isNeg lo) (hq : q = isNeg hi) (hn : (mag lo).length = n) (hm : (mag hi).length = m) (hS : Sl w' a n c (mag lo)) (hS' : Sl w' b m d (mag hi)) (hk : Kept [] w w') :
    SpanF w a b ⟨0, lo, hi⟩ (.returned (.agg #[.int .i64 0, .bool p, .slice a n c, .bool q, .slice b m d])) w' := by
  subst hp hq hn hm; exact ⟨a, c, b, d, rfl, hS, hS', fun _ => rfl, fun _ => rfl, hk⟩
theorem spanV_fin {w w' : World} {lo hi : Int} {a b : Option Addr} {c d : Nat} {p q : Bool} (hp : p = isNeg lo) (hq : q = isNeg hi) (hS : Sl w' a (mag lo).length c (mag lo)) (hS' : Sl w' b (mag hi).length d (mag hi))
    (hF : Fr w.heap.size a (mag lo).length) (hF' : Fr w.heap.size b (mag hi).length) (hk : Kept [] w w') : SpanV w lo hi (.returned (.agg #[.bool p, .slice a (mag lo).length c, .bool q, .slice b (mag hi).length d])) w' := by
  subst hp hq; exact ⟨a, c, b, d, rfl, hS, hS', hF, hF', hk⟩
theorem fr_of_fitS {B : Nat} {lo hi : Int} {a b : Option Addr} (h : Fr B a (mag lo).length) (hb : 0 < (mag (fitS lo hi).lo).length → b = a) : Fr B b (mag (fitS lo hi).lo).length := fun hn x hx => by
  have e := hb hn
  subst e
  unfold fitS at hn
  by_cases h1 : 20 < (mag lo).length ∨ 20 < (mag hi).length
  · rw [if_pos h1, (noSpan_ends 7).2.2.1] at hn; simp at hn
  · rw [if_neg h1] at hn; exact h hn x hx
theorem fr_of_fitS' {B : Nat} {lo hi : Int} {a b : Option Addr} (h : Fr B a (mag hi).length) (hb : 0 < (mag (fitS lo hi).hi).length → b = a) : Fr B b (mag (fitS lo hi).hi).length := fun hn x hx => by
  have e := hb hn
  subst e
  unfold fitS at hn
  by_cases h1 : 20 < (mag lo).length ∨ 20 < (mag hi).length
  · rw [if_pos h1, (noSpan_ends 7).2.2.2.2] at hn; simp at hn
  · rw [if_neg h1] at hn; exact h hn x hx

theorem l2Add_z (p q : Bool) (a b : Option Addr) (n c m d : Nat) (xs ys : List Int) (z : Int) (w : World) (hx : Nat40 xs) (hy : Nat40 ys) (h : Sl w a n c xs) (h' : Sl w b m d ys) (hz : z = sv p xs + sv q ys) :
    Calls Try.prog 30 #[.agg #[.bool p, .slice a n c], .agg #[.bool q, .slice b m d]] w (BigV w.heap.size w z) := by
  subst hz; exact l2Add_any _ _ _ _ _ _ _ _ _ _ _ hx hy h h'

set_option maxHeartbeats 8000000 in
set_option maxRecDepth 20000 in
theorem l3Add_any (p q : Bool) (a b : Option Addr) (n c m d : Nat) (xs ys : List Int) (p' q' : Bool) (a' b' : Option Addr) (n' c' m' d' : Nat) (xs' ys' : List Int) (t1 t2 : Int) (w : World) (h1 : Sl w a n c xs) (h2 : Sl w b m d ys) (h3 : Sl w a' n' c' xs') (h4 : Sl w b' m' d' ys') (n1 : Nat40 xs) (n2 : Nat40 ys) (n3 : Nat40 xs') (n4 : Nat40 ys') (hz1 : t1 = sv p xs + sv p' xs') (hz2 : t2 = sv q ys + sv q' ys') :
    Calls Try.prog 20 #[.agg #[.bool p, .slice a n c, .bool q, .slice b m d], .agg #[.bool p', .slice a' n' c', .bool q', .slice b' m' d']] w (SpanV w t1 t2) := by
  have H1 := Lib.hid h1
  have H2 := Lib.hid h2
  have H3 := Lib.hid h3
  have H4 := Lib.hid h4
  clear h1 h2 h3 h4
  have N1 := Lib.hid n1
  have N2 := Lib.hid n2
  have N3 := Lib.hid n3
  have N4 := Lib.hid n4
  have HZ1 := Lib.hid hz1
  have HZ2 := Lib.hid hz2
  clear hz1 hz2 n1 n2 n3 n4
  have F1 := Lib.hid H1.out.lt
  have F2 := Lib.hid H2.out.lt
  have F3 := Lib.hid H3.out.lt
  have F4 := Lib.hid H4.out.lt
  go_enter Try.func20, Try.ntmps20
  go_upto_region 1 with fail
  generalize hW : (((w.alloc (.cells #[.bool p, .slice a n c, .bool q, .slice b m d] 28)).alloc (.cells #[.bool p', .slice a' n' c', .bool q', .slice b' m' d'] 28)).alloc (.cells #[.bool false, .slice none 0 0, .bool false, .slice none 0 0] 28)) = ww0
  have hkk : Kept [] (((w.alloc (.cells #[.bool p, .slice a n c, .bool q, .slice b m d] 28)).alloc (.cells #[.bool p', .slice a' n' c', .bool q', .slice b' m' d'] 28)).alloc (.cells #[.bool false, .slice none 0 0, .bool false, .slice none 0 0] 28)) ww0 := by rw [hW]; exact Kept.refl _ _
  have zzA : w.heap.size + 1 + 1 + 1 = ww0.heap.size := by rw [← hW]; simp
  obtain ⟨⟨nA0, nA1, nA2, nA3⟩, _⟩ := tp4 hkk.peel.peel (g := w.heap.size) (by simp) (by simp)
  obtain ⟨⟨nB0, nB1, nB2, nB3⟩, _⟩ := tp4 hkk.peel (g := w.heap.size + 1) (by simp) (by simp)
  obtain ⟨⟨nR0, nR1, nR2, nR3⟩, fR0, fR1, fR2, fR3⟩ := tp4 hkk (g := w.heap.size + 1 + 1) (by simp) (by simp)
  have hk := hkk.peel.peel.peel
  clear hkk hW
  have z0 := hk.size
  have KT := Lib.hid hk
  clear hk
  replace H1 := Lib.hid (H1.out.kept0 KT.out)
  replace H2 := Lib.hid (H2.out.kept0 KT.out)
  replace H3 := Lib.hid (H3.out.kept0 KT.out)
  replace H4 := Lib.hid (H4.out.kept0 KT.out)
  have tA0 := nA0.out
  have tA1 := nA1.out
  have tA2 := nA2.out
  have tA3 := nA3.out
  have tB0 := nB0.out
  have tB1 := nB1.out
  have tB2 := nB2.out
  have tB3 := nB3.out
  go_region_held3 (fun w' => w'.cell? ⟨w.heap.size, 0, none⟩ = some (.bool p) ∧ w'.cell? ⟨w.heap.size, 1, none⟩ = some (.slice a n c) ∧ w'.cell? ⟨w.heap.size, 2, none⟩ = some (.bool q) ∧ w'.cell? ⟨w.heap.size, 3, none⟩ = some (.slice b m d) ∧ w'.cell? ⟨w.heap.size + 1, 0, none⟩ = some (.bool p') ∧ w'.cell? ⟨w.heap.size + 1, 1, none⟩ = some (.slice a' n' c') ∧ w'.cell? ⟨w.heap.size + 1, 2, none⟩ = some (.bool q') ∧ w'.cell? ⟨w.heap.size + 1, 3, none⟩ = some (.slice b' m' d') ∧ Hid (Kept [w.heap.size + 1 + 1] ww0 w'))
    ((go_split_ands; (try refine ⟨?_, ?_, ?_, ?_, ?_, ?_, ?_, ?_, ?_⟩) <;> with_reducible first | exact Kept.set4 (by assumption) | exact cell_set4 (by assumption) (by simp <;> omega) | exact Lib.hid ((Kept.refl _ _).drew) | exact drew_cell (by assumption) | exact Kept.allocH (by assumption) | exact alloc_cell (by assumption) | exact Lib.hid (Kept.trans0 (Hid.out (by assumption)) (by assumption)) | exact Kept.cell (by assumption) (by assumption) (by simp)))
    (first
      | (go_at_call_of 30 (Value.agg #[Value.bool p, Value.slice a n c]); go_split_ands; refine (l2Add_z _ _ _ _ _ _ _ _ _ _ _ _ N1.out N3.out (H1.out.kept0 ((Kept.refl [] _).drew)) (H3.out.kept0 ((Kept.refl [] _).drew)) HZ1.out).mono ?_; rintro e v1 ⟨a1, c1, rfl, hs1, hf1, hk1⟩)
      | (go_at_call_of 30 (Value.agg #[Value.bool q, Value.slice b m d]); go_split_ands; refine (l2Add_z _ _ _ _ _ _ _ _ _ _ _ _ N2.out N4.out (H2.out.kept0 (((Kept.refl [] _).drew).trans0 hk1)) (H4.out.kept0 (((Kept.refl [] _).drew).trans0 hk1)) HZ2.out).mono ?_; rintro e v2 ⟨a2, c2, rfl, hs2, hf2, hk2⟩; have hs1 := hs1.kept0 hk2; have z12 := hk1.size; simp only [World.size_drew] at hf1 z12; have hkr := (((Kept.refl [] ww0).drew).trans0 hk1).trans0 hk2; have rg0 := hkr.cell (p := ⟨w.heap.size + 1 + 1, 0, none⟩) nR0.out (by simp); have rg1 := hkr.cell (p := ⟨w.heap.size + 1 + 1, 1, none⟩) nR1.out (by simp); have rg2 := hkr.cell (p := ⟨w.heap.size + 1 + 1, 2, none⟩) nR2.out (by simp); have rg3 := hkr.cell (p := ⟨w.heap.size + 1 + 1, 3, none⟩) nR3.out (by simp); have ru0 := hkr.free' (p := ⟨w.heap.size + 1 + 1, 0, none⟩) nR0.out fR0.out (by simp); have ru1 := hkr.free' (p := ⟨w.heap.size + 1 + 1, 1, none⟩) nR1.out fR1.out (by simp); have ru2 := hkr.free' (p := ⟨w.heap.size + 1 + 1, 2, none⟩) nR2.out fR2.out (by simp); have ru3 := hkr.free' (p := ⟨w.heap.size + 1 + 1, 3, none⟩) nR3.out fR3.out (by simp)))
  clear tA0 tA1 tA2 tA3 tB0 tB1 tB2 tB3
  have hk := hkr
  clear hkr
  have z1 := hk.size
  replace fR0 := kf hk nR0 fR0
  replace fR1 := kf hk nR1 fR1
  replace fR2 := kf hk nR2 fR2
  replace fR3 := kf hk nR3 fR3
  replace nA0 := kc hk nA0
  replace nA1 := kc hk nA1
  replace nA2 := kc hk nA2
  replace nA3 := kc hk nA3
  replace nB0 := kc hk nB0
  replace nB1 := kc hk nB1
  replace nB2 := kc hk nB2
  replace nB3 := kc hk nB3
  replace nR0 := kc hk nR0
  replace nR1 := kc hk nR1
  replace nR2 := kc hk nR2
  replace nR3 := kc hk nR3
  replace H1 := Lib.hid (H1.out.kept0 hk)
  replace H2 := Lib.hid (H2.out.kept0 hk)
  replace H3 := Lib.hid (H3.out.kept0 hk)
  replace H4 := Lib.hid (H4.out.kept0 hk)
  replace KT := Lib.hid (KT.out.trans0 hk)
  clear hk
  have hs1 := Lib.hid hs1
  have hs2 := Lib.hid hs2
  have G1 := Lib.hid (hf1.mono (B' := w.heap.size + 1 + 1 + 1) (by omega))
  have G2 := Lib.hid (hf2.mono (B' := w.heap.size + 1 + 1 + 1) (by omega))
  clear hf1 hf2
  obtain ⟨p9, hp9⟩ : ∃ r, r = isNeg t1 := ⟨_, rfl⟩
  obtain ⟨q9, hq9⟩ : ∃ r, r = isNeg t2 := ⟨_, rfl⟩
  rw [← hp9, ← hq9]
  generalize hW : ((((v2.setCell ⟨w.heap.size + 1 + 1, 0, none⟩ (.bool p9)).setCell ⟨w.heap.size + 1 + 1, 1, none⟩ (.slice a1 (mag t1).length c1)).setCell ⟨w.heap.size + 1 + 1, 2, none⟩ (.bool q9)).setCell ⟨w.heap.size + 1 + 1, 3, none⟩ (.slice a2 (mag t2).length c2)) = ww2
  have hk : Kept [w.heap.size + 1 + 1] v2 ww2 := by rw [← hW]; exact ((((Kept.refl _ _).setCell _ _ (by simp)).setCell _ _ (by simp)).setCell _ _ (by simp)).setCell _ _ (by simp)
  have hfz : ∀ x, ww2.frozen? x = v2.frozen? x := by rw [← hW]; intro x; simp only [World.frozen?_setCell]
  obtain ⟨e0, e1, e2, e3⟩ := st4 hW.symm nR0.out nR1.out nR2.out nR3.out
  have z2 := hk.size
  replace fR0 := kz hfz fR0
  replace fR1 := kz hfz fR1
  replace fR2 := kz hfz fR2
  replace fR3 := kz hfz fR3
  replace nA0 := kd hk nA0 (by simp <;> omega)
  replace nA1 := kd hk nA1 (by simp <;> omega)
  replace nA2 := kd hk nA2 (by simp <;> omega)
  replace nA3 := kd hk nA3 (by simp <;> omega)
  replace nB0 := kd hk nB0 (by simp <;> omega)
  replace nB1 := kd hk nB1 (by simp <;> omega)
  replace nB2 := kd hk nB2 (by simp <;> omega)
  replace nB3 := kd hk nB3 (by simp <;> omega)
  replace H1 := Lib.hid (H1.out.kept hk (fun hn y hy hm => by have h9 := F1.out hn y hy; simp at hm; omega))
  replace H2 := Lib.hid (H2.out.kept hk (fun hn y hy hm => by have h9 := F2.out hn y hy; simp at hm; omega))
  replace H3 := Lib.hid (H3.out.kept hk (fun hn y hy hm => by have h9 := F3.out hn y hy; simp at hm; omega))
  replace H4 := Lib.hid (H4.out.kept hk (fun hn y hy hm => by have h9 := F4.out hn y hy; simp at hm; omega))
  replace hs1 := Lib.hid (hs1.out.kept hk (fun hn y hy hm => by have h9 := G1.out hn y hy; simp at hm; omega))
  replace hs2 := Lib.hid (hs2.out.kept hk (fun hn y hy hm => by have h9 := G2.out hn y hy; simp at hm; omega))
  replace nR0 := Lib.hid e0
  replace nR1 := Lib.hid e1
  replace nR2 := Lib.hid e2
  replace nR3 := Lib.hid e3
  replace KT := Lib.hid (KT.out.trans hk (fun x hx hlt => by simp at hx; omega))
  clear hk hfz hW e0 e1 e2 e3
  have HP := Lib.hid hp9
  have HQ := Lib.hid hq9
  clear hp9 hq9
  go_wp2_with fail
  have e0 := nR0.out
  have e1 := nR1.out
  have e2 := nR2.out
  have e3 := nR3.out
  refine bodyPost_ret (v := .agg #[.bool p9, .slice a1 (mag t1).length c1, .bool q9, .slice a2 (mag t2).length c2]) (by simp [results, Try.results20, go_sem, e0, e1, e2, e3]) rfl ?_
  exact spanV_fin HP.out HQ.out hs1.out hs2.out (G1.out.mono (by omega)) (G2.out.mono (by omega)) KT.out

end Go.Proofs.Ytlhiahhpmjiioaa
