/-
  Contracts of the model's l3Whole, l3Neg, l3Add and l3Sub. Conditions: the limbs read as lists of numbers that are in order.
-/
import Derived.Deep.RegionHeld3
import Derived.Deep.DrawnRows
import Derived.Deep.DeepCutAuto
import Derived.Test.YtofpommikmdlfaaSpanF
import Derived.Test.YtofpommikmdlfaaBigE
namespace Go.Proofs.Ytofpommikmdlfaa
open Go.RowKit

/-- A call of the model that answers a span's result: a code, and two ends in new memory. -/
def SpanM (w : World) (r : SV) (e : Ending) (w' : World) : Prop :=
  ∃ a c b d, e = .returned (.agg #[.int .i64 r.code, .bool (isNeg r.lo), .slice a (mag r.lo).length c, .bool (isNeg r.hi), .slice b (mag r.hi).length d]) ∧ Sl w' a (mag r.lo).length c (mag r.lo) ∧ Sl w' b (mag r.hi).length d (mag r.hi) ∧
    Fr w.heap.size a (mag r.lo).length ∧ Fr w.heap.size b (mag r.hi).length ∧ Kept [] w w'
/-- A call that answers a span's result whose ends are those that were given, where they are not empty. -/
def SpanF (w : World) (a0 b0 : Option Addr) (r : SV) (e : Ending) (w' : World) : Prop :=
  ∃ a c b d, e = .returned (.agg #[.int .i64 r.code, .bool (isNeg r.lo), .slice a (mag r.lo).length c, .bool (isNeg r.hi), .slice b (mag r.hi).length d]) ∧ Sl w' a (mag r.lo).length c (mag r.lo) ∧ Sl w' b (mag r.hi).length d (mag r.hi) ∧
    (0 < (mag r.lo).length → a = a0) ∧ (0 < (mag r.hi).length → b = b0) ∧ Kept [] w w'
/-- A call of the model that answers a span, its ends in new memory. -/
def SpanV (w : World) (lo hi : Int) (e : Ending) (w' : World) : Prop :=
  ∃ a c b d, e = .returned (.agg #[.bool (isNeg lo), .slice a (mag lo).length c, .bool (isNeg hi), .slice b (mag hi).length d]) ∧ Sl w' a (mag lo).length c (mag lo) ∧ Sl w' b (mag hi).length d (mag hi) ∧
    Fr w.heap.size a (mag lo).length ∧ Fr w.heap.size b (mag hi).length ∧ Kept [] w w'
theorem spanF_no {w w' : World} {a0 b0 : Option Addr} {f : Int} (hk : Kept [] w w') : SpanF w a0 b0 (noSpan f) (.returned (.agg #[.int .i64 f, .bool false, .slice none 0 0, .bool false, .slice none 0 0])) w' := by
  obtain ⟨h1, h2, h3, h4, h5⟩ := noSpan_ends f
  refine ⟨none, 0, none, 0, ?_, ?_, ?_, fun h => by rw [h3] at h; simp at h, fun h => by rw [h5] at h; simp at h, hk⟩
  · rw [h1, h2, h3, h4, h5]; rfl
  · rw [h3]; exact Sl.nil _
  · rw [h5]; exact Sl.nil _
theorem spanM_no {w w' : World} {f : Int} (hk : Kept [] w w') : SpanM w (noSpan f) (.returned (.agg #[.int .i64 f, .bool false, .slice none 0 0, .bool false, .slice none 0 0])) w' := by
  obtain ⟨h1, h2, h3, h4, h5⟩ := noSpan_ends f
  refine ⟨none, 0, none, 0, ?_, ?_, ?_, fun h => by rw [h3] at h; simp at h, fun h => by rw [h5] at h; simp at h, hk⟩
  · rw [h1, h2, h3, h4, h5]; rfl
  · rw [h3]; exact Sl.nil _
  · rw [h5]; exact Sl.nil _
theorem spanF_fin {w w' : World} {lo hi : Int} {a b : Option Addr} {n c m d : Nat} {p q : Bool} (hp : p = isNeg lo) (hq : q = isNeg hi) (hn : (mag lo).length = n) (hm : (mag hi).length = m) (hS : Sl w' a n c (mag lo)) (hS' : Sl w' b m d (mag hi)) (hk : Kept [] w w') :
    SpanF w a b ⟨0, lo, hi⟩ (.returned (.agg #[.int .i64 0, .bool p, .slice a n c, .bool q, .slice b m d])) w' := by
  subst hp hq hn hm; exact ⟨a, c, b, d, rfl, hS, hS', fun _ => rfl, fun _ => rfl, hk⟩
theorem spanV_fin {w w' : World} {lo hi : Int} {a b : Option Addr} {c d : Nat} {p q : Bool} (hp : p = isNeg lo) (hq : q = isNeg hi) (hS : Sl w' a (mag lo).length c (mag lo)) (hS' : Sl w' b (mag hi).length d (mag hi))
    (hF : Fr w.heap.size a (mag lo).length) (hF' : Fr w.heap.size b (mag hi).length) (hk : Kept [] w w') : SpanV w lo hi (.returned (.agg #[.bool p, .slice a (mag lo).length c, .bool q, .slice b (mag hi).length d])) w' := by
  subst hp hq; exact ⟨a, c, b, d, rfl, hS, hS', hF, hF', hk⟩
theorem fr_of_fitS {B : Nat} {lo hi : Int} {a b : Option Addr} (h : Fr B a (mag lo).length) (hb : 0 < (mag (fitS lo hi).lo).length → b = a) : Fr B b (mag (fitS lo hi).lo).length := fun hn x hx => by
  have e := hb hn
  subst e
  unfold fitS at hn
  by_cases h1 : 20 < (mag lo).length ∨ 20 < (mag hi).length
  · rw [if_pos h1, (noSpan_ends 7).2.2.1] at hn; simp at hn
  · rw [if_neg h1] at hn; exact h hn x hx
theorem fr_of_fitS' {B : Nat} {lo hi : Int} {a b : Option Addr} (h : Fr B a (mag hi).length) (hb : 0 < (mag (fitS lo hi).hi).length → b = a) : Fr B b (mag (fitS lo hi).hi).length := fun hn x hx => by
  have e := hb hn
  subst e
  unfold fitS at hn
  by_cases h1 : 20 < (mag lo).length ∨ 20 < (mag hi).length
  · rw [if_pos h1, (noSpan_ends 7).2.2.2.2] at hn; simp at hn
  · rw [if_neg h1] at hn; exact h hn x hx

theorem l2Add_z (p q : Bool) (a b : Option Addr) (n c m d : Nat) (xs ys : List Int) (z : Int) (w : World) (hx : Nat40 xs) (hy : Nat40 ys) (h : Sl w a n c xs) (h' : Sl w b m d ys) (hz : z = sv p xs + sv q ys) :
    Calls Try.prog 76 #[.agg #[.bool p, .slice a n c], .agg #[.bool q, .slice b m d]] w (BigV w.heap.size w z) := by
  subst hz; exact l2Add_any _ _ _ _ _ _ _ _ _ _ _ hx hy h h'

set_option maxHeartbeats 8000000 in
set_option maxRecDepth 20000 in
theorem l3Whole_any (a b : Option Addr) (n c m d : Nat) (lo hi : Int) (w : World) (h : Sl w a n c (mag lo)) (h' : Sl w b m d (mag hi)) :
    Calls Try.prog 19 #[.agg #[.bool (isNeg lo), .slice a n c, .bool (isNeg hi), .slice b m d]] w (SpanF w a b (fitS lo hi)) := by
  have hL : (mag lo).length = n := h.1
  have hM : (mag hi).length = m := h'.1
  have HS := Lib.hid h
  have HS' := Lib.hid h'
  have FS := Lib.hid h.lt
  have FS' := Lib.hid h'.lt
  clear h h'
  obtain ⟨p, hp⟩ : ∃ p, p = isNeg lo := ⟨_, rfl⟩
  obtain ⟨q, hq⟩ : ∃ q, q = isNeg hi := ⟨_, rfl⟩
  rw [← hp, ← hq]
  have HP := Lib.hid hp
  have HQ := Lib.hid hq
  clear hp hq
  by_cases h20 : 20 < n
  · skip
    rw [fitS_many (Or.inl (by omega))]
    clear hL hM
    have q2 : decide ((20 : Int) < (n : Int)) = true := decide_eq_true (by omega)
    go_enter Try.func19, Try.ntmps19
    go_upto_region 1 with fail
    generalize hW : ((w.alloc (.cells #[.bool p, .slice a n c, .bool q, .slice b m d] 30)).alloc (.cells #[.int .i64 0, .bool false, .slice none 0 0, .bool false, .slice none 0 0] 32)) = ww0
    have hkk : Kept [] ((w.alloc (.cells #[.bool p, .slice a n c, .bool q, .slice b m d] 30)).alloc (.cells #[.int .i64 0, .bool false, .slice none 0 0, .bool false, .slice none 0 0] 32)) ww0 := by rw [hW]; exact Kept.refl _ _
    have zzA : w.heap.size + 1 + 1 = ww0.heap.size := by rw [← hW]; simp
    obtain ⟨⟨nA0, nA1, nA2, nA3⟩, _⟩ := tp4 hkk.peel (g := w.heap.size) (by simp) (by simp)
    obtain ⟨⟨nR0, nR1, nR2, nR3, nR4⟩, fR0, fR1, fR2, fR3, fR4⟩ := tp5 hkk (g := w.heap.size + 1) (by simp) (by simp)
    have hk := hkk.peel.peel
    clear hkk hW
    have z0 := hk.size
    have KT := Lib.hid hk
    clear hk
    replace HS := Lib.hid (HS.out.kept0 KT.out)
    replace HS' := Lib.hid (HS'.out.kept0 KT.out)
    have tA0 := nA0.out
    have tA1 := nA1.out
    have tA2 := nA2.out
    have tA3 := nA3.out
    have tR0 := nR0.out
    have tR1 := nR1.out
    have tR2 := nR2.out
    have tR3 := nR3.out
    have tR4 := nR4.out
    have uR0 := fR0.out
    have uR1 := fR1.out
    have uR2 := fR2.out
    have uR3 := fR3.out
    have uR4 := fR4.out
    go_wp2_with fail
    clear tA0 tA1 tA2 tA3 tR0 tR1 tR2 tR3 tR4 uR0 uR1 uR2 uR3 uR4
    generalize hW : (((((ww0.setCell ⟨w.heap.size + 1, 0, none⟩ (.int .i64 7)).setCell ⟨w.heap.size + 1, 1, none⟩ (.bool false)).setCell ⟨w.heap.size + 1, 2, none⟩ (.slice none 0 0)).setCell ⟨w.heap.size + 1, 3, none⟩ (.bool false)).setCell ⟨w.heap.size + 1, 4, none⟩ (.slice none 0 0)) = ww1
    have hk : Kept [w.heap.size + 1] ww0 ww1 := by rw [← hW]; exact (((((Kept.refl _ _).setCell _ _ (by simp)).setCell _ _ (by simp)).setCell _ _ (by simp)).setCell _ _ (by simp)).setCell _ _ (by simp)
    have hfz : ∀ x, ww1.frozen? x = ww0.frozen? x := by rw [← hW]; intro x; simp only [World.frozen?_setCell]
    obtain ⟨e0, e1, e2, e3, e4⟩ := st5 hW.symm nR0.out nR1.out nR2.out nR3.out nR4.out
    have z1 := hk.size
    replace fR0 := kz hfz fR0
    replace fR1 := kz hfz fR1
    replace fR2 := kz hfz fR2
    replace fR3 := kz hfz fR3
    replace fR4 := kz hfz fR4
    replace nA0 := kd hk nA0 (by simp <;> omega)
    replace nA1 := kd hk nA1 (by simp <;> omega)
    replace nA2 := kd hk nA2 (by simp <;> omega)
    replace nA3 := kd hk nA3 (by simp <;> omega)
    replace HS := Lib.hid (HS.out.kept hk (fun hn y hy hm => by have h9 := FS.out hn y hy; simp at hm; omega))
    replace HS' := Lib.hid (HS'.out.kept hk (fun hn y hy hm => by have h9 := FS'.out hn y hy; simp at hm; omega))
    replace nR0 := Lib.hid e0
    replace nR1 := Lib.hid e1
    replace nR2 := Lib.hid e2
    replace nR3 := Lib.hid e3
    replace nR4 := Lib.hid e4
    replace KT := Lib.hid (KT.out.trans hk (fun x hx hlt => by simp at hx; omega))
    clear hk hfz hW e0 e1 e2 e3 e4
    have e0 := nR0.out
    have e1 := nR1.out
    have e2 := nR2.out
    have e3 := nR3.out
    have e4 := nR4.out
    refine bodyPost_ret (v := .agg #[.int .i64 7, .bool false, .slice none 0 0, .bool false, .slice none 0 0]) (by simp [results, Try.results19, go_sem, e0, e1, e2, e3, e4]) rfl ?_
    exact spanF_no KT.out
  have g20 := h20
  clear h20
  by_cases h20 : 20 < m
  · skip
    rw [fitS_many (Or.inr (by omega))]
    clear hL hM
    have q2 : decide ((20 : Int) < (m : Int)) = true := decide_eq_true (by omega)
    have q1 : decide ((20 : Int) < (n : Int)) = false := decide_eq_false (by omega)
    go_enter Try.func19, Try.ntmps19
    go_upto_region 1 with fail
    generalize hW : ((w.alloc (.cells #[.bool p, .slice a n c, .bool q, .slice b m d] 30)).alloc (.cells #[.int .i64 0, .bool false, .slice none 0 0, .bool false, .slice none 0 0] 32)) = ww0
    have hkk : Kept [] ((w.alloc (.cells #[.bool p, .slice a n c, .bool q, .slice b m d] 30)).alloc (.cells #[.int .i64 0, .bool false, .slice none 0 0, .bool false, .slice none 0 0] 32)) ww0 := by rw [hW]; exact Kept.refl _ _
    have zzA : w.heap.size + 1 + 1 = ww0.heap.size := by rw [← hW]; simp
    obtain ⟨⟨nA0, nA1, nA2, nA3⟩, _⟩ := tp4 hkk.peel (g := w.heap.size) (by simp) (by simp)
    obtain ⟨⟨nR0, nR1, nR2, nR3, nR4⟩, fR0, fR1, fR2, fR3, fR4⟩ := tp5 hkk (g := w.heap.size + 1) (by simp) (by simp)
    have hk := hkk.peel.peel
    clear hkk hW
    have z0 := hk.size
    have KT := Lib.hid hk
    clear hk
    replace HS := Lib.hid (HS.out.kept0 KT.out)
    replace HS' := Lib.hid (HS'.out.kept0 KT.out)
    have tA0 := nA0.out
    have tA1 := nA1.out
    have tA2 := nA2.out
    have tA3 := nA3.out
    have tR0 := nR0.out
    have tR1 := nR1.out
    have tR2 := nR2.out
    have tR3 := nR3.out
    have tR4 := nR4.out
    have uR0 := fR0.out
    have uR1 := fR1.out
    have uR2 := fR2.out
    have uR3 := fR3.out
    have uR4 := fR4.out
    go_wp2_with fail
    clear tA0 tA1 tA2 tA3 tR0 tR1 tR2 tR3 tR4 uR0 uR1 uR2 uR3 uR4
    generalize hW : (((((ww0.setCell ⟨w.heap.size + 1, 0, none⟩ (.int .i64 7)).setCell ⟨w.heap.size + 1, 1, none⟩ (.bool false)).setCell ⟨w.heap.size + 1, 2, none⟩ (.slice none 0 0)).setCell ⟨w.heap.size + 1, 3, none⟩ (.bool false)).setCell ⟨w.heap.size + 1, 4, none⟩ (.slice none 0 0)) = ww1
    have hk : Kept [w.heap.size + 1] ww0 ww1 := by rw [← hW]; exact (((((Kept.refl _ _).setCell _ _ (by simp)).setCell _ _ (by simp)).setCell _ _ (by simp)).setCell _ _ (by simp)).setCell _ _ (by simp)
    have hfz : ∀ x, ww1.frozen? x = ww0.frozen? x := by rw [← hW]; intro x; simp only [World.frozen?_setCell]
    obtain ⟨e0, e1, e2, e3, e4⟩ := st5 hW.symm nR0.out nR1.out nR2.out nR3.out nR4.out
    have z1 := hk.size
    replace fR0 := kz hfz fR0
    replace fR1 := kz hfz fR1
    replace fR2 := kz hfz fR2
    replace fR3 := kz hfz fR3
    replace fR4 := kz hfz fR4
    replace nA0 := kd hk nA0 (by simp <;> omega)
    replace nA1 := kd hk nA1 (by simp <;> omega)
    replace nA2 := kd hk nA2 (by simp <;> omega)
    replace nA3 := kd hk nA3 (by simp <;> omega)
    replace HS := Lib.hid (HS.out.kept hk (fun hn y hy hm => by have h9 := FS.out hn y hy; simp at hm; omega))
    replace HS' := Lib.hid (HS'.out.kept hk (fun hn y hy hm => by have h9 := FS'.out hn y hy; simp at hm; omega))
    replace nR0 := Lib.hid e0
    replace nR1 := Lib.hid e1
    replace nR2 := Lib.hid e2
    replace nR3 := Lib.hid e3
    replace nR4 := Lib.hid e4
    replace KT := Lib.hid (KT.out.trans hk (fun x hx hlt => by simp at hx; omega))
    clear hk hfz hW e0 e1 e2 e3 e4
    have e0 := nR0.out
    have e1 := nR1.out
    have e2 := nR2.out
    have e3 := nR3.out
    have e4 := nR4.out
    refine bodyPost_ret (v := .agg #[.int .i64 7, .bool false, .slice none 0 0, .bool false, .slice none 0 0]) (by simp [results, Try.results19, go_sem, e0, e1, e2, e3, e4]) rfl ?_
    exact spanF_no KT.out
  rw [fitS_ok (by omega) (by omega)]
  have HL := Lib.hid hL
  have HM := Lib.hid hM
  clear hL hM
  have q1 : decide ((20 : Int) < (n : Int)) = false := decide_eq_false (by omega)
  have q2 : decide ((20 : Int) < (m : Int)) = false := decide_eq_false (by omega)
  go_enter Try.func19, Try.ntmps19
  go_upto_region 1 with fail
  generalize hW : ((w.alloc (.cells #[.bool p, .slice a n c, .bool q, .slice b m d] 30)).alloc (.cells #[.int .i64 0, .bool false, .slice none 0 0, .bool false, .slice none 0 0] 32)) = ww0
  have hkk : Kept [] ((w.alloc (.cells #[.bool p, .slice a n c, .bool q, .slice b m d] 30)).alloc (.cells #[.int .i64 0, .bool false, .slice none 0 0, .bool false, .slice none 0 0] 32)) ww0 := by rw [hW]; exact Kept.refl _ _
  have zzA : w.heap.size + 1 + 1 = ww0.heap.size := by rw [← hW]; simp
  obtain ⟨⟨nA0, nA1, nA2, nA3⟩, _⟩ := tp4 hkk.peel (g := w.heap.size) (by simp) (by simp)
  obtain ⟨⟨nR0, nR1, nR2, nR3, nR4⟩, fR0, fR1, fR2, fR3, fR4⟩ := tp5 hkk (g := w.heap.size + 1) (by simp) (by simp)
  have hk := hkk.peel.peel
  clear hkk hW
  have z0 := hk.size
  have KT := Lib.hid hk
  clear hk
  replace HS := Lib.hid (HS.out.kept0 KT.out)
  replace HS' := Lib.hid (HS'.out.kept0 KT.out)
  have tA0 := nA0.out
  have tA1 := nA1.out
  have tA2 := nA2.out
  have tA3 := nA3.out
  have tR0 := nR0.out
  have tR1 := nR1.out
  have tR2 := nR2.out
  have tR3 := nR3.out
  have tR4 := nR4.out
  have uR0 := fR0.out
  have uR1 := fR1.out
  have uR2 := fR2.out
  have uR3 := fR3.out
  have uR4 := fR4.out
  go_wp2_with fail
  clear tA0 tA1 tA2 tA3 tR0 tR1 tR2 tR3 tR4 uR0 uR1 uR2 uR3 uR4
  generalize hW : (((((ww0.setCell ⟨w.heap.size + 1, 0, none⟩ (.int .i64 0)).setCell ⟨w.heap.size + 1, 1, none⟩ (.bool p)).setCell ⟨w.heap.size + 1, 2, none⟩ (.slice a n c)).setCell ⟨w.heap.size + 1, 3, none⟩ (.bool q)).setCell ⟨w.heap.size + 1, 4, none⟩ (.slice b m d)) = ww1
  have hk : Kept [w.heap.size + 1] ww0 ww1 := by rw [← hW]; exact (((((Kept.refl _ _).setCell _ _ (by simp)).setCell _ _ (by simp)).setCell _ _ (by simp)).setCell _ _ (by simp)).setCell _ _ (by simp)
  have hfz : ∀ x, ww1.frozen? x = ww0.frozen? x := by rw [← hW]; intro x; simp only [World.frozen?_setCell]
  obtain ⟨e0, e1, e2, e3, e4⟩ := st5 hW.symm nR0.out nR1.out nR2.out nR3.out nR4.out
  have z1 := hk.size
  replace fR0 := kz hfz fR0
  replace fR1 := kz hfz fR1
  replace fR2 := kz hfz fR2
  replace fR3 := kz hfz fR3
  replace fR4 := kz hfz fR4
  replace nA0 := kd hk nA0 (by simp <;> omega)
  replace nA1 := kd hk nA1 (by simp <;> omega)
  replace nA2 := kd hk nA2 (by simp <;> omega)
  replace nA3 := kd hk nA3 (by simp <;> omega)
  replace HS := Lib.hid (HS.out.kept hk (fun hn y hy hm => by have h9 := FS.out hn y hy; simp at hm; omega))
  replace HS' := Lib.hid (HS'.out.kept hk (fun hn y hy hm => by have h9 := FS'.out hn y hy; simp at hm; omega))
  replace nR0 := Lib.hid e0
  replace nR1 := Lib.hid e1
  replace nR2 := Lib.hid e2
  replace nR3 := Lib.hid e3
  replace nR4 := Lib.hid e4
  replace KT := Lib.hid (KT.out.trans hk (fun x hx hlt => by simp at hx; omega))
  clear hk hfz hW e0 e1 e2 e3 e4
  have e0 := nR0.out
  have e1 := nR1.out
  have e2 := nR2.out
  have e3 := nR3.out
  have e4 := nR4.out
  refine bodyPost_ret (v := .agg #[.int .i64 0, .bool p, .slice a n c, .bool q, .slice b m d]) (by simp [results, Try.results19, go_sem, e0, e1, e2, e3, e4]) rfl ?_
  exact spanF_fin HP.out HQ.out HL.out HM.out HS.out HS'.out KT.out

end Go.Proofs.Ytofpommikmdlfaa
