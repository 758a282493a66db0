/-
  Several of my texts in one, each as it was: SpanL, SpanE, SpanX. No condition but theirs.
-/
import Derived.Test.YtgplghjameiciaaSpanA
import Derived.Deep.RegionHeld3
import Derived.Deep.DrawnRows
import Derived.Deep.DeepCutAuto
import Derived.Test.YtgplghjameiciaaSpanD
import Derived.Test.YtgplghjameiciaaJ2
import Derived.Test.YtgplghjameiciaaJ1
namespace Go.Proofs.Ytgplghjameiciaa
open Go.RowKit

end Go.Proofs.Ytgplghjameiciaa

namespace Go.Proofs.Ytgplghjameiciaa
open Go.RowKit

/-- A call that answers a big whose limbs are copied into a row of 20 of their own. -/
def CopyR (w : World) (p : Bool) (n : Nat) (xs : List Int) (e : Ending) (w' : World) : Prop :=
  ∃ g, e = .returned (.agg #[.bool p, .slice (some ⟨g, 0, none⟩) n 20]) ∧ Sl w' (some ⟨g, 0, none⟩) n 20 xs ∧ w.heap.size ≤ g ∧ g < w'.heap.size ∧ Kept [] w w'
/-- A call that answers a span's result: a code, and two ends in new memory of their own. -/
def SpanR (w : World) (r : SV) (e : Ending) (w' : World) : Prop :=
  ∃ a c b d, e = .returned (.agg #[.int .i64 r.code, .bool (isNeg r.lo), .slice a (mag r.lo).length c, .bool (isNeg r.hi), .slice b (mag r.hi).length d]) ∧ Sl w' a (mag r.lo).length c (mag r.lo) ∧ Sl w' b (mag r.hi).length d (mag r.hi) ∧
    Fr w.heap.size a (mag r.lo).length ∧ Fr w.heap.size b (mag r.hi).length ∧ (∀ x y, 0 < (mag r.lo).length → 0 < (mag r.hi).length → a = some x → b = some y → x.block ≠ y.block) ∧ Kept [] w w'
theorem noSpan_ends (f : Int) : (noSpan f).code = f ∧ isNeg (noSpan f).lo = false ∧ mag (noSpan f).lo = [] ∧ isNeg (noSpan f).hi = false ∧ mag (noSpan f).hi = [] := by
  unfold noSpan; exact ⟨rfl, isNeg_no (Int.le_refl 0), mag_zero, isNeg_no (Int.le_refl 0), mag_zero⟩
theorem spanR_no {w w' : World} {f : Int} (hk : Kept [] w w') : SpanR w (noSpan f) (.returned (.agg #[.int .i64 f, .bool false, .slice none 0 0, .bool false, .slice none 0 0])) w' := by
  obtain ⟨h1, h2, h3, h4, h5⟩ := noSpan_ends f
  refine ⟨none, 0, none, 0, ?_, ?_, ?_, fun h => by rw [h3] at h; simp at h, fun h => by rw [h5] at h; simp at h, fun _ _ h => by rw [h3] at h; simp at h, hk⟩
  · rw [h1, h2, h3, h4, h5]; rfl
  · rw [h3]; exact Sl.nil _
  · rw [h5]; exact Sl.nil _
theorem spanR_fin {w w' : World} {lo hi : Int} {a b : Option Addr} {n c m d : Nat} {p q : Bool} (hp : p = isNeg lo) (hq : q = isNeg hi) (hn : (mag lo).length = n) (hm : (mag hi).length = m) (hS : Sl w' a n c (mag lo)) (hS' : Sl w' b m d (mag hi))
    (hF : Fr w.heap.size a n) (hF' : Fr w.heap.size b m) (hne : ∀ x y, 0 < n → 0 < m → a = some x → b = some y → x.block ≠ y.block) (hk : Kept [] w w') : SpanR w ⟨0, lo, hi⟩ (.returned (.agg #[.int .i64 0, .bool p, .slice a n c, .bool q, .slice b m d])) w' := by
  subst hp hq hn hm; exact ⟨a, c, b, d, rfl, hS, hS', hF, hF', hne, hk⟩
theorem Kept.set5 {W w2 : World} {g : Nat} {v1 v2 v3 v4 v5 : Value} (h : Hid (Kept [g] W w2)) : Hid (Kept [g] W (((((w2.setCell ⟨g, 0, none⟩ v1).setCell ⟨g, 1, none⟩ v2).setCell ⟨g, 2, none⟩ v3).setCell ⟨g, 3, none⟩ v4).setCell ⟨g, 4, none⟩ v5)) :=
  Lib.hid (((((h.out.setCell _ _ (by simp)).setCell _ _ (by simp)).setCell _ _ (by simp)).setCell _ _ (by simp)).setCell _ _ (by simp))
theorem cell_set5 {w2 : World} {g : Nat} {p : Addr} {v v1 v2 v3 v4 v5 : Value} (h : w2.cell? p = some v) (hg : p.block ≠ g) : (((((w2.setCell ⟨g, 0, none⟩ v1).setCell ⟨g, 1, none⟩ v2).setCell ⟨g, 2, none⟩ v3).setCell ⟨g, 3, none⟩ v4).setCell ⟨g, 4, none⟩ v5).cell? p = some v :=
  (Kept.set5 (Lib.hid (Kept.refl [g] w2))).out.cell h (by simpa using hg)
theorem Kept.set4 {W w2 : World} {g : Nat} {v1 v2 v3 v4 : Value} (h : Hid (Kept [g] W w2)) : Hid (Kept [g] W ((((w2.setCell ⟨g, 0, none⟩ v1).setCell ⟨g, 1, none⟩ v2).setCell ⟨g, 2, none⟩ v3).setCell ⟨g, 3, none⟩ v4)) :=
  Lib.hid ((((h.out.setCell _ _ (by simp)).setCell _ _ (by simp)).setCell _ _ (by simp)).setCell _ _ (by simp))
theorem cell_set4 {w2 : World} {g : Nat} {p : Addr} {v v1 v2 v3 v4 : Value} (h : w2.cell? p = some v) (hg : p.block ≠ g) : ((((w2.setCell ⟨g, 0, none⟩ v1).setCell ⟨g, 1, none⟩ v2).setCell ⟨g, 2, none⟩ v3).setCell ⟨g, 3, none⟩ v4).cell? p = some v :=
  (Kept.set4 (Lib.hid (Kept.refl [g] w2))).out.cell h (by simpa using hg)

end Go.Proofs.Ytgplghjameiciaa

namespace Go.Proofs.Ytgplghjameiciaa
open Go.RowKit
/-- A new box with a span's result, its ends in new memory; BoxSm: of the model, whose ends need not lie apart. -/
def BoxSm (w0 : World) (r : SV) (s : Value) (w : World) : Prop :=
  ∃ g a c b d, s = .pointer (some ⟨g, 0, none⟩) ∧ w.cell? ⟨g, 0, none⟩ = some (.int .i64 r.code) ∧ w.cell? ⟨g, 1, none⟩ = some (.bool (isNeg r.lo)) ∧ w.cell? ⟨g, 2, none⟩ = some (.slice a (mag r.lo).length c) ∧
    w.cell? ⟨g, 3, none⟩ = some (.bool (isNeg r.hi)) ∧ w.cell? ⟨g, 4, none⟩ = some (.slice b (mag r.hi).length d) ∧ w0.heap.size ≤ g ∧ g < w.heap.size ∧ Sl w a (mag r.lo).length c (mag r.lo) ∧ Sl w b (mag r.hi).length d (mag r.hi) ∧
    Fr w0.heap.size a (mag r.lo).length ∧ Fr w0.heap.size b (mag r.hi).length ∧ Kept [] w0 w
def BoxS (w0 : World) (r : SV) (s : Value) (w : World) : Prop :=
  ∃ g a c b d, s = .pointer (some ⟨g, 0, none⟩) ∧ w.cell? ⟨g, 0, none⟩ = some (.int .i64 r.code) ∧ w.cell? ⟨g, 1, none⟩ = some (.bool (isNeg r.lo)) ∧ w.cell? ⟨g, 2, none⟩ = some (.slice a (mag r.lo).length c) ∧
    w.cell? ⟨g, 3, none⟩ = some (.bool (isNeg r.hi)) ∧ w.cell? ⟨g, 4, none⟩ = some (.slice b (mag r.hi).length d) ∧ w0.heap.size ≤ g ∧ g < w.heap.size ∧ Sl w a (mag r.lo).length c (mag r.lo) ∧ Sl w b (mag r.hi).length d (mag r.hi) ∧
    Fr w0.heap.size a (mag r.lo).length ∧ Fr w0.heap.size b (mag r.hi).length ∧ (∀ x y, 0 < (mag r.lo).length → 0 < (mag r.hi).length → a = some x → b = some y → x.block ≠ y.block) ∧ Kept [] w0 w
theorem Kept.set5n {W w2 : World} {g : Nat} {v1 v2 v3 v4 v5 : Value} (h : Hid (Kept [] W w2)) (hg : W.heap.size ≤ g) : Hid (Kept [] W (((((w2.setCell ⟨g, 0, none⟩ v1).setCell ⟨g, 1, none⟩ v2).setCell ⟨g, 2, none⟩ v3).setCell ⟨g, 3, none⟩ v4).setCell ⟨g, 4, none⟩ v5)) :=
  Lib.hid (((((h.out.setCell _ _ (by simp; omega)).setCell _ _ (by simp; omega)).setCell _ _ (by simp; omega)).setCell _ _ (by simp; omega)).setCell _ _ (by simp; omega))
theorem cells5at {w : World} {g : Nat} {x0 x1 x2 x3 x4 : Value} (v0 v1 v2 v3 v4 : Value) (h0 : w.cell? ⟨g, 0, none⟩ = some x0) (h1 : w.cell? ⟨g, 1, none⟩ = some x1) (h2 : w.cell? ⟨g, 2, none⟩ = some x2) (h3 : w.cell? ⟨g, 3, none⟩ = some x3) (h4 : w.cell? ⟨g, 4, none⟩ = some x4) :
    let W := ((((w.setCell ⟨g, 0, none⟩ v0).setCell ⟨g, 1, none⟩ v1).setCell ⟨g, 2, none⟩ v2).setCell ⟨g, 3, none⟩ v3).setCell ⟨g, 4, none⟩ v4
    W.cell? ⟨g, 0, none⟩ = some v0 ∧ W.cell? ⟨g, 1, none⟩ = some v1 ∧ W.cell? ⟨g, 2, none⟩ = some v2 ∧ W.cell? ⟨g, 3, none⟩ = some v3 ∧ W.cell? ⟨g, 4, none⟩ = some v4 := by
  intro W
  obtain ⟨e0, e1, e2, e3⟩ := cells4at v0 v1 v2 v3 h0 h1 h2 h3
  have e4 : ((((w.setCell ⟨g, 0, none⟩ v0).setCell ⟨g, 1, none⟩ v1).setCell ⟨g, 2, none⟩ v2).setCell ⟨g, 3, none⟩ v3).cell? ⟨g, 4, none⟩ = some x4 := by
    rw [World.cell?_setCell_other _ _ _ _ (by simp), World.cell?_setCell_other _ _ _ _ (by simp), World.cell?_setCell_other _ _ _ _ (by simp), World.cell?_setCell_other _ _ _ _ (by simp)]; exact h4
  exact ⟨by rw [World.cell?_setCell_other _ _ _ _ (by simp)]; exact e0, by rw [World.cell?_setCell_other _ _ _ _ (by simp)]; exact e1, by rw [World.cell?_setCell_other _ _ _ _ (by simp)]; exact e2, by rw [World.cell?_setCell_other _ _ _ _ (by simp)]; exact e3, World.cell?_setCell_same _ _ _ e4⟩
theorem boxSm_last {W v : World} {B : Nat} {r : SV} {a b : Option Addr} {c d : Nat} {T : TypeId} (hB : W.heap.size ≤ B) (hS : Sl v a (mag r.lo).length c (mag r.lo)) (hS' : Sl v b (mag r.hi).length d (mag r.hi)) (hF : Fr B a (mag r.lo).length) (hF' : Fr B b (mag r.hi).length) (hk : Hid (Kept [] W v)) :
    BoxSm W r (.pointer (some ⟨v.heap.size, 0, none⟩)) (v.alloc (.cells #[.int .i64 r.code, .bool (isNeg r.lo), .slice a (mag r.lo).length c, .bool (isNeg r.hi), .slice b (mag r.hi).length d] T)) :=
  ⟨v.heap.size, a, c, b, d, rfl, by rw [World.cell?_alloc_new]; rfl, by rw [World.cell?_alloc_new]; rfl, by rw [World.cell?_alloc_new]; rfl, by rw [World.cell?_alloc_new]; rfl, by rw [World.cell?_alloc_new]; rfl, hk.out.size, by simp, hS.kept0 ((Kept.refl [] v).alloc _), hS'.kept0 ((Kept.refl [] v).alloc _), hF.mono hB, hF'.mono hB, hk.out.alloc _⟩
theorem boxSm_set {W v : World} {B g : Nat} {r : SV} {a b : Option Addr} {c d : Nat} {x0 x1 x2 x3 x4 : Value} (hg : W.heap.size ≤ g) (hB : g < B) (hS : Sl v a (mag r.lo).length c (mag r.lo)) (hS' : Sl v b (mag r.hi).length d (mag r.hi)) (hF : Fr B a (mag r.lo).length) (hF' : Fr B b (mag r.hi).length)
    (h0 : v.cell? ⟨g, 0, none⟩ = some x0) (h1 : v.cell? ⟨g, 1, none⟩ = some x1) (h2 : v.cell? ⟨g, 2, none⟩ = some x2) (h3 : v.cell? ⟨g, 3, none⟩ = some x3) (h4 : v.cell? ⟨g, 4, none⟩ = some x4) (hk : Hid (Kept [] W v)) :
    BoxSm W r (.pointer (some ⟨g, 0, none⟩)) (((((v.setCell ⟨g, 0, none⟩ (.int .i64 r.code)).setCell ⟨g, 1, none⟩ (.bool (isNeg r.lo))).setCell ⟨g, 2, none⟩ (.slice a (mag r.lo).length c)).setCell ⟨g, 3, none⟩ (.bool (isNeg r.hi))).setCell ⟨g, 4, none⟩ (.slice b (mag r.hi).length d)) := by
  obtain ⟨e0, e1, e2, e3, e4⟩ := cells5at (.int .i64 r.code) (.bool (isNeg r.lo)) (.slice a (mag r.lo).length c) (.bool (isNeg r.hi)) (.slice b (mag r.hi).length d) h0 h1 h2 h3 h4
  have hlt := World.block_lt_of_cell? v _ h0
  have hq := (Kept.set5 (v1 := .int .i64 r.code) (v2 := .bool (isNeg r.lo)) (v3 := .slice a (mag r.lo).length c) (v4 := .bool (isNeg r.hi)) (v5 := .slice b (mag r.hi).length d) (Lib.hid (Kept.refl [g] v))).out
  exact ⟨g, a, c, b, d, rfl, e0, e1, e2, e3, e4, hg, Nat.lt_of_lt_of_le hlt hq.size, hS.kept hq (fun hn x hx => by have := hF hn x hx; simp; omega), hS'.kept hq (fun hn x hx => by have := hF' hn x hx; simp; omega), hF.mono (by omega), hF'.mono (by omega), (Kept.set5n hk hg).out⟩
theorem boxS_last {W v : World} {B : Nat} {r : SV} {a b : Option Addr} {c d : Nat} {T : TypeId} (hB : W.heap.size ≤ B) (hS : Sl v a (mag r.lo).length c (mag r.lo)) (hS' : Sl v b (mag r.hi).length d (mag r.hi)) (hF : Fr B a (mag r.lo).length) (hF' : Fr B b (mag r.hi).length) (hne : ∀ x y, 0 < (mag r.lo).length → 0 < (mag r.hi).length → a = some x → b = some y → x.block ≠ y.block) (hk : Hid (Kept [] W v)) :
    BoxS W r (.pointer (some ⟨v.heap.size, 0, none⟩)) (v.alloc (.cells #[.int .i64 r.code, .bool (isNeg r.lo), .slice a (mag r.lo).length c, .bool (isNeg r.hi), .slice b (mag r.hi).length d] T)) :=
  ⟨v.heap.size, a, c, b, d, rfl, by rw [World.cell?_alloc_new]; rfl, by rw [World.cell?_alloc_new]; rfl, by rw [World.cell?_alloc_new]; rfl, by rw [World.cell?_alloc_new]; rfl, by rw [World.cell?_alloc_new]; rfl, hk.out.size, by simp, hS.kept0 ((Kept.refl [] v).alloc _), hS'.kept0 ((Kept.refl [] v).alloc _), hF.mono hB, hF'.mono hB, hne, hk.out.alloc _⟩
theorem boxS_set {W v : World} {B g : Nat} {r : SV} {a b : Option Addr} {c d : Nat} {x0 x1 x2 x3 x4 : Value} (hg : W.heap.size ≤ g) (hB : g < B) (hS : Sl v a (mag r.lo).length c (mag r.lo)) (hS' : Sl v b (mag r.hi).length d (mag r.hi)) (hF : Fr B a (mag r.lo).length) (hF' : Fr B b (mag r.hi).length) (hne : ∀ x y, 0 < (mag r.lo).length → 0 < (mag r.hi).length → a = some x → b = some y → x.block ≠ y.block)
    (h0 : v.cell? ⟨g, 0, none⟩ = some x0) (h1 : v.cell? ⟨g, 1, none⟩ = some x1) (h2 : v.cell? ⟨g, 2, none⟩ = some x2) (h3 : v.cell? ⟨g, 3, none⟩ = some x3) (h4 : v.cell? ⟨g, 4, none⟩ = some x4) (hk : Hid (Kept [] W v)) :
    BoxS W r (.pointer (some ⟨g, 0, none⟩)) (((((v.setCell ⟨g, 0, none⟩ (.int .i64 r.code)).setCell ⟨g, 1, none⟩ (.bool (isNeg r.lo))).setCell ⟨g, 2, none⟩ (.slice a (mag r.lo).length c)).setCell ⟨g, 3, none⟩ (.bool (isNeg r.hi))).setCell ⟨g, 4, none⟩ (.slice b (mag r.hi).length d)) := by
  obtain ⟨e0, e1, e2, e3, e4⟩ := cells5at (.int .i64 r.code) (.bool (isNeg r.lo)) (.slice a (mag r.lo).length c) (.bool (isNeg r.hi)) (.slice b (mag r.hi).length d) h0 h1 h2 h3 h4
  have hlt := World.block_lt_of_cell? v _ h0
  have hq := (Kept.set5 (v1 := .int .i64 r.code) (v2 := .bool (isNeg r.lo)) (v3 := .slice a (mag r.lo).length c) (v4 := .bool (isNeg r.hi)) (v5 := .slice b (mag r.hi).length d) (Lib.hid (Kept.refl [g] v))).out
  exact ⟨g, a, c, b, d, rfl, e0, e1, e2, e3, e4, hg, Nat.lt_of_lt_of_le hlt hq.size, hS.kept hq (fun hn x hx => by have := hF hn x hx; simp; omega), hS'.kept hq (fun hn x hx => by have := hF' hn x hx; simp; omega), hF.mono (by omega), hF'.mono (by omega), hne, (Kept.set5n hk hg).out⟩

end Go.Proofs.Ytgplghjameiciaa
