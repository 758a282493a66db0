/-
  A new box with two bigs. No condition.
-/
import Derived.Test.YtlhiahhpmjiioaaSpanI
import Derived.Test.YtlhiahhpmjiioaaSpanM
import Derived.Test.YtlhiahhpmjiioaaJ3
import Derived.Test.YtlhiahhpmjiioaaJ4
namespace Go.Proofs.Ytlhiahhpmjiioaa
open Go.RowKit

theorem alloc_heap {w : World} {o : Obj} {g : Nat} (hg : g = w.heap.size) : (w.alloc o).heap[g]? = some o := by subst hg; exact heap_alloc_new w o
theorem alloc_heap_old {w : World} {o u : Obj} {g : Nat} (h : w.heap[g]? = some u) : (w.alloc o).heap[g]? = some u := by
  rw [heap_alloc_old w o (Array.getElem?_eq_some_iff.1 h).1]; exact h
theorem alloc_heap0 {w : World} {o : Obj} : (w.alloc o).heap[w.heap.size]? = some o := heap_alloc_new w o
theorem alloc_heap1 {w : World} {o o1 : Obj} : ((w.alloc o1).alloc o).heap[w.heap.size + 1]? = some o := alloc_heap (by simp)
theorem alloc_heap2 {w : World} {o o1 o2 : Obj} : (((w.alloc o1).alloc o2).alloc o).heap[w.heap.size + 1 + 1]? = some o := alloc_heap (by simp)
theorem alloc_heap3 {w : World} {o o1 o2 o3 : Obj} : ((((w.alloc o1).alloc o2).alloc o3).alloc o).heap[w.heap.size + 1 + 1 + 1]? = some o := alloc_heap (by simp)
theorem kept_heap {w v : World} {u : Obj} {g : Nat} (hk : Kept [] w v) (h : w.heap[g]? = some u) : v.heap[g]? = some u := by
  rw [hk.block g (Array.getElem?_eq_some_iff.1 h).1 (by simp)]; exact h
/-- A new box with two bigs, told by their numbers. -/
def Box4 (w0 : World) (y1 y2 : Int) (s : Value) (w : World) : Prop :=
  ∃ g a c b d, s = .pointer (some ⟨g, 0, none⟩) ∧ w.cell? ⟨g, 0, none⟩ = some (.bool (isNeg y1)) ∧ w.cell? ⟨g, 1, none⟩ = some (.slice a (mag y1).length c) ∧ w.cell? ⟨g, 2, none⟩ = some (.bool (isNeg y2)) ∧ w.cell? ⟨g, 3, none⟩ = some (.slice b (mag y2).length d) ∧
    w0.heap.size ≤ g ∧ g < w.heap.size ∧ Sl w a (mag y1).length c (mag y1) ∧ Sl w b (mag y2).length d (mag y2) ∧ Kept [] w0 w
theorem Kept.set4n {W w2 : World} {g : Nat} {v1 v2 v3 v4 : Value} (h : Hid (Kept [] W w2)) (hg : W.heap.size ≤ g) : Hid (Kept [] W ((((w2.setCell ⟨g, 0, none⟩ v1).setCell ⟨g, 1, none⟩ v2).setCell ⟨g, 2, none⟩ v3).setCell ⟨g, 3, none⟩ v4)) :=
  Lib.hid ((((h.out.setCell _ _ (by simp; omega)).setCell _ _ (by simp; omega)).setCell _ _ (by simp; omega)).setCell _ _ (by simp; omega))
theorem box4_last {W v : World} {y1 y2 : Int} {a b : Option Addr} {c d : Nat} {T : TypeId} (hS : Sl v a (mag y1).length c (mag y1)) (hS' : Sl v b (mag y2).length d (mag y2)) (hk : Hid (Kept [] W v)) :
    Box4 W y1 y2 (.pointer (some ⟨v.heap.size, 0, none⟩)) (v.alloc (.cells #[.bool (isNeg y1), .slice a (mag y1).length c, .bool (isNeg y2), .slice b (mag y2).length d] T)) :=
  ⟨v.heap.size, a, c, b, d, rfl, by rw [World.cell?_alloc_new]; rfl, by rw [World.cell?_alloc_new]; rfl, by rw [World.cell?_alloc_new]; rfl, by rw [World.cell?_alloc_new]; rfl, hk.out.size, by simp, hS.kept0 ((Kept.refl [] v).alloc _), hS'.kept0 ((Kept.refl [] v).alloc _), hk.out.alloc _⟩
theorem box4_set {W v : World} {g : Nat} {y1 y2 : Int} {a b : Option Addr} {c d : Nat} {x0 x1 x2 x3 : Value} (hg : W.heap.size ≤ g) (ha : 0 < (mag y1).length → ∀ x, a = some x → x.block ≠ g) (hb : 0 < (mag y2).length → ∀ x, b = some x → x.block ≠ g)
    (hS : Sl v a (mag y1).length c (mag y1)) (hS' : Sl v b (mag y2).length d (mag y2))
    (h0 : v.cell? ⟨g, 0, none⟩ = some x0) (h1 : v.cell? ⟨g, 1, none⟩ = some x1) (h2 : v.cell? ⟨g, 2, none⟩ = some x2) (h3 : v.cell? ⟨g, 3, none⟩ = some x3) (hk : Hid (Kept [] W v)) :
    Box4 W y1 y2 (.pointer (some ⟨g, 0, none⟩)) ((((v.setCell ⟨g, 0, none⟩ (.bool (isNeg y1))).setCell ⟨g, 1, none⟩ (.slice a (mag y1).length c)).setCell ⟨g, 2, none⟩ (.bool (isNeg y2))).setCell ⟨g, 3, none⟩ (.slice b (mag y2).length d)) := by
  obtain ⟨e0, e1, e2, e3⟩ := cells4at (.bool (isNeg y1)) (.slice a (mag y1).length c) (.bool (isNeg y2)) (.slice b (mag y2).length d) h0 h1 h2 h3
  have hlt := World.block_lt_of_cell? v _ h0
  have hq := (Kept.set4 (v1 := .bool (isNeg y1)) (v2 := .slice a (mag y1).length c) (v3 := .bool (isNeg y2)) (v4 := .slice b (mag y2).length d) (Lib.hid (Kept.refl [g] v))).out
  exact ⟨g, a, c, b, d, rfl, e0, e1, e2, e3, hg, Nat.lt_of_lt_of_le hlt hq.size, hS.kept hq (fun hn x hx => by have := ha hn x hx; simpa using this), hS'.kept hq (fun hn x hx => by have := hb hn x hx; simpa using this), (Kept.set4n hk hg).out⟩

end Go.Proofs.Ytlhiahhpmjiioaa
