/-
  Contract of DivSpan. Conditions: the limbs read as lists of numbers.
-/
import Derived.Deep.RegionHeld3
import Derived.Deep.DrawnRows
import Derived.Deep.DeepCutAuto
import Derived.Test.YtofpommikmdlfaaCor
import Derived.Test.YtofpommikmdlfaaDivB
import Derived.Test.YtofpommikmdlfaaBox4
import Derived.Test.YtofpommikmdlfaaRange
namespace Go.Proofs.Ytofpommikmdlfaa
open Go.RowKit

attribute [local go_sem ↓] field_big
theorem Kept.set8n {W w2 : World} {g : Nat} {v1 v2 v3 v4 v5 v6 v7 v8 : Value} (h : Hid (Kept [] W w2)) (hg : W.heap.size ≤ g) : Hid (Kept [] W ((((((((w2.setCell ⟨g, 0, none⟩ v1).setCell ⟨g, 1, none⟩ v2).setCell ⟨g, 2, none⟩ v3).setCell ⟨g, 3, none⟩ v4).setCell ⟨g, 4, none⟩ v5).setCell ⟨g, 5, none⟩ v6).setCell ⟨g, 6, none⟩ v7).setCell ⟨g, 7, none⟩ v8)) :=
  Lib.hid ((((((((h.out.setCell _ _ (by simp; omega)).setCell _ _ (by simp; omega)).setCell _ _ (by simp; omega)).setCell _ _ (by simp; omega)).setCell _ _ (by simp; omega)).setCell _ _ (by simp; omega)).setCell _ _ (by simp; omega)).setCell _ _ (by simp; omega))
/-- Two new boxes with four bigs each, told by their numbers. -/
def Two8 (w0 : World) (y1 y2 y3 y4 z1 z2 z3 z4 : Int) (s s' : Value) (w : World) : Prop :=
  ∃ g g' b1 c1 b2 c2 b3 c3 b4 c4 a1 d1 a2 d2 a3 d3 a4 d4, s = .pointer (some ⟨g, 0, none⟩) ∧ s' = .pointer (some ⟨g', 0, none⟩) ∧
    RowB w g [bz y1 b1 c1, bz y2 b2 c2, bz y3 b3 c3, bz y4 b4 c4] ∧ OkB w [bz y1 b1 c1, bz y2 b2 c2, bz y3 b3 c3, bz y4 b4 c4] ∧ RowB w g' [bz z1 a1 d1, bz z2 a2 d2, bz z3 a3 d3, bz z4 a4 d4] ∧ OkB w [bz z1 a1 d1, bz z2 a2 d2, bz z3 a3 d3, bz z4 a4 d4] ∧ Kept [] w0 w
theorem rowB4_h {w : World} {g : Nat} {z1 z2 z3 z4 : Int} {a1 a2 a3 a4 : Option Addr} {c1 c2 c3 c4 : Nat} {T : TypeId}
    (h : w.heap[g]? = some (.cells #[.bool (isNeg z1), .slice a1 (mag z1).length c1, .bool (isNeg z2), .slice a2 (mag z2).length c2, .bool (isNeg z3), .slice a3 (mag z3).length c3, .bool (isNeg z4), .slice a4 (mag z4).length c4] T (0, 0))) :
    RowB w g [bz z1 a1 c1, bz z2 a2 c2, bz z3 a3 c3, bz z4 a4 c4] := by
  intro j hj
  match j, hj with
  | 0, _ => exact ⟨cell_of_row w g 0 _ _ _ h, cell_of_row w g 1 _ _ _ h⟩
  | 1, _ => exact ⟨cell_of_row w g 2 _ _ _ h, cell_of_row w g 3 _ _ _ h⟩
  | 2, _ => exact ⟨cell_of_row w g 4 _ _ _ h, cell_of_row w g 5 _ _ _ h⟩
  | 3, _ => exact ⟨cell_of_row w g 6 _ _ _ h, cell_of_row w g 7 _ _ _ h⟩
theorem set8_heap {v : World} {g : Nat} {z1 z2 z3 z4 z5 z6 z7 z8 v1 v2 v3 v4 v5 v6 v7 v8 : Value} {T : TypeId} (h : v.heap[g]? = some (.cells #[z1, z2, z3, z4, z5, z6, z7, z8] T (0, 0))) :
    ((((((((v.setCell ⟨g, 0, none⟩ v1).setCell ⟨g, 1, none⟩ v2).setCell ⟨g, 2, none⟩ v3).setCell ⟨g, 3, none⟩ v4).setCell ⟨g, 4, none⟩ v5).setCell ⟨g, 5, none⟩ v6).setCell ⟨g, 6, none⟩ v7).setCell ⟨g, 7, none⟩ v8).heap[g]? = some (.cells #[v1, v2, v3, v4, v5, v6, v7, v8] T (0, 0)) := by
  have e1 : (v.setCell ⟨g, 0, none⟩ v1).heap[g]? = some (.cells #[v1, z2, z3, z4, z5, z6, z7, z8] T (0, 0)) := heap_setCell_same _ g 0 _ _ _ h
  have e2 : ((v.setCell ⟨g, 0, none⟩ v1).setCell ⟨g, 1, none⟩ v2).heap[g]? = some (.cells #[v1, v2, z3, z4, z5, z6, z7, z8] T (0, 0)) := heap_setCell_same _ g 1 _ _ _ e1
  have e3 : (((v.setCell ⟨g, 0, none⟩ v1).setCell ⟨g, 1, none⟩ v2).setCell ⟨g, 2, none⟩ v3).heap[g]? = some (.cells #[v1, v2, v3, z4, z5, z6, z7, z8] T (0, 0)) := heap_setCell_same _ g 2 _ _ _ e2
  have e4 : ((((v.setCell ⟨g, 0, none⟩ v1).setCell ⟨g, 1, none⟩ v2).setCell ⟨g, 2, none⟩ v3).setCell ⟨g, 3, none⟩ v4).heap[g]? = some (.cells #[v1, v2, v3, v4, z5, z6, z7, z8] T (0, 0)) := heap_setCell_same _ g 3 _ _ _ e3
  have e5 : (((((v.setCell ⟨g, 0, none⟩ v1).setCell ⟨g, 1, none⟩ v2).setCell ⟨g, 2, none⟩ v3).setCell ⟨g, 3, none⟩ v4).setCell ⟨g, 4, none⟩ v5).heap[g]? = some (.cells #[v1, v2, v3, v4, v5, z6, z7, z8] T (0, 0)) := heap_setCell_same _ g 4 _ _ _ e4
  have e6 : ((((((v.setCell ⟨g, 0, none⟩ v1).setCell ⟨g, 1, none⟩ v2).setCell ⟨g, 2, none⟩ v3).setCell ⟨g, 3, none⟩ v4).setCell ⟨g, 4, none⟩ v5).setCell ⟨g, 5, none⟩ v6).heap[g]? = some (.cells #[v1, v2, v3, v4, v5, v6, z7, z8] T (0, 0)) := heap_setCell_same _ g 5 _ _ _ e5
  have e7 : (((((((v.setCell ⟨g, 0, none⟩ v1).setCell ⟨g, 1, none⟩ v2).setCell ⟨g, 2, none⟩ v3).setCell ⟨g, 3, none⟩ v4).setCell ⟨g, 4, none⟩ v5).setCell ⟨g, 5, none⟩ v6).setCell ⟨g, 6, none⟩ v7).heap[g]? = some (.cells #[v1, v2, v3, v4, v5, v6, v7, z8] T (0, 0)) := heap_setCell_same _ g 6 _ _ _ e6
  have e8 : ((((((((v.setCell ⟨g, 0, none⟩ v1).setCell ⟨g, 1, none⟩ v2).setCell ⟨g, 2, none⟩ v3).setCell ⟨g, 3, none⟩ v4).setCell ⟨g, 4, none⟩ v5).setCell ⟨g, 5, none⟩ v6).setCell ⟨g, 6, none⟩ v7).setCell ⟨g, 7, none⟩ v8).heap[g]? = some (.cells #[v1, v2, v3, v4, v5, v6, v7, v8] T (0, 0)) := heap_setCell_same _ g 7 _ _ _ e7
  exact e8
theorem set8_heap_other {v : World} {g k : Nat} {u : Obj} {v1 v2 v3 v4 v5 v6 v7 v8 : Value} (hk : k ≠ g) (h : v.heap[k]? = some u) :
    ((((((((v.setCell ⟨g, 0, none⟩ v1).setCell ⟨g, 1, none⟩ v2).setCell ⟨g, 2, none⟩ v3).setCell ⟨g, 3, none⟩ v4).setCell ⟨g, 4, none⟩ v5).setCell ⟨g, 5, none⟩ v6).setCell ⟨g, 6, none⟩ v7).setCell ⟨g, 7, none⟩ v8).heap[k]? = some u := by
  rw [(Kept.set8 (Lib.hid (Kept.refl [g] v))).out.block k (Array.getElem?_eq_some_iff.1 h).1 (by simpa using hk)]; exact h
theorem two8_fin {w0 v W : World} {g g' : Nat} {y1 y2 y3 y4 z1 z2 z3 z4 : Int} {b1 b2 b3 b4 a1 a2 a3 a4 : Option Addr} {c1 c2 c3 c4 d1 d2 d3 d4 : Nat} {T T' : TypeId}
    (h : W.heap[g]? = some (.cells #[.bool (isNeg y1), .slice b1 (mag y1).length c1, .bool (isNeg y2), .slice b2 (mag y2).length c2, .bool (isNeg y3), .slice b3 (mag y3).length c3, .bool (isNeg y4), .slice b4 (mag y4).length c4] T (0, 0)))
    (h' : W.heap[g']? = some (.cells #[.bool (isNeg z1), .slice a1 (mag z1).length d1, .bool (isNeg z2), .slice a2 (mag z2).length d2, .bool (isNeg z3), .slice a3 (mag z3).length d3, .bool (isNeg z4), .slice a4 (mag z4).length d4] T' (0, 0)))
    (k2 : Kept [g, g'] v W) (s1 : Sl v b1 (mag y1).length c1 (mag y1)) (s2 : Sl v b2 (mag y2).length c2 (mag y2)) (s3 : Sl v b3 (mag y3).length c3 (mag y3)) (s4 : Sl v b4 (mag y4).length c4 (mag y4))
    (r1 : Sl v a1 (mag z1).length d1 (mag z1)) (r2 : Sl v a2 (mag z2).length d2 (mag z2)) (r3 : Sl v a3 (mag z3).length d3 (mag z3)) (r4 : Sl v a4 (mag z4).length d4 (mag z4))
    (hb : ∀ (x : Addr) (t : Option Addr) (n : Nat), (t = b1 ∧ n = (mag y1).length ∨ t = b2 ∧ n = (mag y2).length ∨ t = b3 ∧ n = (mag y3).length ∨ t = b4 ∧ n = (mag y4).length) → 0 < n → t = some x → x.block ≠ g ∧ x.block ≠ g')
    (ha : ∀ (x : Addr) (t : Option Addr) (n : Nat), (t = a1 ∧ n = (mag z1).length ∨ t = a2 ∧ n = (mag z2).length ∨ t = a3 ∧ n = (mag z3).length ∨ t = a4 ∧ n = (mag z4).length) → 0 < n → t = some x → x.block ≠ g ∧ x.block ≠ g')
    (o1 : (mag y1).length ≤ 40) (o2 : (mag y2).length ≤ 40) (o3 : (mag y3).length ≤ 40) (o4 : (mag y4).length ≤ 40) (p1 : (mag z1).length ≤ 40) (p2 : (mag z2).length ≤ 40) (p3 : (mag z3).length ≤ 40) (p4 : (mag z4).length ≤ 40) (hg : w0.heap.size ≤ g) (hg' : w0.heap.size ≤ g') (hk0 : Kept [] w0 v) :
    Two8 w0 y1 y2 y3 y4 z1 z2 z3 z4 (.pointer (some ⟨g, 0, none⟩)) (.pointer (some ⟨g', 0, none⟩)) W := by
  have hk : Kept [] w0 W := hk0.trans k2 (fun x hx hlt => by simp at hx; omega)
  have hn : ∀ {x : Addr}, (x.block ≠ g ∧ x.block ≠ g') → x.block ∉ [g, g'] := fun h => by simp; exact h
  exact ⟨g, g', b1, c1, b2, c2, b3, c3, b4, c4, a1, d1, a2, d2, a3, d3, a4, d4, rfl, rfl, rowB4_h h,
    okB4 (s1.kept k2 fun hn' x hx => hn (hb x _ _ (.inl ⟨rfl, rfl⟩) hn' hx)) (s2.kept k2 fun hn' x hx => hn (hb x _ _ (.inr (.inl ⟨rfl, rfl⟩)) hn' hx)) (s3.kept k2 fun hn' x hx => hn (hb x _ _ (.inr (.inr (.inl ⟨rfl, rfl⟩))) hn' hx)) (s4.kept k2 fun hn' x hx => hn (hb x _ _ (.inr (.inr (.inr ⟨rfl, rfl⟩))) hn' hx)) o1 o2 o3 o4,
    rowB4_h h', okB4 (r1.kept k2 fun hn' x hx => hn (ha x _ _ (.inl ⟨rfl, rfl⟩) hn' hx)) (r2.kept k2 fun hn' x hx => hn (ha x _ _ (.inr (.inl ⟨rfl, rfl⟩)) hn' hx)) (r3.kept k2 fun hn' x hx => hn (ha x _ _ (.inr (.inr (.inl ⟨rfl, rfl⟩))) hn' hx)) (r4.kept k2 fun hn' x hx => hn (ha x _ _ (.inr (.inr (.inr ⟨rfl, rfl⟩))) hn' hx)) p1 p2 p3 p4, hk⟩

/-- All ways of a region meet in one state. -/
theorem two_phase {P : Program} {md : Region.Mode} {ops : Array Oper} {Q : Exit → Act → World → Prop} {S : World → Prop} {fuel : Nat} {listed : Array Bool} {a0 : Act} {w : World} (k : Nat) (Lf : Array Bool) (I : Act → Act → World → Prop)
    (hfin : ∀ a w, I a0 a w → wpAnyH P md ops Q S k Lf a w) (hrest : (∀ a w, I a0 a w → wpAnyH P md ops Q S k Lf a w) → wpAnyH P md ops Q S fuel listed a0 w) : wpAnyH P md ops Q S fuel listed a0 w := hrest hfin
/-- What the region reads; nothing that was there is written. -/
def RdD (w0 : World) (g7 g8 : Nat) (v0 v1 v2 v3 u0 u1 u2 u3 : Value) (w : World) : Prop :=
  w.cell? ⟨g7, 0, none⟩ = some v0 ∧ w.cell? ⟨g7, 1, none⟩ = some v1 ∧ w.cell? ⟨g7, 2, none⟩ = some v2 ∧ w.cell? ⟨g7, 3, none⟩ = some v3 ∧
    w.cell? ⟨g8, 0, none⟩ = some u0 ∧ w.cell? ⟨g8, 1, none⟩ = some u1 ∧ w.cell? ⟨g8, 2, none⟩ = some u2 ∧ w.cell? ⟨g8, 3, none⟩ = some u3 ∧ Kept [] w0 w
theorem RdD.kept {w0 w w' : World} {g7 g8 : Nat} {v0 v1 v2 v3 u0 u1 u2 u3 : Value} (h : RdD w0 g7 g8 v0 v1 v2 v3 u0 u1 u2 u3 w) (k : Kept [] w w') : RdD w0 g7 g8 v0 v1 v2 v3 u0 u1 u2 u3 w' := by
  obtain ⟨t0, t1, t2, t3, s0, s1, s2, s3, hk⟩ := h
  exact ⟨k.cell t0 (by simp), k.cell t1 (by simp), k.cell t2 (by simp), k.cell t3 (by simp), k.cell s0 (by simp), k.cell s1 (by simp), k.cell s2 (by simp), k.cell s3 (by simp), hk.trans0 k⟩
theorem RdD.set {w0 w w' : World} {g g7 g8 : Nat} {v0 v1 v2 v3 u0 u1 u2 u3 : Value} (h : RdD w0 g7 g8 v0 v1 v2 v3 u0 u1 u2 u3 w) (k : Kept [g] w w') (hg : w0.heap.size ≤ g) (l7 : g7 < w0.heap.size) (l8 : g8 < w0.heap.size) : RdD w0 g7 g8 v0 v1 v2 v3 u0 u1 u2 u3 w' := by
  obtain ⟨t0, t1, t2, t3, s0, s1, s2, s3, hk⟩ := h
  have n7 : g7 ∉ [g] := by simp; omega
  have n8 : g8 ∉ [g] := by simp; omega
  exact ⟨k.cell t0 n7, k.cell t1 n7, k.cell t2 n7, k.cell t3 n7, k.cell s0 n8, k.cell s1 n8, k.cell s2 n8, k.cell s3 n8, hk.trans k (fun x hx hlt => by simp at hx; omega)⟩
abbrev Z8 : Array Value := #[.bool false, .slice none 0 0, .bool false, .slice none 0 0, .bool false, .slice none 0 0, .bool false, .slice none 0 0]
abbrev Bg := Option Addr × Nat × Int
/-- Bigs, told by numbers, whose limbs lie in w. -/
def AllSl (w : World) (l : List Bg) : Prop := ∀ t, t ∈ l → Sl w t.1 (mag t.2.2).length t.2.1 (mag t.2.2)
/-- What a region has made since w0: empty boxes of four bigs, and bigs that lie in none of them. -/
def Mk (w0 : World) (T : TypeId) (gs : List Nat) (l : List Bg) (w : World) : Prop :=
  Kept [] w0 w ∧ (∀ g, g ∈ gs → w0.heap.size ≤ g ∧ w.heap[g]? = some (.cells Z8 T (0, 0))) ∧ AllSl w l ∧ ∀ g, g ∈ gs → ∀ t, t ∈ l → 0 < (mag t.2.2).length → ∀ x, t.1 = some x → x.block ≠ g
theorem Mk.alloc {w0 w : World} {T : TypeId} {gs : List Nat} {l : List Bg} (h : Mk w0 T gs l w) : Mk w0 T (w.heap.size :: gs) l (w.alloc (.cells Z8 T)) := by
  obtain ⟨hk, hg, hl, ho⟩ := h
  refine ⟨hk.alloc _, fun g hm => ?_, fun t ht => (hl t ht).kept0 ((Kept.refl [] w).alloc _), fun g hm t ht hn x hx => ?_⟩
  · rcases List.mem_cons.1 hm with rfl | hm
    · exact ⟨hk.size, World.alloc_heap_new w _⟩
    · obtain ⟨h1, h2⟩ := hg g hm
      exact ⟨h1, alloc_heap_old h2⟩
  · have h9 := (hl t ht).lt hn x hx
    rcases List.mem_cons.1 hm with rfl | hm
    · omega
    · exact ho g hm t ht hn x hx
theorem Mk.call {w0 w w' : World} {T : TypeId} {gs : List Nat} {l l' : List Bg} (h : Mk w0 T gs l w) (k : Kept [] w w') (hs : AllSl w' l') (hf : ∀ t, t ∈ l' → Fr w.heap.size t.1 (mag t.2.2).length) : Mk w0 T gs (l' ++ l) w' := by
  obtain ⟨hk, hg, hl, ho⟩ := h
  refine ⟨hk.trans0 k, fun g hm => ⟨(hg g hm).1, kept_heap k (hg g hm).2⟩, fun t ht => ?_, fun g hm t ht hn x hx => ?_⟩
  · rcases List.mem_append.1 ht with ht | ht
    · exact hs t ht
    · exact (hl t ht).kept0 k
  · rcases List.mem_append.1 ht with ht | ht
    · have h9 := hf t ht hn x hx
      have h8 := (Array.getElem?_eq_some_iff.1 (hg g hm).2).1
      omega
    · exact ho g hm t ht hn x hx
theorem all4 {w : World} {a b c d : Bg} (ha : Sl w a.1 (mag a.2.2).length a.2.1 (mag a.2.2)) (hb : Sl w b.1 (mag b.2.2).length b.2.1 (mag b.2.2)) (hc : Sl w c.1 (mag c.2.2).length c.2.1 (mag c.2.2)) (hd : Sl w d.1 (mag d.2.2).length d.2.1 (mag d.2.2)) : AllSl w [a, b, c, d] := by
  intro t ht
  simp only [List.mem_cons, List.not_mem_nil, or_false] at ht
  rcases ht with rfl | rfl | rfl | rfl <;> assumption
theorem fr4 {B : Nat} {a b c d : Bg} (ha : Fr B a.1 (mag a.2.2).length) (hb : Fr B b.1 (mag b.2.2).length) (hc : Fr B c.1 (mag c.2.2).length) (hd : Fr B d.1 (mag d.2.2).length) : ∀ t, t ∈ [a, b, c, d] → Fr B t.1 (mag t.2.2).length := by
  intro t ht
  simp only [List.mem_cons, List.not_mem_nil, or_false] at ht
  rcases ht with rfl | rfl | rfl | rfl <;> assumption
theorem z8_cells {w : World} {g : Nat} {T : TypeId} (h : w.heap[g]? = some (.cells Z8 T (0, 0))) :
    w.cell? ⟨g, 0, none⟩ = some (.bool false) ∧ w.cell? ⟨g, 1, none⟩ = some (.slice none 0 0) ∧ w.cell? ⟨g, 2, none⟩ = some (.bool false) ∧ w.cell? ⟨g, 3, none⟩ = some (.slice none 0 0) ∧ w.cell? ⟨g, 4, none⟩ = some (.bool false) ∧ w.cell? ⟨g, 5, none⟩ = some (.slice none 0 0) ∧ w.cell? ⟨g, 6, none⟩ = some (.bool false) ∧ w.cell? ⟨g, 7, none⟩ = some (.slice none 0 0) :=
  ⟨cell_of_row w g 0 _ _ _ h, cell_of_row w g 1 _ _ _ h, cell_of_row w g 2 _ _ _ h, cell_of_row w g 3 _ _ _ h, cell_of_row w g 4 _ _ _ h, cell_of_row w g 5 _ _ _ h, cell_of_row w g 6 _ _ _ h, cell_of_row w g 7 _ _ _ h⟩
theorem z8_free {w : World} {g : Nat} {T : TypeId} (h : w.heap[g]? = some (.cells Z8 T (0, 0))) :
    w.frozen? ⟨g, 0, none⟩ = false ∧ w.frozen? ⟨g, 1, none⟩ = false ∧ w.frozen? ⟨g, 2, none⟩ = false ∧ w.frozen? ⟨g, 3, none⟩ = false ∧ w.frozen? ⟨g, 4, none⟩ = false ∧ w.frozen? ⟨g, 5, none⟩ = false ∧ w.frozen? ⟨g, 6, none⟩ = false ∧ w.frozen? ⟨g, 7, none⟩ = false :=
  ⟨frozen_of_row w g 0 _ _ h, frozen_of_row w g 1 _ _ h, frozen_of_row w g 2 _ _ h, frozen_of_row w g 3 _ _ h, frozen_of_row w g 4 _ _ h, frozen_of_row w g 5 _ _ h, frozen_of_row w g 6 _ _ h, frozen_of_row w g 7 _ _ h⟩
def put8 (w : World) (g : Nat) (z1 z2 z3 z4 : Int) (a1 a2 a3 a4 : Option Addr) (c1 c2 c3 c4 : Nat) : World :=
  ((((((((w.setCell ⟨g, 0, none⟩ (.bool (isNeg z1))).setCell ⟨g, 1, none⟩ (.slice a1 (mag z1).length c1)).setCell ⟨g, 2, none⟩ (.bool (isNeg z2))).setCell ⟨g, 3, none⟩ (.slice a2 (mag z2).length c2)).setCell ⟨g, 4, none⟩ (.bool (isNeg z3))).setCell ⟨g, 5, none⟩ (.slice a3 (mag z3).length c3)).setCell ⟨g, 6, none⟩ (.bool (isNeg z4))).setCell ⟨g, 7, none⟩ (.slice a4 (mag z4).length c4))
theorem two8_mk {w0 w : World} {T : TypeId} {gs : List Nat} {g g' : Nat} {y1 y2 y3 y4 z1 z2 z3 z4 : Int} {b1 b2 b3 b4 a1 a2 a3 a4 : Option Addr} {c1 c2 c3 c4 d1 d2 d3 d4 : Nat}
    (h : Mk w0 T gs ([(a1, d1, z1), (a2, d2, z2), (a3, d3, z3), (a4, d4, z4)] ++ ([(b1, c1, y1), (b2, c2, y2), (b3, c3, y3), (b4, c4, y4)] ++ [])) w) (hg : g ∈ gs) (hg' : g' ∈ gs) (hne : g ≠ g')
    (o1 : (mag y1).length ≤ 40) (o2 : (mag y2).length ≤ 40) (o3 : (mag y3).length ≤ 40) (o4 : (mag y4).length ≤ 40) (p1 : (mag z1).length ≤ 40) (p2 : (mag z2).length ≤ 40) (p3 : (mag z3).length ≤ 40) (p4 : (mag z4).length ≤ 40) :
    Two8 w0 y1 y2 y3 y4 z1 z2 z3 z4 (.pointer (some ⟨g, 0, none⟩)) (.pointer (some ⟨g', 0, none⟩)) (put8 (put8 w g y1 y2 y3 y4 b1 b2 b3 b4 c1 c2 c3 c4) g' z1 z2 z3 z4 a1 a2 a3 a4 d1 d2 d3 d4) := by
  obtain ⟨hk, hb, hl, ho⟩ := h
  obtain ⟨q1, e1⟩ := hb g hg
  obtain ⟨q2, e2⟩ := hb g' hg'
  have k1 : Kept [g] w (put8 w g y1 y2 y3 y4 b1 b2 b3 b4 c1 c2 c3 c4) := (Kept.set8 (Lib.hid (Kept.refl [g] w))).out
  have k2 : Kept [g'] (put8 w g y1 y2 y3 y4 b1 b2 b3 b4 c1 c2 c3 c4) (put8 (put8 w g y1 y2 y3 y4 b1 b2 b3 b4 c1 c2 c3 c4) g' z1 z2 z3 z4 a1 a2 a3 a4 d1 d2 d3 d4) := (Kept.set8 (Lib.hid (Kept.refl [g'] _))).out
  have k3 := (k1.mono (M := [g, g']) (fun x hx _ => by simp at hx; simp [hx])).trans k2 (fun x hx _ => by simp at hx; simp [hx])
  have m : ∀ t, t ∈ [(a1, d1, z1), (a2, d2, z2), (a3, d3, z3), (a4, d4, z4)] ++ ([(b1, c1, y1), (b2, c2, y2), (b3, c3, y3), (b4, c4, y4)] ++ []) → Sl w t.1 (mag t.2.2).length t.2.1 (mag t.2.2) := hl
  refine two8_fin (v := w) (T := T) (T' := T) ?_ ?_ k3 (m (b1, c1, y1) (by simp)) (m (b2, c2, y2) (by simp)) (m (b3, c3, y3) (by simp)) (m (b4, c4, y4) (by simp)) (m (a1, d1, z1) (by simp)) (m (a2, d2, z2) (by simp)) (m (a3, d3, z3) (by simp)) (m (a4, d4, z4) (by simp)) ?_ ?_ o1 o2 o3 o4 p1 p2 p3 p4 q1 q2 hk
  · exact set8_heap_other hne (set8_heap e1)
  · exact set8_heap (set8_heap_other (Ne.symm hne) e2)
  · intro x s n hs hn hx
    rcases hs with ⟨rfl, rfl⟩ | ⟨rfl, rfl⟩ | ⟨rfl, rfl⟩ | ⟨rfl, rfl⟩
    · exact ⟨ho g hg (_, c1, y1) (by simp) hn x hx, ho g' hg' (_, c1, y1) (by simp) hn x hx⟩
    · exact ⟨ho g hg (_, c2, y2) (by simp) hn x hx, ho g' hg' (_, c2, y2) (by simp) hn x hx⟩
    · exact ⟨ho g hg (_, c3, y3) (by simp) hn x hx, ho g' hg' (_, c3, y3) (by simp) hn x hx⟩
    · exact ⟨ho g hg (_, c4, y4) (by simp) hn x hx, ho g' hg' (_, c4, y4) (by simp) hn x hx⟩
  · intro x s n hs hn hx
    rcases hs with ⟨rfl, rfl⟩ | ⟨rfl, rfl⟩ | ⟨rfl, rfl⟩ | ⟨rfl, rfl⟩
    · exact ⟨ho g hg (_, d1, z1) (by simp) hn x hx, ho g' hg' (_, d1, z1) (by simp) hn x hx⟩
    · exact ⟨ho g hg (_, d2, z2) (by simp) hn x hx, ho g' hg' (_, d2, z2) (by simp) hn x hx⟩
    · exact ⟨ho g hg (_, d3, z3) (by simp) hn x hx, ho g' hg' (_, d3, z3) (by simp) hn x hx⟩
    · exact ⟨ho g hg (_, d4, z4) (by simp) hn x hx, ho g' hg' (_, d4, z4) (by simp) hn x hx⟩
set_option maxHeartbeats 8000000 in
set_option maxRecDepth 20000 in
theorem DivSpan_any (P : Int) (p q : Bool) (a b : Option Addr) (n c m d : Nat) (xs ys : List Int) (p' q' : Bool) (a' b' : Option Addr) (n' c' m' d' : Nat) (xs' ys' : List Int) (w : World) (h1 : Sl w a n c xs) (h2 : Sl w b m d ys) (h3 : Sl w a' n' c' xs') (h4 : Sl w b' m' d' ys') :
    Calls Try.prog 8 #[.int .i64 P, .agg #[.bool p, .slice a n c, .bool q, .slice b m d], .agg #[.bool p', .slice a' n' c', .bool q', .slice b' m' d']] w (SpanR w (divS P p xs q ys p' xs' q' ys')) := by
  have H1 := Lib.hid h1
  have H2 := Lib.hid h2
  have H3 := Lib.hid h3
  have H4 := Lib.hid h4
  clear h1 h2 h3 h4
  have F1 := Lib.hid H1.out.lt
  have F2 := Lib.hid H2.out.lt
  have F3 := Lib.hid H3.out.lt
  have F4 := Lib.hid H4.out.lt
  by_cases hP : isP P = true
  · by_cases hz : spanFault2 p xs q ys p' xs' q' ys' = 0
    · skip
      by_cases h0z : hasZ p' xs' q' = true
      · skip
        rw [show divS P p xs q ys p' xs' q' ys' = noSpan 6 from by unfold divS; rw [askS_ok hP hz, if_pos h0z]]
        have HZ := Lib.hid (show precS P (spanFault2 p xs q ys p' xs' q' ys') = 0 by unfold precS; rw [if_pos hP]; exact hz)
        obtain ⟨ox, oy⟩ := spanFault2_zero hz
        have B3 := Lib.hid oy.lo
        have HZ0 := Lib.hid h0z
        clear ox oy h0z hz hP
        go_enter Try.func8, Try.ntmps8
        go_wp2_with fail
        generalize hW : (((w.alloc (.cells #[.bool p, .slice a n c, .bool q, .slice b m d] 30)).alloc (.cells #[.bool p', .slice a' n' c', .bool q', .slice b' m' d'] 30)).alloc (.cells #[.int .i64 0, .bool false, .slice none 0 0, .bool false, .slice none 0 0] 32)) = ww0
        have hkk : Kept [] (((w.alloc (.cells #[.bool p, .slice a n c, .bool q, .slice b m d] 30)).alloc (.cells #[.bool p', .slice a' n' c', .bool q', .slice b' m' d'] 30)).alloc (.cells #[.int .i64 0, .bool false, .slice none 0 0, .bool false, .slice none 0 0] 32)) ww0 := by rw [hW]; exact Kept.refl _ _
        have zzA : w.heap.size + 1 + 1 + 1 = ww0.heap.size := by rw [← hW]; simp
        obtain ⟨⟨nA0, nA1, nA2, nA3⟩, _⟩ := tp4 hkk.peel.peel (g := w.heap.size) (by simp) (by simp)
        obtain ⟨⟨nB0, nB1, nB2, nB3⟩, _⟩ := tp4 hkk.peel (g := w.heap.size + 1) (by simp) (by simp)
        obtain ⟨⟨nR0, nR1, nR2, nR3, nR4⟩, fR0, fR1, fR2, fR3, fR4⟩ := tp5 hkk (g := w.heap.size + 1 + 1) (by simp) (by simp)
        have hk := hkk.peel.peel.peel
        clear hkk hW
        have z0 := hk.size
        have KT := Lib.hid hk
        clear hk
        replace H1 := Lib.hid (H1.out.kept0 KT.out)
        replace H2 := Lib.hid (H2.out.kept0 KT.out)
        replace H3 := Lib.hid (H3.out.kept0 KT.out)
        replace H4 := Lib.hid (H4.out.kept0 KT.out)
        refine (precisionFault_two _ _ _ _ _ _ _ _ _ _ _ _ _ _ _ _ _ _ _ _ _ _ _ (by omega) H1.out H2.out H3.out H4.out).mono ?_
        rintro e ww1 ⟨rfl, hk⟩
        rw [HZ.out]
        have z1 := hk.size
        replace fR0 := kf hk nR0 fR0
        replace fR1 := kf hk nR1 fR1
        replace fR2 := kf hk nR2 fR2
        replace fR3 := kf hk nR3 fR3
        replace fR4 := kf hk nR4 fR4
        replace nA0 := kc hk nA0
        replace nA1 := kc hk nA1
        replace nA2 := kc hk nA2
        replace nA3 := kc hk nA3
        replace nB0 := kc hk nB0
        replace nB1 := kc hk nB1
        replace nB2 := kc hk nB2
        replace nB3 := kc hk nB3
        replace nR0 := kc hk nR0
        replace nR1 := kc hk nR1
        replace nR2 := kc hk nR2
        replace nR3 := kc hk nR3
        replace nR4 := kc hk nR4
        replace H1 := Lib.hid (H1.out.kept0 hk)
        replace H2 := Lib.hid (H2.out.kept0 hk)
        replace H3 := Lib.hid (H3.out.kept0 hk)
        replace H4 := Lib.hid (H4.out.kept0 hk)
        replace KT := Lib.hid (KT.out.trans0 hk)
        clear hk
        have tA0 := nA0.out
        have tA1 := nA1.out
        have tA2 := nA2.out
        have tA3 := nA3.out
        have tB0 := nB0.out
        have tB1 := nB1.out
        have tB2 := nB2.out
        have tB3 := nB3.out
        go_wp2_with fail
        clear tA0 tA1 tA2 tA3 tB0 tB1 tB2 tB3
        refine (hasZero_any _ _ _ _ _ _ _ _ _ _ H3.out B3.out).mono ?_
        rintro e ww2 ⟨rfl, hk⟩
        rw [HZ0.out]
        have z2 := hk.size
        replace fR0 := kf hk nR0 fR0
        replace fR1 := kf hk nR1 fR1
        replace fR2 := kf hk nR2 fR2
        replace fR3 := kf hk nR3 fR3
        replace fR4 := kf hk nR4 fR4
        replace nA0 := kc hk nA0
        replace nA1 := kc hk nA1
        replace nA2 := kc hk nA2
        replace nA3 := kc hk nA3
        replace nB0 := kc hk nB0
        replace nB1 := kc hk nB1
        replace nB2 := kc hk nB2
        replace nB3 := kc hk nB3
        replace nR0 := kc hk nR0
        replace nR1 := kc hk nR1
        replace nR2 := kc hk nR2
        replace nR3 := kc hk nR3
        replace nR4 := kc hk nR4
        replace H1 := Lib.hid (H1.out.kept0 hk)
        replace H2 := Lib.hid (H2.out.kept0 hk)
        replace H3 := Lib.hid (H3.out.kept0 hk)
        replace H4 := Lib.hid (H4.out.kept0 hk)
        replace KT := Lib.hid (KT.out.trans0 hk)
        clear hk
        have tA0 := nA0.out
        have tA1 := nA1.out
        have tA2 := nA2.out
        have tA3 := nA3.out
        have tB0 := nB0.out
        have tB1 := nB1.out
        have tB2 := nB2.out
        have tB3 := nB3.out
        have tR0 := nR0.out
        have tR1 := nR1.out
        have tR2 := nR2.out
        have tR3 := nR3.out
        have tR4 := nR4.out
        have uR0 := fR0.out
        have uR1 := fR1.out
        have uR2 := fR2.out
        have uR3 := fR3.out
        have uR4 := fR4.out
        go_wp2_with fail
        clear tA0 tA1 tA2 tA3 tB0 tB1 tB2 tB3 tR0 tR1 tR2 tR3 tR4 uR0 uR1 uR2 uR3 uR4
        generalize hW : (((((ww2.setCell ⟨w.heap.size + 1 + 1, 0, none⟩ (.int .i64 6)).setCell ⟨w.heap.size + 1 + 1, 1, none⟩ (.bool false)).setCell ⟨w.heap.size + 1 + 1, 2, none⟩ (.slice none 0 0)).setCell ⟨w.heap.size + 1 + 1, 3, none⟩ (.bool false)).setCell ⟨w.heap.size + 1 + 1, 4, none⟩ (.slice none 0 0)) = ww3
        have hk : Kept [w.heap.size + 1 + 1] ww2 ww3 := by rw [← hW]; exact (((((Kept.refl _ _).setCell _ _ (by simp)).setCell _ _ (by simp)).setCell _ _ (by simp)).setCell _ _ (by simp)).setCell _ _ (by simp)
        have hfz : ∀ x, ww3.frozen? x = ww2.frozen? x := by rw [← hW]; intro x; simp only [World.frozen?_setCell]
        obtain ⟨e0, e1, e2, e3, e4⟩ := st5 hW.symm nR0.out nR1.out nR2.out nR3.out nR4.out
        have z3 := hk.size
        replace fR0 := kz hfz fR0
        replace fR1 := kz hfz fR1
        replace fR2 := kz hfz fR2
        replace fR3 := kz hfz fR3
        replace fR4 := kz hfz fR4
        replace nA0 := kd hk nA0 (by simp <;> omega)
        replace nA1 := kd hk nA1 (by simp <;> omega)
        replace nA2 := kd hk nA2 (by simp <;> omega)
        replace nA3 := kd hk nA3 (by simp <;> omega)
        replace nB0 := kd hk nB0 (by simp <;> omega)
        replace nB1 := kd hk nB1 (by simp <;> omega)
        replace nB2 := kd hk nB2 (by simp <;> omega)
        replace nB3 := kd hk nB3 (by simp <;> omega)
        replace H1 := Lib.hid (H1.out.kept hk (fun hn y hy hm => by have h9 := F1.out hn y hy; simp at hm; omega))
        replace H2 := Lib.hid (H2.out.kept hk (fun hn y hy hm => by have h9 := F2.out hn y hy; simp at hm; omega))
        replace H3 := Lib.hid (H3.out.kept hk (fun hn y hy hm => by have h9 := F3.out hn y hy; simp at hm; omega))
        replace H4 := Lib.hid (H4.out.kept hk (fun hn y hy hm => by have h9 := F4.out hn y hy; simp at hm; omega))
        replace nR0 := Lib.hid e0
        replace nR1 := Lib.hid e1
        replace nR2 := Lib.hid e2
        replace nR3 := Lib.hid e3
        replace nR4 := Lib.hid e4
        replace KT := Lib.hid (KT.out.trans hk (fun x hx hlt => by simp at hx; omega))
        clear hk hfz hW e0 e1 e2 e3 e4
        have e0 := nR0.out
        have e1 := nR1.out
        have e2 := nR2.out
        have e3 := nR3.out
        have e4 := nR4.out
        refine bodyPost_ret (v := .agg #[.int .i64 6, .bool false, .slice none 0 0, .bool false, .slice none 0 0]) (by simp [results, Try.results8, go_sem, e0, e1, e2, e3, e4]) rfl ?_
        exact spanR_no KT.out
      · skip
        have HZ := Lib.hid (show precS P (spanFault2 p xs q ys p' xs' q' ys') = 0 by unfold precS; rw [if_pos hP]; exact hz)
        obtain ⟨ox, oy⟩ := spanFault2_zero hz
        have hno := noZ_len h0z oy
        obtain ⟨z3, z4⟩ := hno
        obtain ⟨u1, hu1⟩ : ∃ u, u = inU P p xs := ⟨_, rfl⟩
        obtain ⟨u2, hu2⟩ : ∃ u, u = inU P q ys := ⟨_, rfl⟩
        obtain ⟨f1_, hf1⟩ : ∃ z, z = divZ false (isNeg u1) p' (val (mag u1)) (val xs') := ⟨_, rfl⟩
        obtain ⟨f2_, hf2⟩ : ∃ z, z = divZ false (isNeg u1) q' (val (mag u1)) (val ys') := ⟨_, rfl⟩
        obtain ⟨f3_, hf3⟩ : ∃ z, z = divZ false (isNeg u2) p' (val (mag u2)) (val xs') := ⟨_, rfl⟩
        obtain ⟨f4_, hf4⟩ : ∃ z, z = divZ false (isNeg u2) q' (val (mag u2)) (val ys') := ⟨_, rfl⟩
        obtain ⟨h1_, hh1⟩ : ∃ z, z = divZ true (isNeg u1) p' (val (mag u1)) (val xs') := ⟨_, rfl⟩
        obtain ⟨h2_, hh2⟩ : ∃ z, z = divZ true (isNeg u1) q' (val (mag u1)) (val ys') := ⟨_, rfl⟩
        obtain ⟨h3_, hh3⟩ : ∃ z, z = divZ true (isNeg u2) p' (val (mag u2)) (val xs') := ⟨_, rfl⟩
        obtain ⟨h4_, hh4⟩ : ∃ z, z = divZ true (isNeg u2) q' (val (mag u2)) (val ys') := ⟨_, rfl⟩
        obtain ⟨t1, ht1⟩ : ∃ t, t = min4 f1_ f2_ f3_ f4_ := ⟨_, rfl⟩
        obtain ⟨t2, ht2⟩ : ∃ t, t = max4 h1_ h2_ h3_ h4_ := ⟨_, rfl⟩
        obtain ⟨r, hr⟩ : ∃ r, r = fitS t1 t2 := ⟨_, rfl⟩
        rw [show divS P p xs q ys p' xs' q' ys' = r from by unfold divS; rw [askS_ok hP hz, if_neg h0z, ← hu1, ← hu2, ← hf1, ← hf2, ← hf3, ← hf4, ← hh1, ← hh2, ← hh3, ← hh4, ← ht1, ← ht2, hr]]
        obtain ⟨k, rfl⟩ : ∃ k : Nat, P = (k : Int) := ⟨P.toNat, by rcases isP_cases hP with h | h | h <;> omega⟩
        have hk96 : k ≤ 96 := by rcases isP_cases hP with h | h | h <;> omega
        have hul1 : (mag u1).length ≤ 27 := by rw [hu1]; exact inU_len hP ox.lo ox.lx
        have hul2 : (mag u2).length ≤ 27 := by rw [hu2]; exact inU_len hP ox.hi ox.ly
        have of1 : (mag f1_).length ≤ 40 := by rw [hf1]; exact divZ_len27 (mag_lt27 hul1).1 (mag_lt27 hul1).2 ((canon_nonneg oy.lo.n40.canon).2 (by intro e9; exact z3 (by rw [e9]; rfl)))
        have of2 : (mag f2_).length ≤ 40 := by rw [hf2]; exact divZ_len27 (mag_lt27 hul1).1 (mag_lt27 hul1).2 ((canon_nonneg oy.hi.n40.canon).2 (by intro e9; exact z4 (by rw [e9]; rfl)))
        have of3 : (mag f3_).length ≤ 40 := by rw [hf3]; exact divZ_len27 (mag_lt27 hul2).1 (mag_lt27 hul2).2 ((canon_nonneg oy.lo.n40.canon).2 (by intro e9; exact z3 (by rw [e9]; rfl)))
        have of4 : (mag f4_).length ≤ 40 := by rw [hf4]; exact divZ_len27 (mag_lt27 hul2).1 (mag_lt27 hul2).2 ((canon_nonneg oy.hi.n40.canon).2 (by intro e9; exact z4 (by rw [e9]; rfl)))
        have oh1 : (mag h1_).length ≤ 40 := by rw [hh1]; exact divZ_len27 (mag_lt27 hul1).1 (mag_lt27 hul1).2 ((canon_nonneg oy.lo.n40.canon).2 (by intro e9; exact z3 (by rw [e9]; rfl)))
        have oh2 : (mag h2_).length ≤ 40 := by rw [hh2]; exact divZ_len27 (mag_lt27 hul1).1 (mag_lt27 hul1).2 ((canon_nonneg oy.hi.n40.canon).2 (by intro e9; exact z4 (by rw [e9]; rfl)))
        have oh3 : (mag h3_).length ≤ 40 := by rw [hh3]; exact divZ_len27 (mag_lt27 hul2).1 (mag_lt27 hul2).2 ((canon_nonneg oy.lo.n40.canon).2 (by intro e9; exact z3 (by rw [e9]; rfl)))
        have oh4 : (mag h4_).length ≤ 40 := by rw [hh4]; exact divZ_len27 (mag_lt27 hul2).1 (mag_lt27 hul2).2 ((canon_nonneg oy.hi.n40.canon).2 (by intro e9; exact z4 (by rw [e9]; rfl)))
        have HZ0 := Lib.hid (show hasZ p' xs' q' = false by simpa using h0z)
        have B1 := Lib.hid ox.lo
        have B2 := Lib.hid ox.hi
        have B3 := Lib.hid oy.lo
        have B4 := Lib.hid oy.hi
        have HR := Lib.hid hr
        have ZZ3 := Lib.hid z3
        have ZZ4 := Lib.hid z4
        have HU1 := Lib.hid (show u1 = sv p xs * p2 k from hu1)
        have HU2 := Lib.hid (show u2 = sv q ys * p2 k from hu2)
        have BU1 := Lib.hid (bigOk_of (z := u1) (by omega))
        have BU2 := Lib.hid (bigOk_of (z := u2) (by omega))
        have HT1 := Lib.hid ht1
        have HT2 := Lib.hid ht2
        have Hf1 := Lib.hid hf1
        have Hf2 := Lib.hid hf2
        have Hf3 := Lib.hid hf3
        have Hf4 := Lib.hid hf4
        have Hh1 := Lib.hid hh1
        have Hh2 := Lib.hid hh2
        have Hh3 := Lib.hid hh3
        have Hh4 := Lib.hid hh4
        clear ox oy h0z hz hP hr z3 z4 hu1 hu2 ht1 ht2 hf1 hf2 hf3 hf4 hh1 hh2 hh3 hh4
        go_enter Try.func8, Try.ntmps8
        go_wp2_with fail
        generalize hW : (((w.alloc (.cells #[.bool p, .slice a n c, .bool q, .slice b m d] 30)).alloc (.cells #[.bool p', .slice a' n' c', .bool q', .slice b' m' d'] 30)).alloc (.cells #[.int .i64 0, .bool false, .slice none 0 0, .bool false, .slice none 0 0] 32)) = ww0
        have hkk : Kept [] (((w.alloc (.cells #[.bool p, .slice a n c, .bool q, .slice b m d] 30)).alloc (.cells #[.bool p', .slice a' n' c', .bool q', .slice b' m' d'] 30)).alloc (.cells #[.int .i64 0, .bool false, .slice none 0 0, .bool false, .slice none 0 0] 32)) ww0 := by rw [hW]; exact Kept.refl _ _
        have zzA : w.heap.size + 1 + 1 + 1 = ww0.heap.size := by rw [← hW]; simp
        obtain ⟨⟨nA0, nA1, nA2, nA3⟩, _⟩ := tp4 hkk.peel.peel (g := w.heap.size) (by simp) (by simp)
        obtain ⟨⟨nB0, nB1, nB2, nB3⟩, _⟩ := tp4 hkk.peel (g := w.heap.size + 1) (by simp) (by simp)
        obtain ⟨⟨nR0, nR1, nR2, nR3, nR4⟩, fR0, fR1, fR2, fR3, fR4⟩ := tp5 hkk (g := w.heap.size + 1 + 1) (by simp) (by simp)
        have hk := hkk.peel.peel.peel
        clear hkk hW
        have z0 := hk.size
        have KT := Lib.hid hk
        clear hk
        replace H1 := Lib.hid (H1.out.kept0 KT.out)
        replace H2 := Lib.hid (H2.out.kept0 KT.out)
        replace H3 := Lib.hid (H3.out.kept0 KT.out)
        replace H4 := Lib.hid (H4.out.kept0 KT.out)
        refine (precisionFault_two _ _ _ _ _ _ _ _ _ _ _ _ _ _ _ _ _ _ _ _ _ _ _ (by omega) H1.out H2.out H3.out H4.out).mono ?_
        rintro e ww1 ⟨rfl, hk⟩
        rw [HZ.out]
        have z1 := hk.size
        replace fR0 := kf hk nR0 fR0
        replace fR1 := kf hk nR1 fR1
        replace fR2 := kf hk nR2 fR2
        replace fR3 := kf hk nR3 fR3
        replace fR4 := kf hk nR4 fR4
        replace nA0 := kc hk nA0
        replace nA1 := kc hk nA1
        replace nA2 := kc hk nA2
        replace nA3 := kc hk nA3
        replace nB0 := kc hk nB0
        replace nB1 := kc hk nB1
        replace nB2 := kc hk nB2
        replace nB3 := kc hk nB3
        replace nR0 := kc hk nR0
        replace nR1 := kc hk nR1
        replace nR2 := kc hk nR2
        replace nR3 := kc hk nR3
        replace nR4 := kc hk nR4
        replace H1 := Lib.hid (H1.out.kept0 hk)
        replace H2 := Lib.hid (H2.out.kept0 hk)
        replace H3 := Lib.hid (H3.out.kept0 hk)
        replace H4 := Lib.hid (H4.out.kept0 hk)
        replace KT := Lib.hid (KT.out.trans0 hk)
        clear hk
        have tA0 := nA0.out
        have tA1 := nA1.out
        have tA2 := nA2.out
        have tA3 := nA3.out
        have tB0 := nB0.out
        have tB1 := nB1.out
        have tB2 := nB2.out
        have tB3 := nB3.out
        go_wp2_with fail
        clear tA0 tA1 tA2 tA3 tB0 tB1 tB2 tB3
        refine (hasZero_any _ _ _ _ _ _ _ _ _ _ H3.out B3.out).mono ?_
        rintro e ww2 ⟨rfl, hk⟩
        rw [HZ0.out]
        have z2 := hk.size
        replace fR0 := kf hk nR0 fR0
        replace fR1 := kf hk nR1 fR1
        replace fR2 := kf hk nR2 fR2
        replace fR3 := kf hk nR3 fR3
        replace fR4 := kf hk nR4 fR4
        replace nA0 := kc hk nA0
        replace nA1 := kc hk nA1
        replace nA2 := kc hk nA2
        replace nA3 := kc hk nA3
        replace nB0 := kc hk nB0
        replace nB1 := kc hk nB1
        replace nB2 := kc hk nB2
        replace nB3 := kc hk nB3
        replace nR0 := kc hk nR0
        replace nR1 := kc hk nR1
        replace nR2 := kc hk nR2
        replace nR3 := kc hk nR3
        replace nR4 := kc hk nR4
        replace H1 := Lib.hid (H1.out.kept0 hk)
        replace H2 := Lib.hid (H2.out.kept0 hk)
        replace H3 := Lib.hid (H3.out.kept0 hk)
        replace H4 := Lib.hid (H4.out.kept0 hk)
        replace KT := Lib.hid (KT.out.trans0 hk)
        clear hk
        have tA0 := nA0.out
        have tA1 := nA1.out
        have tA2 := nA2.out
        have tA3 := nA3.out
        go_upto_region 6 with fail
        go_cut [8] (fun s wx => Hid (Box4 ww2 u1 u2 s wx))
        case first =>
          go_region_held3 (fun w' => w'.cell? ⟨w.heap.size, 0, none⟩ = some (.bool p) ∧ w'.cell? ⟨w.heap.size, 1, none⟩ = some (.slice a n c) ∧ w'.cell? ⟨w.heap.size, 2, none⟩ = some (.bool q) ∧ w'.cell? ⟨w.heap.size, 3, none⟩ = some (.slice b m d) ∧ Hid (Kept [] ww2 w'))
            ((go_split_ands; (try refine ⟨?_, ?_, ?_, ?_, ?_⟩) <;> with_reducible first | assumption | exact Kept.set4n (by assumption) (by omega) | exact cell_set4 (by assumption) (by (try dsimp only); omega) | exact drew_alloc_cell (by assumption) | exact drew_cell (by assumption) | exact Kept.allocH (by assumption) | exact alloc_cell (by assumption) | exact Lib.hid (Kept.trans0 (Hid.out (by assumption)) (by assumption)) | exact Kept.cell (by assumption) (by assumption) (by simp) | exact Lib.hid ((Kept.refl _ _).drew) | exact Lib.hid (((Kept.refl _ _).alloc _).drew)))
            (first
              | (go_at_call 25; with_reducible show Calls _ _ #[_, Value.agg #[Value.bool p, Value.slice a n c]] _ _; go_split_ands; refine (inUnits_any k _ _ _ _ _ u1 _ hk96 (H1.out.kept0 (Hid.out (by assumption))) B1.out (by omega) HU1.out).mono ?_; intro e v1 hh; unfold BigV at hh; obtain ⟨b1, hh⟩ := hh; obtain ⟨cc1, hh, hs1, hf1, hk1⟩ := hh; subst hh; have zk1 := hk1.size; (try simp only [World.size_drew, World.size_alloc] at zk1); (first | (obtain ⟨z0_, y0_, _⟩ := hk1.undrew.top (g := ww2.heap.size) rfl (by simp) 0 (v := .bool false) rfl; obtain ⟨z1_, y1_, _⟩ := hk1.undrew.top (g := ww2.heap.size) rfl (by simp) 1 (v := .slice none 0 0) rfl; obtain ⟨z2_, y2_, _⟩ := hk1.undrew.top (g := ww2.heap.size) rfl (by simp) 2 (v := .bool false) rfl; obtain ⟨z3_, y3_, _⟩ := hk1.undrew.top (g := ww2.heap.size) rfl (by simp) 3 (v := .slice none 0 0) rfl) | skip))
              | (go_at_call 25; with_reducible show Calls _ _ #[_, Value.agg #[Value.bool q, Value.slice b m d]] _ _; go_split_ands; refine (inUnits_any k _ _ _ _ _ u2 _ hk96 (H2.out.kept0 (Hid.out (by assumption))) B2.out (by omega) HU2.out).mono ?_; intro e v2 hh; unfold BigV at hh; obtain ⟨b2, hh⟩ := hh; obtain ⟨cc2, hh, hs2, hf2, hk2⟩ := hh; subst hh; have zk2 := hk2.size; (try simp only [World.size_alloc] at zk2); have hl1 := hs1.lt; have hs1 := hs1.kept0 (show Kept [] _ v2 by first | exact hk2 | exact Kept.trans0 ((Kept.refl [] _).alloc _) hk2); have sck := Lib.hid (Kept.trans0 (Hid.out (by assumption : Hid (Kept [] ww2 _))) hk2); have sc0 : v2.cell? ⟨w.heap.size, 0, none⟩ = some (.bool p) := hk2.cell (by assumption) (by simp); have sc1 : v2.cell? ⟨w.heap.size, 1, none⟩ = some (.slice a n c) := hk2.cell (by assumption) (by simp); have sc2 : v2.cell? ⟨w.heap.size, 2, none⟩ = some (.bool q) := hk2.cell (by assumption) (by simp); have sc3 : v2.cell? ⟨w.heap.size, 3, none⟩ = some (.slice b m d) := hk2.cell (by assumption) (by simp); (first | (obtain ⟨z0_, y0_, _⟩ := hk2.top (g := v1.heap.size) rfl (by simp) 0 (v := .bool false) rfl; obtain ⟨z1_, y1_, _⟩ := hk2.top (g := v1.heap.size) rfl (by simp) 1 (v := .slice none 0 0) rfl; obtain ⟨z2_, y2_, _⟩ := hk2.top (g := v1.heap.size) rfl (by simp) 2 (v := .bool false) rfl; obtain ⟨z3_, y3_, _⟩ := hk2.top (g := v1.heap.size) rfl (by simp) 3 (v := .slice none 0 0) rfl) | (replace y0_ := hk2.free' z0_ y0_ (by simp); replace y1_ := hk2.free' z1_ y1_ (by simp); replace y2_ := hk2.free' z2_ y2_ (by simp); replace y3_ := hk2.free' z3_ y3_ (by simp); replace z0_ := hk2.cell z0_ (by simp); replace z1_ := hk2.cell z1_ (by simp); replace z2_ := hk2.cell z2_ (by simp); replace z3_ := hk2.cell z3_ (by simp)) | skip)))
          all_goals
            go_wp2_with fail
            go_meet
            first | (with_reducible refine Lib.hid (box4_last hs1 hs2 sck)) | ((with_reducible refine Lib.hid (box4_set ?_ ?_ ?_ hs1 hs2 z0_ z1_ z2_ z3_ sck)); ((try simp only [World.size_drew]); (try simp only [World.size_alloc]); omega); (intro hn9 x9 hx9; have h9 := hf1 hn9 x9 hx9; have h8 := hl1 hn9 x9 hx9; (try simp only [World.size_drew] at h9); (try simp only [World.size_alloc] at h9); omega); (intro hn9 x9 hx9; have h9 := hf2 hn9 x9 hx9; (try simp only [World.size_drew] at h9); (try simp only [World.size_alloc] at h9); omega))
        case rest =>
        have hc := hcut.out
        clear hcut
        clear tA0 tA1 tA2 tA3
        obtain ⟨gC, b1, cc1, b2, cc2, rfl, e0, e1, e2, e3, hgC, hglC, hs1, hs2, hk⟩ := hc
        obtain ⟨ww3, rfl⟩ : ∃ w' : World, w' = wc := ⟨_, rfl⟩
        have z3 := hk.size
        replace fR0 := kf hk nR0 fR0
        replace fR1 := kf hk nR1 fR1
        replace fR2 := kf hk nR2 fR2
        replace fR3 := kf hk nR3 fR3
        replace fR4 := kf hk nR4 fR4
        replace nA0 := kc hk nA0
        replace nA1 := kc hk nA1
        replace nA2 := kc hk nA2
        replace nA3 := kc hk nA3
        replace nB0 := kc hk nB0
        replace nB1 := kc hk nB1
        replace nB2 := kc hk nB2
        replace nB3 := kc hk nB3
        replace nR0 := kc hk nR0
        replace nR1 := kc hk nR1
        replace nR2 := kc hk nR2
        replace nR3 := kc hk nR3
        replace nR4 := kc hk nR4
        replace H1 := Lib.hid (H1.out.kept0 hk)
        replace H2 := Lib.hid (H2.out.kept0 hk)
        replace H3 := Lib.hid (H3.out.kept0 hk)
        replace H4 := Lib.hid (H4.out.kept0 hk)
        replace KT := Lib.hid (KT.out.trans0 hk)
        clear hk
        have nC0 := Lib.hid e0
        have nC1 := Lib.hid e1
        have nC2 := Lib.hid e2
        have nC3 := Lib.hid e3
        clear e0 e1 e2 e3
        have S1 := Lib.hid hs1
        have S2 := Lib.hid hs2
        clear hs1 hs2
        have tC0 := nC0.out
        have tC1 := nC1.out
        have tC2 := nC2.out
        have tC3 := nC3.out
        have tB0 := nB0.out
        have tB1 := nB1.out
        have tB2 := nB2.out
        have tB3 := nB3.out
        have kr := Lib.hid (Kept.refl [] ww3)
        go_upto_region 7 with fail
        go_cut [9, 10] (fun s s' wx => Hid (Two8 ww3 f1_ f2_ f3_ f4_ h1_ h2_ h3_ h4_ s s' wx))
        case first =>
          have hHeld : RdD ww3 gC (w.heap.size + 1) (.bool (isNeg u1)) (.slice b1 (mag u1).length cc1) (.bool (isNeg u2)) (.slice b2 (mag u2).length cc2) (.bool p') (.slice a' n' c') (.bool q') (.slice b' m' d') ww3.drew := ⟨tC0, tC1, tC2, tC3, tB0, tB1, tB2, tB3, (Kept.refl [] ww3).drew⟩
          have l7 := World.block_lt_of_cell? ww3 _ tC0; have l8 := World.block_lt_of_cell? ww3 _ tB0; dsimp only at l7 l8
          have hM : Mk ww3 51 [] [] ww3.drew := ⟨(Kept.refl [] ww3).drew, (fun g hg => by cases hg), (fun t ht => by cases ht), (fun g hg => by cases hg)⟩
          clear tC0 tC1 tC2 tC3 tB0 tB1 tB2 tB3
          refine wp_region_held_drew (S := RdD ww3 gC (w.heap.size + 1) (.bool (isNeg u1)) (.slice b1 (mag u1).length cc1) (.bool (isNeg u2)) (.slice b2 (mag u2).length cc2) (.bool p') (.slice a' n' c') (.bool q') (.slice b' m' d')) (by kernel_rfl) hHeld (fun hHeld => ?_)
          refine take_d (i := 0) (d := 32) (v := Value.agg #[.bool (isNeg u1), .slice b1 (mag u1).length cc1, .bool (isNeg u2), .slice b2 (mag u2).length cc2]) rfl rfl (by kernel_rfl) (by kernel_rfl) (by kernel_rfl) (fun _ _ _ h => h) (by rfl) ?_ hHeld ?_
          · intro w9 hS9; obtain ⟨t0, t1, t2, t3, s0, s1, s2, s3, _⟩ := hS9; go_simp
          simp only [List.setIfInBounds_toArray, List.set_cons_zero, List.set_cons_succ]
          refine take_d (i := 1) (d := 33) (v := Value.agg #[.bool p', .slice a' n' c', .bool q', .slice b' m' d']) rfl rfl (by kernel_rfl) (by kernel_rfl) (by kernel_rfl) (fun _ _ _ h => h) (by rfl) ?_ hHeld ?_
          · intro w9 hS9; obtain ⟨t0, t1, t2, t3, s0, s1, s2, s3, _⟩ := hS9; go_simp
          simp only [List.setIfInBounds_toArray, List.set_cons_zero, List.set_cons_succ]
          refine take_d (i := 3) (d := 35) (v := Value.agg #[.bool (isNeg u1), .slice b1 (mag u1).length cc1, .bool (isNeg u2), .slice b2 (mag u2).length cc2]) rfl rfl (by kernel_rfl) (by kernel_rfl) (by kernel_rfl) (fun _ _ _ h => h) (by rfl) ?_ hHeld ?_
          · intro w9 hS9; obtain ⟨t0, t1, t2, t3, s0, s1, s2, s3, _⟩ := hS9; go_simp
          simp only [List.setIfInBounds_toArray, List.set_cons_zero, List.set_cons_succ]
          refine take_d (i := 4) (d := 36) (v := Value.agg #[.bool p', .slice a' n' c', .bool q', .slice b' m' d']) rfl rfl (by kernel_rfl) (by kernel_rfl) (by kernel_rfl) (fun _ _ _ h => h) (by rfl) ?_ hHeld ?_
          · intro w9 hS9; obtain ⟨t0, t1, t2, t3, s0, s1, s2, s3, _⟩ := hS9; go_simp
          simp only [List.setIfInBounds_toArray, List.set_cons_zero, List.set_cons_succ]
          refine two_phase 2 #[true, true, true, true, true, true, true, true, false, false] (fun a0 a w9 => ∃ (gX gY : Nat) (gs : List Nat) (bf1 : Option Addr) (cf1 : Nat) (bf2 : Option Addr) (cf2 : Nat) (bf3 : Option Addr) (cf3 : Nat) (bf4 : Option Addr) (cf4 : Nat) (bh1 : Option Addr) (ch1 : Nat) (bh2 : Option Addr) (ch2 : Nat) (bh3 : Option Addr) (ch3 : Nat) (bh4 : Option Addr) (ch4 : Nat), a = (((a0.put (some 34) (Value.agg #[.bool (isNeg f1_), .slice bf1 (mag f1_).length cf1, .bool (isNeg f2_), .slice bf2 (mag f2_).length cf2, .bool (isNeg f3_), .slice bf3 (mag f3_).length cf3, .bool (isNeg f4_), .slice bf4 (mag f4_).length cf4])).put (some 37) (Value.agg #[.bool (isNeg h1_), .slice bh1 (mag h1_).length ch1, .bool (isNeg h2_), .slice bh2 (mag h2_).length ch2, .bool (isNeg h3_), .slice bh3 (mag h3_).length ch3, .bool (isNeg h4_), .slice bh4 (mag h4_).length ch4])).put (some 9) (.pointer (some ⟨gX, 0, none⟩))).put (some 10) (.pointer (some ⟨gY, 0, none⟩)) ∧ RdD ww3 gC (w.heap.size + 1) (.bool (isNeg u1)) (.slice b1 (mag u1).length cc1) (.bool (isNeg u2)) (.slice b2 (mag u2).length cc2) (.bool p') (.slice a' n' c') (.bool q') (.slice b' m' d') w9 ∧ Mk ww3 51 gs ([(bh1, ch1, h1_), (bh2, ch2, h2_), (bh3, ch3, h3_), (bh4, ch4, h4_)] ++ ([(bf1, cf1, f1_), (bf2, cf2, f2_), (bf3, cf3, f3_), (bf4, cf4, f4_)] ++ [])) w9 ∧ gX ∈ gs ∧ gY ∈ gs ∧ gX ≠ gY) ?_ (fun hleaf => ?_)
          focus
            clear hHeld hM
            rintro a9 W9 ⟨gX, gY, gs, bf1, cf1, bf2, cf2, bf3, cf3, bf4, cf4, bh1, ch1, bh2, ch2, bh3, ch3, bh4, ch4, rfl, hHeld, hM, gX9, gY9, hne⟩
            simp only [Act.put, List.setIfInBounds_toArray, List.set_cons_zero, List.set_cons_succ]
            have mX := (hM.2.1 gX gX9); have mY := (hM.2.1 gY gY9)
            obtain ⟨d0, d1, d2, d3, d4, d5, d6, d7⟩ := z8_cells mX.2; obtain ⟨i0, i1, i2, i3, i4, i5, i6, i7⟩ := z8_free mX.2
            refine wpAnyH_ready (rs := [8]) (by kernel_rfl) (by simp) ?_
            refine AllReadyH.cons rfl (fun K hK => ?_) AllReadyH.nil
            go_simp
            clear d0 d1 d2 d3 d4 d5 d6 d7 i0 i1 i2 i3 i4 i5 i6 i7
            have kX : Kept [gX] W9 (put8 W9 gX f1_ f2_ f3_ f4_ bf1 bf2 bf3 bf4 cf1 cf2 cf3 cf4) := (Kept.set8 (Lib.hid (Kept.refl [gX] W9))).out
            have eY : (put8 W9 gX f1_ f2_ f3_ f4_ bf1 bf2 bf3 bf4 cf1 cf2 cf3 cf4).heap[gY]? = some (.cells Z8 51 (0, 0)) := set8_heap_other (Ne.symm hne) mY.2
            refine hK.out _ (put8 W9 gX f1_ f2_ f3_ f4_ bf1 bf2 bf3 bf4 cf1 cf2 cf3 cf4) (hHeld.set kX mX.1 l7 l8) (fun hHeld => ?_)
            clear hK
            try simp only [List.setIfInBounds_toArray, List.set_cons_zero, List.set_cons_succ]
            obtain ⟨V9, hV9⟩ : ∃ v, v = (put8 W9 gX f1_ f2_ f3_ f4_ bf1 bf2 bf3 bf4 cf1 cf2 cf3 cf4) := ⟨_, rfl⟩
            rw [← hV9] at hHeld eY ⊢
            obtain ⟨d0, d1, d2, d3, d4, d5, d6, d7⟩ := z8_cells eY; obtain ⟨i0, i1, i2, i3, i4, i5, i6, i7⟩ := z8_free eY
            have HV9 := Lib.hid hV9; clear hV9 eY
            refine wpAnyH_ready (rs := [9]) (by kernel_rfl) (by simp) ?_
            refine AllReadyH.cons rfl (fun K hK => ?_) AllReadyH.nil
            go_simp
            clear d0 d1 d2 d3 d4 d5 d6 d7 i0 i1 i2 i3 i4 i5 i6 i7
            refine hK.out _ (put8 V9 gY h1_ h2_ h3_ h4_ bh1 bh2 bh3 bh4 ch1 ch2 ch3 ch4) (hHeld.set (Kept.set8 (Lib.hid (Kept.refl [gY] V9))).out mY.1 l7 l8) (fun hHeld => ?_)
            clear hK
            try simp only [List.setIfInBounds_toArray, List.set_cons_zero, List.set_cons_succ]
            refine wpAnyH_done (by kernel_rfl) ?_ _
            have hT := two8_mk hM (g := gX) (g' := gY) gX9 gY9 hne of1 of2 of3 of4 oh1 oh2 oh3 oh4
            rw [← HV9.out] at hT
            go_wp2_with fail
            go_meet
            exact Lib.hid hT
          generalize hWd : ww3.drew = wd9 at hHeld hM ⊢; clear hWd
          refine wpAnyH_ready (rs := [2, 6, 7]) (by kernel_rfl) (by simp) ?_
          refine AllReadyH.cons rfl (fun K hK => ?_) (AllReadyH.cons rfl (fun K hK => ?_) (AllReadyH.cons rfl (fun K hK => ?_) AllReadyH.nil))
          · skip
            go_simp
            refine (cornersOf_FloorDiv _ _ _ _ _ _ _ _ _ _ _ _ _ _ _ _ _ _ _ _ f1_ f2_ f3_ f4_ _ (S1.out.kept0 hM.1) (S2.out.kept0 hM.1) (H3.out.kept0 hM.1) (H4.out.kept0 hM.1) BU1.out BU2.out B3.out B4.out (by omega) (by omega) ZZ3.out ZZ4.out Hf1.out Hf2.out Hf3.out Hf4.out).mono ?_
            intro e y1_ hh; unfold FourF at hh; obtain ⟨bf1, cf1, bf2, cf2, bf3, cf3, bf4, cf4, hh, s1, s2, s3, s4, g1, g2, g3, g4, hk1⟩ := hh; subst hh
            refine hK.out _ _ (hHeld.kept hk1) (fun hHeld => ?_)
            have hzy1_ := hk1.size; (try simp only [World.size_drew] at hzy1_)
            replace hM := hM.call (l' := [(bf1, cf1, f1_), (bf2, cf2, f2_), (bf3, cf3, f3_), (bf4, cf4, f4_)]) hk1 (all4 s1 s2 s3 s4) (fr4 g1 g2 g3 g4)
            clear hK s1 s2 s3 s4 g1 g2 g3 g4 hk1
            try simp only [Act.put, List.setIfInBounds_toArray, List.set_cons_zero, List.set_cons_succ]
            refine wpAnyH_ready (rs := [5, 6, 7]) (by kernel_rfl) (by simp) ?_
            refine AllReadyH.cons rfl (fun K hK => ?_) (AllReadyH.cons rfl (fun K hK => ?_) (AllReadyH.cons rfl (fun K hK => ?_) AllReadyH.nil))
            · skip
              go_simp
              refine (cornersOf_CeilDiv _ _ _ _ _ _ _ _ _ _ _ _ _ _ _ _ _ _ _ _ h1_ h2_ h3_ h4_ _ (S1.out.kept0 hM.1) (S2.out.kept0 hM.1) (H3.out.kept0 hM.1) (H4.out.kept0 hM.1) BU1.out BU2.out B3.out B4.out (by omega) (by omega) ZZ3.out ZZ4.out Hh1.out Hh2.out Hh3.out Hh4.out).mono ?_
              intro e y2_ hh; unfold FourF at hh; obtain ⟨bh1, ch1, bh2, ch2, bh3, ch3, bh4, ch4, hh, s1, s2, s3, s4, g1, g2, g3, g4, hk1⟩ := hh; subst hh
              refine hK.out _ _ (hHeld.kept hk1) (fun hHeld => ?_)
              have hzy2_ := hk1.size; (try simp only [World.size_drew] at hzy2_)
              replace hM := hM.call (l' := [(bh1, ch1, h1_), (bh2, ch2, h2_), (bh3, ch3, h3_), (bh4, ch4, h4_)]) hk1 (all4 s1 s2 s3 s4) (fr4 g1 g2 g3 g4)
              clear hK s1 s2 s3 s4 g1 g2 g3 g4 hk1
              try simp only [Act.put, List.setIfInBounds_toArray, List.set_cons_zero, List.set_cons_succ]
              refine wpAnyH_ready (rs := [6, 7]) (by kernel_rfl) (by simp) ?_
              refine AllReadyH.cons rfl (fun K hK => ?_) (AllReadyH.cons rfl (fun K hK => ?_) AllReadyH.nil)
              · skip
                go_simp
                refine hK.out _ _ (hHeld.kept ((Kept.refl [] _).alloc _)) (fun hHeld => ?_)
                clear hK
                try simp only [Act.put, List.setIfInBounds_toArray, List.set_cons_zero, List.set_cons_succ]
                replace hM := hM.alloc
                have hzy3_ : y2_.heap.size < (y2_.alloc (.cells Z8 51)).heap.size := by simp
                generalize hW : y2_.alloc (.cells _ 51) = y3_ at hHeld hM hzy3_ ⊢
                clear hW
                refine wpAnyH_ready (rs := [7]) (by kernel_rfl) (by simp) ?_
                refine AllReadyH.cons rfl (fun K hK => ?_) AllReadyH.nil
                go_simp
                refine hK.out _ _ (hHeld.kept ((Kept.refl [] _).alloc _)) (fun hHeld => ?_)
                clear hK
                try simp only [Act.put, List.setIfInBounds_toArray, List.set_cons_zero, List.set_cons_succ]
                replace hM := hM.alloc
                have hzy4_ : y3_.heap.size < (y3_.alloc (.cells Z8 51)).heap.size := by simp
                generalize hW : y3_.alloc (.cells _ 51) = y4_ at hHeld hM hzy4_ ⊢
                clear hW
                refine hleaf _ _ ⟨y2_.heap.size, y3_.heap.size, _, bf1, cf1, bf2, cf2, bf3, cf3, bf4, cf4, bh1, ch1, bh2, ch2, bh3, ch3, bh4, ch4, rfl, hHeld, hM, by simp, by simp, by (try simp only [World.size_drew]); omega⟩
              · skip
                go_simp
                refine hK.out _ _ (hHeld.kept ((Kept.refl [] _).alloc _)) (fun hHeld => ?_)
                clear hK
                try simp only [Act.put, List.setIfInBounds_toArray, List.set_cons_zero, List.set_cons_succ]
                replace hM := hM.alloc
                have hzy5_ : y2_.heap.size < (y2_.alloc (.cells Z8 51)).heap.size := by simp
                generalize hW : y2_.alloc (.cells _ 51) = y5_ at hHeld hM hzy5_ ⊢
                clear hW
                refine wpAnyH_ready (rs := [6]) (by kernel_rfl) (by simp) ?_
                refine AllReadyH.cons rfl (fun K hK => ?_) AllReadyH.nil
                go_simp
                refine hK.out _ _ (hHeld.kept ((Kept.refl [] _).alloc _)) (fun hHeld => ?_)
                clear hK
                try simp only [Act.put, List.setIfInBounds_toArray, List.set_cons_zero, List.set_cons_succ]
                replace hM := hM.alloc
                have hzy6_ : y5_.heap.size < (y5_.alloc (.cells Z8 51)).heap.size := by simp
                generalize hW : y5_.alloc (.cells _ 51) = y6_ at hHeld hM hzy6_ ⊢
                clear hW
                refine hleaf _ _ ⟨y5_.heap.size, y2_.heap.size, _, bf1, cf1, bf2, cf2, bf3, cf3, bf4, cf4, bh1, ch1, bh2, ch2, bh3, ch3, bh4, ch4, rfl, hHeld, hM, by simp, by simp, by (try simp only [World.size_drew]); omega⟩
            · skip
              go_simp
              refine hK.out _ _ (hHeld.kept ((Kept.refl [] _).alloc _)) (fun hHeld => ?_)
              clear hK
              try simp only [Act.put, List.setIfInBounds_toArray, List.set_cons_zero, List.set_cons_succ]
              replace hM := hM.alloc
              have hzy7_ : y1_.heap.size < (y1_.alloc (.cells Z8 51)).heap.size := by simp
              generalize hW : y1_.alloc (.cells _ 51) = y7_ at hHeld hM hzy7_ ⊢
              clear hW
              refine wpAnyH_ready (rs := [5, 7]) (by kernel_rfl) (by simp) ?_
              refine AllReadyH.cons rfl (fun K hK => ?_) (AllReadyH.cons rfl (fun K hK => ?_) AllReadyH.nil)
              · skip
                go_simp
                refine (cornersOf_CeilDiv _ _ _ _ _ _ _ _ _ _ _ _ _ _ _ _ _ _ _ _ h1_ h2_ h3_ h4_ _ (S1.out.kept0 hM.1) (S2.out.kept0 hM.1) (H3.out.kept0 hM.1) (H4.out.kept0 hM.1) BU1.out BU2.out B3.out B4.out (by omega) (by omega) ZZ3.out ZZ4.out Hh1.out Hh2.out Hh3.out Hh4.out).mono ?_
                intro e y8_ hh; unfold FourF at hh; obtain ⟨bh1, ch1, bh2, ch2, bh3, ch3, bh4, ch4, hh, s1, s2, s3, s4, g1, g2, g3, g4, hk1⟩ := hh; subst hh
                refine hK.out _ _ (hHeld.kept hk1) (fun hHeld => ?_)
                have hzy8_ := hk1.size; (try simp only [World.size_drew] at hzy8_)
                replace hM := hM.call (l' := [(bh1, ch1, h1_), (bh2, ch2, h2_), (bh3, ch3, h3_), (bh4, ch4, h4_)]) hk1 (all4 s1 s2 s3 s4) (fr4 g1 g2 g3 g4)
                clear hK s1 s2 s3 s4 g1 g2 g3 g4 hk1
                try simp only [Act.put, List.setIfInBounds_toArray, List.set_cons_zero, List.set_cons_succ]
                refine wpAnyH_ready (rs := [7]) (by kernel_rfl) (by simp) ?_
                refine AllReadyH.cons rfl (fun K hK => ?_) AllReadyH.nil
                go_simp
                refine hK.out _ _ (hHeld.kept ((Kept.refl [] _).alloc _)) (fun hHeld => ?_)
                clear hK
                try simp only [Act.put, List.setIfInBounds_toArray, List.set_cons_zero, List.set_cons_succ]
                replace hM := hM.alloc
                have hzy9_ : y8_.heap.size < (y8_.alloc (.cells Z8 51)).heap.size := by simp
                generalize hW : y8_.alloc (.cells _ 51) = y9_ at hHeld hM hzy9_ ⊢
                clear hW
                refine hleaf _ _ ⟨y1_.heap.size, y8_.heap.size, _, bf1, cf1, bf2, cf2, bf3, cf3, bf4, cf4, bh1, ch1, bh2, ch2, bh3, ch3, bh4, ch4, rfl, hHeld, hM, by simp, by simp, by (try simp only [World.size_drew]); omega⟩
              · skip
                go_simp
                refine hK.out _ _ (hHeld.kept ((Kept.refl [] _).alloc _)) (fun hHeld => ?_)
                clear hK
                try simp only [Act.put, List.setIfInBounds_toArray, List.set_cons_zero, List.set_cons_succ]
                replace hM := hM.alloc
                have hzy10_ : y7_.heap.size < (y7_.alloc (.cells Z8 51)).heap.size := by simp
                generalize hW : y7_.alloc (.cells _ 51) = y10_ at hHeld hM hzy10_ ⊢
                clear hW
                refine wpAnyH_ready (rs := [5]) (by kernel_rfl) (by simp) ?_
                refine AllReadyH.cons rfl (fun K hK => ?_) AllReadyH.nil
                go_simp
                refine (cornersOf_CeilDiv _ _ _ _ _ _ _ _ _ _ _ _ _ _ _ _ _ _ _ _ h1_ h2_ h3_ h4_ _ (S1.out.kept0 hM.1) (S2.out.kept0 hM.1) (H3.out.kept0 hM.1) (H4.out.kept0 hM.1) BU1.out BU2.out B3.out B4.out (by omega) (by omega) ZZ3.out ZZ4.out Hh1.out Hh2.out Hh3.out Hh4.out).mono ?_
                intro e y11_ hh; unfold FourF at hh; obtain ⟨bh1, ch1, bh2, ch2, bh3, ch3, bh4, ch4, hh, s1, s2, s3, s4, g1, g2, g3, g4, hk1⟩ := hh; subst hh
                refine hK.out _ _ (hHeld.kept hk1) (fun hHeld => ?_)
                have hzy11_ := hk1.size; (try simp only [World.size_drew] at hzy11_)
                replace hM := hM.call (l' := [(bh1, ch1, h1_), (bh2, ch2, h2_), (bh3, ch3, h3_), (bh4, ch4, h4_)]) hk1 (all4 s1 s2 s3 s4) (fr4 g1 g2 g3 g4)
                clear hK s1 s2 s3 s4 g1 g2 g3 g4 hk1
                try simp only [Act.put, List.setIfInBounds_toArray, List.set_cons_zero, List.set_cons_succ]
                refine hleaf _ _ ⟨y1_.heap.size, y7_.heap.size, _, bf1, cf1, bf2, cf2, bf3, cf3, bf4, cf4, bh1, ch1, bh2, ch2, bh3, ch3, bh4, ch4, rfl, hHeld, hM, by simp, by simp, by (try simp only [World.size_drew]); omega⟩
            · skip
              go_simp
              refine hK.out _ _ (hHeld.kept ((Kept.refl [] _).alloc _)) (fun hHeld => ?_)
              clear hK
              try simp only [Act.put, List.setIfInBounds_toArray, List.set_cons_zero, List.set_cons_succ]
              replace hM := hM.alloc
              have hzy12_ : y1_.heap.size < (y1_.alloc (.cells Z8 51)).heap.size := by simp
              generalize hW : y1_.alloc (.cells _ 51) = y12_ at hHeld hM hzy12_ ⊢
              clear hW
              refine wpAnyH_ready (rs := [5, 6]) (by kernel_rfl) (by simp) ?_
              refine AllReadyH.cons rfl (fun K hK => ?_) (AllReadyH.cons rfl (fun K hK => ?_) AllReadyH.nil)
              · skip
                go_simp
                refine (cornersOf_CeilDiv _ _ _ _ _ _ _ _ _ _ _ _ _ _ _ _ _ _ _ _ h1_ h2_ h3_ h4_ _ (S1.out.kept0 hM.1) (S2.out.kept0 hM.1) (H3.out.kept0 hM.1) (H4.out.kept0 hM.1) BU1.out BU2.out B3.out B4.out (by omega) (by omega) ZZ3.out ZZ4.out Hh1.out Hh2.out Hh3.out Hh4.out).mono ?_
                intro e y13_ hh; unfold FourF at hh; obtain ⟨bh1, ch1, bh2, ch2, bh3, ch3, bh4, ch4, hh, s1, s2, s3, s4, g1, g2, g3, g4, hk1⟩ := hh; subst hh
                refine hK.out _ _ (hHeld.kept hk1) (fun hHeld => ?_)
                have hzy13_ := hk1.size; (try simp only [World.size_drew] at hzy13_)
                replace hM := hM.call (l' := [(bh1, ch1, h1_), (bh2, ch2, h2_), (bh3, ch3, h3_), (bh4, ch4, h4_)]) hk1 (all4 s1 s2 s3 s4) (fr4 g1 g2 g3 g4)
                clear hK s1 s2 s3 s4 g1 g2 g3 g4 hk1
                try simp only [Act.put, List.setIfInBounds_toArray, List.set_cons_zero, List.set_cons_succ]
                refine wpAnyH_ready (rs := [6]) (by kernel_rfl) (by simp) ?_
                refine AllReadyH.cons rfl (fun K hK => ?_) AllReadyH.nil
                go_simp
                refine hK.out _ _ (hHeld.kept ((Kept.refl [] _).alloc _)) (fun hHeld => ?_)
                clear hK
                try simp only [Act.put, List.setIfInBounds_toArray, List.set_cons_zero, List.set_cons_succ]
                replace hM := hM.alloc
                have hzy14_ : y13_.heap.size < (y13_.alloc (.cells Z8 51)).heap.size := by simp
                generalize hW : y13_.alloc (.cells _ 51) = y14_ at hHeld hM hzy14_ ⊢
                clear hW
                refine hleaf _ _ ⟨y13_.heap.size, y1_.heap.size, _, bf1, cf1, bf2, cf2, bf3, cf3, bf4, cf4, bh1, ch1, bh2, ch2, bh3, ch3, bh4, ch4, rfl, hHeld, hM, by simp, by simp, by (try simp only [World.size_drew]); omega⟩
              · skip
                go_simp
                refine hK.out _ _ (hHeld.kept ((Kept.refl [] _).alloc _)) (fun hHeld => ?_)
                clear hK
                try simp only [Act.put, List.setIfInBounds_toArray, List.set_cons_zero, List.set_cons_succ]
                replace hM := hM.alloc
                have hzy15_ : y12_.heap.size < (y12_.alloc (.cells Z8 51)).heap.size := by simp
                generalize hW : y12_.alloc (.cells _ 51) = y15_ at hHeld hM hzy15_ ⊢
                clear hW
                refine wpAnyH_ready (rs := [5]) (by kernel_rfl) (by simp) ?_
                refine AllReadyH.cons rfl (fun K hK => ?_) AllReadyH.nil
                go_simp
                refine (cornersOf_CeilDiv _ _ _ _ _ _ _ _ _ _ _ _ _ _ _ _ _ _ _ _ h1_ h2_ h3_ h4_ _ (S1.out.kept0 hM.1) (S2.out.kept0 hM.1) (H3.out.kept0 hM.1) (H4.out.kept0 hM.1) BU1.out BU2.out B3.out B4.out (by omega) (by omega) ZZ3.out ZZ4.out Hh1.out Hh2.out Hh3.out Hh4.out).mono ?_
                intro e y16_ hh; unfold FourF at hh; obtain ⟨bh1, ch1, bh2, ch2, bh3, ch3, bh4, ch4, hh, s1, s2, s3, s4, g1, g2, g3, g4, hk1⟩ := hh; subst hh
                refine hK.out _ _ (hHeld.kept hk1) (fun hHeld => ?_)
                have hzy16_ := hk1.size; (try simp only [World.size_drew] at hzy16_)
                replace hM := hM.call (l' := [(bh1, ch1, h1_), (bh2, ch2, h2_), (bh3, ch3, h3_), (bh4, ch4, h4_)]) hk1 (all4 s1 s2 s3 s4) (fr4 g1 g2 g3 g4)
                clear hK s1 s2 s3 s4 g1 g2 g3 g4 hk1
                try simp only [Act.put, List.setIfInBounds_toArray, List.set_cons_zero, List.set_cons_succ]
                refine hleaf _ _ ⟨y12_.heap.size, y1_.heap.size, _, bf1, cf1, bf2, cf2, bf3, cf3, bf4, cf4, bh1, ch1, bh2, ch2, bh3, ch3, bh4, ch4, rfl, hHeld, hM, by simp, by simp, by (try simp only [World.size_drew]); omega⟩
          · skip
            go_simp
            refine hK.out _ _ (hHeld.kept ((Kept.refl [] _).alloc _)) (fun hHeld => ?_)
            clear hK
            try simp only [Act.put, List.setIfInBounds_toArray, List.set_cons_zero, List.set_cons_succ]
            replace hM := hM.alloc
            have hzy17_ : wd9.heap.size < (wd9.alloc (.cells Z8 51)).heap.size := by simp
            generalize hW : wd9.alloc (.cells _ 51) = y17_ at hHeld hM hzy17_ ⊢
            clear hW
            refine wpAnyH_ready (rs := [2, 7]) (by kernel_rfl) (by simp) ?_
            refine AllReadyH.cons rfl (fun K hK => ?_) (AllReadyH.cons rfl (fun K hK => ?_) AllReadyH.nil)
            · skip
              go_simp
              refine (cornersOf_FloorDiv _ _ _ _ _ _ _ _ _ _ _ _ _ _ _ _ _ _ _ _ f1_ f2_ f3_ f4_ _ (S1.out.kept0 hM.1) (S2.out.kept0 hM.1) (H3.out.kept0 hM.1) (H4.out.kept0 hM.1) BU1.out BU2.out B3.out B4.out (by omega) (by omega) ZZ3.out ZZ4.out Hf1.out Hf2.out Hf3.out Hf4.out).mono ?_
              intro e y18_ hh; unfold FourF at hh; obtain ⟨bf1, cf1, bf2, cf2, bf3, cf3, bf4, cf4, hh, s1, s2, s3, s4, g1, g2, g3, g4, hk1⟩ := hh; subst hh
              refine hK.out _ _ (hHeld.kept hk1) (fun hHeld => ?_)
              have hzy18_ := hk1.size; (try simp only [World.size_drew] at hzy18_)
              replace hM := hM.call (l' := [(bf1, cf1, f1_), (bf2, cf2, f2_), (bf3, cf3, f3_), (bf4, cf4, f4_)]) hk1 (all4 s1 s2 s3 s4) (fr4 g1 g2 g3 g4)
              clear hK s1 s2 s3 s4 g1 g2 g3 g4 hk1
              try simp only [Act.put, List.setIfInBounds_toArray, List.set_cons_zero, List.set_cons_succ]
              refine wpAnyH_ready (rs := [5, 7]) (by kernel_rfl) (by simp) ?_
              refine AllReadyH.cons rfl (fun K hK => ?_) (AllReadyH.cons rfl (fun K hK => ?_) AllReadyH.nil)
              · skip
                go_simp
                refine (cornersOf_CeilDiv _ _ _ _ _ _ _ _ _ _ _ _ _ _ _ _ _ _ _ _ h1_ h2_ h3_ h4_ _ (S1.out.kept0 hM.1) (S2.out.kept0 hM.1) (H3.out.kept0 hM.1) (H4.out.kept0 hM.1) BU1.out BU2.out B3.out B4.out (by omega) (by omega) ZZ3.out ZZ4.out Hh1.out Hh2.out Hh3.out Hh4.out).mono ?_
                intro e y19_ hh; unfold FourF at hh; obtain ⟨bh1, ch1, bh2, ch2, bh3, ch3, bh4, ch4, hh, s1, s2, s3, s4, g1, g2, g3, g4, hk1⟩ := hh; subst hh
                refine hK.out _ _ (hHeld.kept hk1) (fun hHeld => ?_)
                have hzy19_ := hk1.size; (try simp only [World.size_drew] at hzy19_)
                replace hM := hM.call (l' := [(bh1, ch1, h1_), (bh2, ch2, h2_), (bh3, ch3, h3_), (bh4, ch4, h4_)]) hk1 (all4 s1 s2 s3 s4) (fr4 g1 g2 g3 g4)
                clear hK s1 s2 s3 s4 g1 g2 g3 g4 hk1
                try simp only [Act.put, List.setIfInBounds_toArray, List.set_cons_zero, List.set_cons_succ]
                refine wpAnyH_ready (rs := [7]) (by kernel_rfl) (by simp) ?_
                refine AllReadyH.cons rfl (fun K hK => ?_) AllReadyH.nil
                go_simp
                refine hK.out _ _ (hHeld.kept ((Kept.refl [] _).alloc _)) (fun hHeld => ?_)
                clear hK
                try simp only [Act.put, List.setIfInBounds_toArray, List.set_cons_zero, List.set_cons_succ]
                replace hM := hM.alloc
                have hzy20_ : y19_.heap.size < (y19_.alloc (.cells Z8 51)).heap.size := by simp
                generalize hW : y19_.alloc (.cells _ 51) = y20_ at hHeld hM hzy20_ ⊢
                clear hW
                refine hleaf _ _ ⟨wd9.heap.size, y19_.heap.size, _, bf1, cf1, bf2, cf2, bf3, cf3, bf4, cf4, bh1, ch1, bh2, ch2, bh3, ch3, bh4, ch4, rfl, hHeld, hM, by simp, by simp, by (try simp only [World.size_drew]); omega⟩
              · skip
                go_simp
                refine hK.out _ _ (hHeld.kept ((Kept.refl [] _).alloc _)) (fun hHeld => ?_)
                clear hK
                try simp only [Act.put, List.setIfInBounds_toArray, List.set_cons_zero, List.set_cons_succ]
                replace hM := hM.alloc
                have hzy21_ : y18_.heap.size < (y18_.alloc (.cells Z8 51)).heap.size := by simp
                generalize hW : y18_.alloc (.cells _ 51) = y21_ at hHeld hM hzy21_ ⊢
                clear hW
                refine wpAnyH_ready (rs := [5]) (by kernel_rfl) (by simp) ?_
                refine AllReadyH.cons rfl (fun K hK => ?_) AllReadyH.nil
                go_simp
                refine (cornersOf_CeilDiv _ _ _ _ _ _ _ _ _ _ _ _ _ _ _ _ _ _ _ _ h1_ h2_ h3_ h4_ _ (S1.out.kept0 hM.1) (S2.out.kept0 hM.1) (H3.out.kept0 hM.1) (H4.out.kept0 hM.1) BU1.out BU2.out B3.out B4.out (by omega) (by omega) ZZ3.out ZZ4.out Hh1.out Hh2.out Hh3.out Hh4.out).mono ?_
                intro e y22_ hh; unfold FourF at hh; obtain ⟨bh1, ch1, bh2, ch2, bh3, ch3, bh4, ch4, hh, s1, s2, s3, s4, g1, g2, g3, g4, hk1⟩ := hh; subst hh
                refine hK.out _ _ (hHeld.kept hk1) (fun hHeld => ?_)
                have hzy22_ := hk1.size; (try simp only [World.size_drew] at hzy22_)
                replace hM := hM.call (l' := [(bh1, ch1, h1_), (bh2, ch2, h2_), (bh3, ch3, h3_), (bh4, ch4, h4_)]) hk1 (all4 s1 s2 s3 s4) (fr4 g1 g2 g3 g4)
                clear hK s1 s2 s3 s4 g1 g2 g3 g4 hk1
                try simp only [Act.put, List.setIfInBounds_toArray, List.set_cons_zero, List.set_cons_succ]
                refine hleaf _ _ ⟨wd9.heap.size, y18_.heap.size, _, bf1, cf1, bf2, cf2, bf3, cf3, bf4, cf4, bh1, ch1, bh2, ch2, bh3, ch3, bh4, ch4, rfl, hHeld, hM, by simp, by simp, by (try simp only [World.size_drew]); omega⟩
            · skip
              go_simp
              refine hK.out _ _ (hHeld.kept ((Kept.refl [] _).alloc _)) (fun hHeld => ?_)
              clear hK
              try simp only [Act.put, List.setIfInBounds_toArray, List.set_cons_zero, List.set_cons_succ]
              replace hM := hM.alloc
              have hzy23_ : y17_.heap.size < (y17_.alloc (.cells Z8 51)).heap.size := by simp
              generalize hW : y17_.alloc (.cells _ 51) = y23_ at hHeld hM hzy23_ ⊢
              clear hW
              refine wpAnyH_ready (rs := [2]) (by kernel_rfl) (by simp) ?_
              refine AllReadyH.cons rfl (fun K hK => ?_) AllReadyH.nil
              go_simp
              refine (cornersOf_FloorDiv _ _ _ _ _ _ _ _ _ _ _ _ _ _ _ _ _ _ _ _ f1_ f2_ f3_ f4_ _ (S1.out.kept0 hM.1) (S2.out.kept0 hM.1) (H3.out.kept0 hM.1) (H4.out.kept0 hM.1) BU1.out BU2.out B3.out B4.out (by omega) (by omega) ZZ3.out ZZ4.out Hf1.out Hf2.out Hf3.out Hf4.out).mono ?_
              intro e y24_ hh; unfold FourF at hh; obtain ⟨bf1, cf1, bf2, cf2, bf3, cf3, bf4, cf4, hh, s1, s2, s3, s4, g1, g2, g3, g4, hk1⟩ := hh; subst hh
              refine hK.out _ _ (hHeld.kept hk1) (fun hHeld => ?_)
              have hzy24_ := hk1.size; (try simp only [World.size_drew] at hzy24_)
              replace hM := hM.call (l' := [(bf1, cf1, f1_), (bf2, cf2, f2_), (bf3, cf3, f3_), (bf4, cf4, f4_)]) hk1 (all4 s1 s2 s3 s4) (fr4 g1 g2 g3 g4)
              clear hK s1 s2 s3 s4 g1 g2 g3 g4 hk1
              try simp only [Act.put, List.setIfInBounds_toArray, List.set_cons_zero, List.set_cons_succ]
              refine wpAnyH_ready (rs := [5]) (by kernel_rfl) (by simp) ?_
              refine AllReadyH.cons rfl (fun K hK => ?_) AllReadyH.nil
              go_simp
              refine (cornersOf_CeilDiv _ _ _ _ _ _ _ _ _ _ _ _ _ _ _ _ _ _ _ _ h1_ h2_ h3_ h4_ _ (S1.out.kept0 hM.1) (S2.out.kept0 hM.1) (H3.out.kept0 hM.1) (H4.out.kept0 hM.1) BU1.out BU2.out B3.out B4.out (by omega) (by omega) ZZ3.out ZZ4.out Hh1.out Hh2.out Hh3.out Hh4.out).mono ?_
              intro e y25_ hh; unfold FourF at hh; obtain ⟨bh1, ch1, bh2, ch2, bh3, ch3, bh4, ch4, hh, s1, s2, s3, s4, g1, g2, g3, g4, hk1⟩ := hh; subst hh
              refine hK.out _ _ (hHeld.kept hk1) (fun hHeld => ?_)
              have hzy25_ := hk1.size; (try simp only [World.size_drew] at hzy25_)
              replace hM := hM.call (l' := [(bh1, ch1, h1_), (bh2, ch2, h2_), (bh3, ch3, h3_), (bh4, ch4, h4_)]) hk1 (all4 s1 s2 s3 s4) (fr4 g1 g2 g3 g4)
              clear hK s1 s2 s3 s4 g1 g2 g3 g4 hk1
              try simp only [Act.put, List.setIfInBounds_toArray, List.set_cons_zero, List.set_cons_succ]
              refine hleaf _ _ ⟨wd9.heap.size, y17_.heap.size, _, bf1, cf1, bf2, cf2, bf3, cf3, bf4, cf4, bh1, ch1, bh2, ch2, bh3, ch3, bh4, ch4, rfl, hHeld, hM, by simp, by simp, by (try simp only [World.size_drew]); omega⟩
          · skip
            go_simp
            refine hK.out _ _ (hHeld.kept ((Kept.refl [] _).alloc _)) (fun hHeld => ?_)
            clear hK
            try simp only [Act.put, List.setIfInBounds_toArray, List.set_cons_zero, List.set_cons_succ]
            replace hM := hM.alloc
            have hzy26_ : wd9.heap.size < (wd9.alloc (.cells Z8 51)).heap.size := by simp
            generalize hW : wd9.alloc (.cells _ 51) = y26_ at hHeld hM hzy26_ ⊢
            clear hW
            refine wpAnyH_ready (rs := [2, 6]) (by kernel_rfl) (by simp) ?_
            refine AllReadyH.cons rfl (fun K hK => ?_) (AllReadyH.cons rfl (fun K hK => ?_) AllReadyH.nil)
            · skip
              go_simp
              refine (cornersOf_FloorDiv _ _ _ _ _ _ _ _ _ _ _ _ _ _ _ _ _ _ _ _ f1_ f2_ f3_ f4_ _ (S1.out.kept0 hM.1) (S2.out.kept0 hM.1) (H3.out.kept0 hM.1) (H4.out.kept0 hM.1) BU1.out BU2.out B3.out B4.out (by omega) (by omega) ZZ3.out ZZ4.out Hf1.out Hf2.out Hf3.out Hf4.out).mono ?_
              intro e y27_ hh; unfold FourF at hh; obtain ⟨bf1, cf1, bf2, cf2, bf3, cf3, bf4, cf4, hh, s1, s2, s3, s4, g1, g2, g3, g4, hk1⟩ := hh; subst hh
              refine hK.out _ _ (hHeld.kept hk1) (fun hHeld => ?_)
              have hzy27_ := hk1.size; (try simp only [World.size_drew] at hzy27_)
              replace hM := hM.call (l' := [(bf1, cf1, f1_), (bf2, cf2, f2_), (bf3, cf3, f3_), (bf4, cf4, f4_)]) hk1 (all4 s1 s2 s3 s4) (fr4 g1 g2 g3 g4)
              clear hK s1 s2 s3 s4 g1 g2 g3 g4 hk1
              try simp only [Act.put, List.setIfInBounds_toArray, List.set_cons_zero, List.set_cons_succ]
              refine wpAnyH_ready (rs := [5, 6]) (by kernel_rfl) (by simp) ?_
              refine AllReadyH.cons rfl (fun K hK => ?_) (AllReadyH.cons rfl (fun K hK => ?_) AllReadyH.nil)
              · skip
                go_simp
                refine (cornersOf_CeilDiv _ _ _ _ _ _ _ _ _ _ _ _ _ _ _ _ _ _ _ _ h1_ h2_ h3_ h4_ _ (S1.out.kept0 hM.1) (S2.out.kept0 hM.1) (H3.out.kept0 hM.1) (H4.out.kept0 hM.1) BU1.out BU2.out B3.out B4.out (by omega) (by omega) ZZ3.out ZZ4.out Hh1.out Hh2.out Hh3.out Hh4.out).mono ?_
                intro e y28_ hh; unfold FourF at hh; obtain ⟨bh1, ch1, bh2, ch2, bh3, ch3, bh4, ch4, hh, s1, s2, s3, s4, g1, g2, g3, g4, hk1⟩ := hh; subst hh
                refine hK.out _ _ (hHeld.kept hk1) (fun hHeld => ?_)
                have hzy28_ := hk1.size; (try simp only [World.size_drew] at hzy28_)
                replace hM := hM.call (l' := [(bh1, ch1, h1_), (bh2, ch2, h2_), (bh3, ch3, h3_), (bh4, ch4, h4_)]) hk1 (all4 s1 s2 s3 s4) (fr4 g1 g2 g3 g4)
                clear hK s1 s2 s3 s4 g1 g2 g3 g4 hk1
                try simp only [Act.put, List.setIfInBounds_toArray, List.set_cons_zero, List.set_cons_succ]
                refine wpAnyH_ready (rs := [6]) (by kernel_rfl) (by simp) ?_
                refine AllReadyH.cons rfl (fun K hK => ?_) AllReadyH.nil
                go_simp
                refine hK.out _ _ (hHeld.kept ((Kept.refl [] _).alloc _)) (fun hHeld => ?_)
                clear hK
                try simp only [Act.put, List.setIfInBounds_toArray, List.set_cons_zero, List.set_cons_succ]
                replace hM := hM.alloc
                have hzy29_ : y28_.heap.size < (y28_.alloc (.cells Z8 51)).heap.size := by simp
                generalize hW : y28_.alloc (.cells _ 51) = y29_ at hHeld hM hzy29_ ⊢
                clear hW
                refine hleaf _ _ ⟨y28_.heap.size, wd9.heap.size, _, bf1, cf1, bf2, cf2, bf3, cf3, bf4, cf4, bh1, ch1, bh2, ch2, bh3, ch3, bh4, ch4, rfl, hHeld, hM, by simp, by simp, by (try simp only [World.size_drew]); omega⟩
              · skip
                go_simp
                refine hK.out _ _ (hHeld.kept ((Kept.refl [] _).alloc _)) (fun hHeld => ?_)
                clear hK
                try simp only [Act.put, List.setIfInBounds_toArray, List.set_cons_zero, List.set_cons_succ]
                replace hM := hM.alloc
                have hzy30_ : y27_.heap.size < (y27_.alloc (.cells Z8 51)).heap.size := by simp
                generalize hW : y27_.alloc (.cells _ 51) = y30_ at hHeld hM hzy30_ ⊢
                clear hW
                refine wpAnyH_ready (rs := [5]) (by kernel_rfl) (by simp) ?_
                refine AllReadyH.cons rfl (fun K hK => ?_) AllReadyH.nil
                go_simp
                refine (cornersOf_CeilDiv _ _ _ _ _ _ _ _ _ _ _ _ _ _ _ _ _ _ _ _ h1_ h2_ h3_ h4_ _ (S1.out.kept0 hM.1) (S2.out.kept0 hM.1) (H3.out.kept0 hM.1) (H4.out.kept0 hM.1) BU1.out BU2.out B3.out B4.out (by omega) (by omega) ZZ3.out ZZ4.out Hh1.out Hh2.out Hh3.out Hh4.out).mono ?_
                intro e y31_ hh; unfold FourF at hh; obtain ⟨bh1, ch1, bh2, ch2, bh3, ch3, bh4, ch4, hh, s1, s2, s3, s4, g1, g2, g3, g4, hk1⟩ := hh; subst hh
                refine hK.out _ _ (hHeld.kept hk1) (fun hHeld => ?_)
                have hzy31_ := hk1.size; (try simp only [World.size_drew] at hzy31_)
                replace hM := hM.call (l' := [(bh1, ch1, h1_), (bh2, ch2, h2_), (bh3, ch3, h3_), (bh4, ch4, h4_)]) hk1 (all4 s1 s2 s3 s4) (fr4 g1 g2 g3 g4)
                clear hK s1 s2 s3 s4 g1 g2 g3 g4 hk1
                try simp only [Act.put, List.setIfInBounds_toArray, List.set_cons_zero, List.set_cons_succ]
                refine hleaf _ _ ⟨y27_.heap.size, wd9.heap.size, _, bf1, cf1, bf2, cf2, bf3, cf3, bf4, cf4, bh1, ch1, bh2, ch2, bh3, ch3, bh4, ch4, rfl, hHeld, hM, by simp, by simp, by (try simp only [World.size_drew]); omega⟩
            · skip
              go_simp
              refine hK.out _ _ (hHeld.kept ((Kept.refl [] _).alloc _)) (fun hHeld => ?_)
              clear hK
              try simp only [Act.put, List.setIfInBounds_toArray, List.set_cons_zero, List.set_cons_succ]
              replace hM := hM.alloc
              have hzy32_ : y26_.heap.size < (y26_.alloc (.cells Z8 51)).heap.size := by simp
              generalize hW : y26_.alloc (.cells _ 51) = y32_ at hHeld hM hzy32_ ⊢
              clear hW
              refine wpAnyH_ready (rs := [2]) (by kernel_rfl) (by simp) ?_
              refine AllReadyH.cons rfl (fun K hK => ?_) AllReadyH.nil
              go_simp
              refine (cornersOf_FloorDiv _ _ _ _ _ _ _ _ _ _ _ _ _ _ _ _ _ _ _ _ f1_ f2_ f3_ f4_ _ (S1.out.kept0 hM.1) (S2.out.kept0 hM.1) (H3.out.kept0 hM.1) (H4.out.kept0 hM.1) BU1.out BU2.out B3.out B4.out (by omega) (by omega) ZZ3.out ZZ4.out Hf1.out Hf2.out Hf3.out Hf4.out).mono ?_
              intro e y33_ hh; unfold FourF at hh; obtain ⟨bf1, cf1, bf2, cf2, bf3, cf3, bf4, cf4, hh, s1, s2, s3, s4, g1, g2, g3, g4, hk1⟩ := hh; subst hh
              refine hK.out _ _ (hHeld.kept hk1) (fun hHeld => ?_)
              have hzy33_ := hk1.size; (try simp only [World.size_drew] at hzy33_)
              replace hM := hM.call (l' := [(bf1, cf1, f1_), (bf2, cf2, f2_), (bf3, cf3, f3_), (bf4, cf4, f4_)]) hk1 (all4 s1 s2 s3 s4) (fr4 g1 g2 g3 g4)
              clear hK s1 s2 s3 s4 g1 g2 g3 g4 hk1
              try simp only [Act.put, List.setIfInBounds_toArray, List.set_cons_zero, List.set_cons_succ]
              refine wpAnyH_ready (rs := [5]) (by kernel_rfl) (by simp) ?_
              refine AllReadyH.cons rfl (fun K hK => ?_) AllReadyH.nil
              go_simp
              refine (cornersOf_CeilDiv _ _ _ _ _ _ _ _ _ _ _ _ _ _ _ _ _ _ _ _ h1_ h2_ h3_ h4_ _ (S1.out.kept0 hM.1) (S2.out.kept0 hM.1) (H3.out.kept0 hM.1) (H4.out.kept0 hM.1) BU1.out BU2.out B3.out B4.out (by omega) (by omega) ZZ3.out ZZ4.out Hh1.out Hh2.out Hh3.out Hh4.out).mono ?_
              intro e y34_ hh; unfold FourF at hh; obtain ⟨bh1, ch1, bh2, ch2, bh3, ch3, bh4, ch4, hh, s1, s2, s3, s4, g1, g2, g3, g4, hk1⟩ := hh; subst hh
              refine hK.out _ _ (hHeld.kept hk1) (fun hHeld => ?_)
              have hzy34_ := hk1.size; (try simp only [World.size_drew] at hzy34_)
              replace hM := hM.call (l' := [(bh1, ch1, h1_), (bh2, ch2, h2_), (bh3, ch3, h3_), (bh4, ch4, h4_)]) hk1 (all4 s1 s2 s3 s4) (fr4 g1 g2 g3 g4)
              clear hK s1 s2 s3 s4 g1 g2 g3 g4 hk1
              try simp only [Act.put, List.setIfInBounds_toArray, List.set_cons_zero, List.set_cons_succ]
              refine hleaf _ _ ⟨y26_.heap.size, wd9.heap.size, _, bf1, cf1, bf2, cf2, bf3, cf3, bf4, cf4, bh1, ch1, bh2, ch2, bh3, ch3, bh4, ch4, rfl, hHeld, hM, by simp, by simp, by (try simp only [World.size_drew]); omega⟩
        case rest =>
        have hc := hcut.out
        clear hcut tC0 tC1 tC2 tC3 tB0 tB1 tB2 tB3
        obtain ⟨g1, g2, b1, c1, b2, c2, b3, c3, b4, c4, a1, d1, a2, d2, a3, d3, a4, d4, rfl, rfl, hr1, ho1, hr2, ho2, hk⟩ := hc
        obtain ⟨ww4, rfl⟩ : ∃ w' : World, w' = wc := ⟨_, rfl⟩
        have z4 := hk.size
        replace fR0 := kf hk nR0 fR0
        replace fR1 := kf hk nR1 fR1
        replace fR2 := kf hk nR2 fR2
        replace fR3 := kf hk nR3 fR3
        replace fR4 := kf hk nR4 fR4
        replace nA0 := kc hk nA0
        replace nA1 := kc hk nA1
        replace nA2 := kc hk nA2
        replace nA3 := kc hk nA3
        replace nB0 := kc hk nB0
        replace nB1 := kc hk nB1
        replace nB2 := kc hk nB2
        replace nB3 := kc hk nB3
        replace nR0 := kc hk nR0
        replace nR1 := kc hk nR1
        replace nR2 := kc hk nR2
        replace nR3 := kc hk nR3
        replace nR4 := kc hk nR4
        replace H1 := Lib.hid (H1.out.kept0 hk)
        replace H2 := Lib.hid (H2.out.kept0 hk)
        replace H3 := Lib.hid (H3.out.kept0 hk)
        replace H4 := Lib.hid (H4.out.kept0 hk)
        replace nC0 := kc hk nC0
        replace nC1 := kc hk nC1
        replace nC2 := kc hk nC2
        replace nC3 := kc hk nC3
        replace S1 := Lib.hid (S1.out.kept0 hk)
        replace S2 := Lib.hid (S2.out.kept0 hk)
        replace KT := Lib.hid (KT.out.trans0 hk)
        clear hk
        clear S1 S2 nC0 nC1 nC2 nC3
        have hr1 := Lib.hid hr1
        have ho1 := Lib.hid ho1
        have hr2 := Lib.hid hr2
        have ho2 := Lib.hid ho2
        have kr := Lib.hid (Kept.refl [w.heap.size + 1 + 1] ww4)
        go_upto_region 8 with fail
        go_region_held3 (fun w' => Hid (Kept [w.heap.size + 1 + 1] ww4 w'))
          ((with_reducible first | exact Kept.set5 (by assumption) | exact Kept.drewH (by assumption) | exact Lib.hid (Kept.trans0 (Hid.out (by assumption)) (by assumption)) | exact Lib.hid ((Kept.refl _ _).drew)))
          (first
            | (go_at_call 30; with_reducible show Calls _ _ #[Value.func (Fn.func 31) #[] #[], _] _ _; go_split_ands; refine (leastOf_isBelow_four _ f1_ f2_ f3_ f4_ t1 _ _ _ _ _ _ _ _ _ (hr1.out.kept0 ((Kept.refl [] _).drew)) (ho1.out.kept0 ((Kept.refl [] _).drew)) HT1.out).mono ?_; intro e v1 hh; unfold BigN at hh; obtain ⟨a1, c1, hh, hs1, hk1⟩ := hh; subst hh)
            | (go_at_call 30; with_reducible show Calls _ _ #[Value.func (Fn.func 32) #[] #[], _] _ _; go_split_ands; refine (leastOf_isAbove_four _ h1_ h2_ h3_ h4_ t2 _ _ _ _ _ _ _ _ _ (hr2.out.kept0 (((Kept.refl [] _).drew).trans0 hk1)) (ho2.out.kept0 (((Kept.refl [] _).drew).trans0 hk1)) HT2.out).mono ?_; intro e v2 hh; unfold BigN at hh; obtain ⟨a2, c2, hh, hs2, hk2⟩ := hh; subst hh)
            | (go_at_call 29; go_split_ands; refine (spanResult_any _ _ _ _ _ _ _ _ _ (hs1.kept0 hk2) hs2).mono ?_; intro e v3 hh; unfold SpanR at hh; obtain ⟨a3, c3, b3, d3, hh, hs3, hs4, hf3, hf4, hne, hk3⟩ := hh; subst hh; have hkr := ((((Kept.refl [] ww4).drew).trans0 hk1).trans0 hk2).trans0 hk3; have rg0 := hkr.cell (p := ⟨w.heap.size + 1 + 1, 0, none⟩) nR0.out (by simp); have rg1 := hkr.cell (p := ⟨w.heap.size + 1 + 1, 1, none⟩) nR1.out (by simp); have rg2 := hkr.cell (p := ⟨w.heap.size + 1 + 1, 2, none⟩) nR2.out (by simp); have rg3 := hkr.cell (p := ⟨w.heap.size + 1 + 1, 3, none⟩) nR3.out (by simp); have rg4 := hkr.cell (p := ⟨w.heap.size + 1 + 1, 4, none⟩) nR4.out (by simp); have ru0 := hkr.free' (p := ⟨w.heap.size + 1 + 1, 0, none⟩) nR0.out fR0.out (by simp); have ru1 := hkr.free' (p := ⟨w.heap.size + 1 + 1, 1, none⟩) nR1.out fR1.out (by simp); have ru2 := hkr.free' (p := ⟨w.heap.size + 1 + 1, 2, none⟩) nR2.out fR2.out (by simp); have ru3 := hkr.free' (p := ⟨w.heap.size + 1 + 1, 3, none⟩) nR3.out fR3.out (by simp); have ru4 := hkr.free' (p := ⟨w.heap.size + 1 + 1, 4, none⟩) nR4.out fR4.out (by simp); have z12 := ((((Kept.refl [] ww4).drew).trans0 hk1).trans0 hk2).size; (try simp only [World.size_drew] at z12)))
        clear kr
        have hk := hkr
        clear hkr hs1 hs2 hk1 hk2 hk3
        clear hr1 ho1 hr2 ho2
        rw [← HR.out] at hs3 hs4 hf3 hf4 hne ⊢
        have z5 := hk.size
        replace fR0 := kf hk nR0 fR0
        replace fR1 := kf hk nR1 fR1
        replace fR2 := kf hk nR2 fR2
        replace fR3 := kf hk nR3 fR3
        replace fR4 := kf hk nR4 fR4
        replace nA0 := kc hk nA0
        replace nA1 := kc hk nA1
        replace nA2 := kc hk nA2
        replace nA3 := kc hk nA3
        replace nB0 := kc hk nB0
        replace nB1 := kc hk nB1
        replace nB2 := kc hk nB2
        replace nB3 := kc hk nB3
        replace nR0 := kc hk nR0
        replace nR1 := kc hk nR1
        replace nR2 := kc hk nR2
        replace nR3 := kc hk nR3
        replace nR4 := kc hk nR4
        replace H1 := Lib.hid (H1.out.kept0 hk)
        replace H2 := Lib.hid (H2.out.kept0 hk)
        replace H3 := Lib.hid (H3.out.kept0 hk)
        replace H4 := Lib.hid (H4.out.kept0 hk)
        replace KT := Lib.hid (KT.out.trans0 hk)
        clear hk
        have hs3 := Lib.hid hs3
        have hs4 := Lib.hid hs4
        have HNE := Lib.hid hne
        have G3 := Lib.hid (hf3.mono (B' := w.heap.size + 1 + 1 + 1) (by omega))
        have G4 := Lib.hid (hf4.mono (B' := w.heap.size + 1 + 1 + 1) (by omega))
        clear hf3 hf4 hne
        generalize hW : (((((v3.setCell ⟨w.heap.size + 1 + 1, 0, none⟩ (.int .i64 r.code)).setCell ⟨w.heap.size + 1 + 1, 1, none⟩ (.bool (isNeg r.lo))).setCell ⟨w.heap.size + 1 + 1, 2, none⟩ (.slice a3 (mag r.lo).length c3)).setCell ⟨w.heap.size + 1 + 1, 3, none⟩ (.bool (isNeg r.hi))).setCell ⟨w.heap.size + 1 + 1, 4, none⟩ (.slice b3 (mag r.hi).length d3)) = ww6
        have hk : Kept [w.heap.size + 1 + 1] v3 ww6 := by rw [← hW]; exact (((((Kept.refl _ _).setCell _ _ (by simp)).setCell _ _ (by simp)).setCell _ _ (by simp)).setCell _ _ (by simp)).setCell _ _ (by simp)
        have hfz : ∀ x, ww6.frozen? x = v3.frozen? x := by rw [← hW]; intro x; simp only [World.frozen?_setCell]
        obtain ⟨e0, e1, e2, e3, e4⟩ := st5 hW.symm nR0.out nR1.out nR2.out nR3.out nR4.out
        have z6 := hk.size
        replace fR0 := kz hfz fR0
        replace fR1 := kz hfz fR1
        replace fR2 := kz hfz fR2
        replace fR3 := kz hfz fR3
        replace fR4 := kz hfz fR4
        replace nA0 := kd hk nA0 (by simp <;> omega)
        replace nA1 := kd hk nA1 (by simp <;> omega)
        replace nA2 := kd hk nA2 (by simp <;> omega)
        replace nA3 := kd hk nA3 (by simp <;> omega)
        replace nB0 := kd hk nB0 (by simp <;> omega)
        replace nB1 := kd hk nB1 (by simp <;> omega)
        replace nB2 := kd hk nB2 (by simp <;> omega)
        replace nB3 := kd hk nB3 (by simp <;> omega)
        replace H1 := Lib.hid (H1.out.kept hk (fun hn y hy hm => by have h9 := F1.out hn y hy; simp at hm; omega))
        replace H2 := Lib.hid (H2.out.kept hk (fun hn y hy hm => by have h9 := F2.out hn y hy; simp at hm; omega))
        replace H3 := Lib.hid (H3.out.kept hk (fun hn y hy hm => by have h9 := F3.out hn y hy; simp at hm; omega))
        replace H4 := Lib.hid (H4.out.kept hk (fun hn y hy hm => by have h9 := F4.out hn y hy; simp at hm; omega))
        replace hs3 := Lib.hid (hs3.out.kept hk (fun hn y hy hm => by have h9 := G3.out hn y hy; simp at hm; omega))
        replace hs4 := Lib.hid (hs4.out.kept hk (fun hn y hy hm => by have h9 := G4.out hn y hy; simp at hm; omega))
        replace nR0 := Lib.hid e0
        replace nR1 := Lib.hid e1
        replace nR2 := Lib.hid e2
        replace nR3 := Lib.hid e3
        replace nR4 := Lib.hid e4
        replace KT := Lib.hid (KT.out.trans hk (fun x hx hlt => by simp at hx; omega))
        clear hk hfz hW e0 e1 e2 e3 e4
        go_wp2_with fail
        have e0 := nR0.out
        have e1 := nR1.out
        have e2 := nR2.out
        have e3 := nR3.out
        have e4 := nR4.out
        refine bodyPost_ret (v := .agg #[.int .i64 r.code, .bool (isNeg r.lo), .slice a3 (mag r.lo).length c3, .bool (isNeg r.hi), .slice b3 (mag r.hi).length d3]) (by simp [results, Try.results8, go_sem, e0, e1, e2, e3, e4]) rfl ?_
        exact ⟨a3, c3, b3, d3, rfl, hs3.out, hs4.out, G3.out.mono (by omega), G4.out.mono (by omega), HNE.out, KT.out⟩
    · skip
      rw [show divS P p xs q ys p' xs' q' ys' = noSpan (spanFault2 p xs q ys p' xs' q' ys') from askS_bad hP hz]
      obtain ⟨f, hf⟩ : ∃ f, f = spanFault2 p xs q ys p' xs' q' ys' := ⟨_, rfl⟩
      have HZ := Lib.hid (show precS P (spanFault2 p xs q ys p' xs' q' ys') = f by unfold precS; rw [if_pos hP]; exact hf.symm)
      rw [← hf]
      have hne : (f == 0) = false := by rw [beq_eq_false_iff_ne, hf]; exact hz
      clear hf hz hP
      go_enter Try.func8, Try.ntmps8
      go_wp2_with fail
      generalize hW : (((w.alloc (.cells #[.bool p, .slice a n c, .bool q, .slice b m d] 30)).alloc (.cells #[.bool p', .slice a' n' c', .bool q', .slice b' m' d'] 30)).alloc (.cells #[.int .i64 0, .bool false, .slice none 0 0, .bool false, .slice none 0 0] 32)) = ww0
      have hkk : Kept [] (((w.alloc (.cells #[.bool p, .slice a n c, .bool q, .slice b m d] 30)).alloc (.cells #[.bool p', .slice a' n' c', .bool q', .slice b' m' d'] 30)).alloc (.cells #[.int .i64 0, .bool false, .slice none 0 0, .bool false, .slice none 0 0] 32)) ww0 := by rw [hW]; exact Kept.refl _ _
      have zzA : w.heap.size + 1 + 1 + 1 = ww0.heap.size := by rw [← hW]; simp
      obtain ⟨⟨nA0, nA1, nA2, nA3⟩, _⟩ := tp4 hkk.peel.peel (g := w.heap.size) (by simp) (by simp)
      obtain ⟨⟨nB0, nB1, nB2, nB3⟩, _⟩ := tp4 hkk.peel (g := w.heap.size + 1) (by simp) (by simp)
      obtain ⟨⟨nR0, nR1, nR2, nR3, nR4⟩, fR0, fR1, fR2, fR3, fR4⟩ := tp5 hkk (g := w.heap.size + 1 + 1) (by simp) (by simp)
      have hk := hkk.peel.peel.peel
      clear hkk hW
      have z0 := hk.size
      have KT := Lib.hid hk
      clear hk
      replace H1 := Lib.hid (H1.out.kept0 KT.out)
      replace H2 := Lib.hid (H2.out.kept0 KT.out)
      replace H3 := Lib.hid (H3.out.kept0 KT.out)
      replace H4 := Lib.hid (H4.out.kept0 KT.out)
      refine (precisionFault_two _ _ _ _ _ _ _ _ _ _ _ _ _ _ _ _ _ _ _ _ _ _ _ (by omega) H1.out H2.out H3.out H4.out).mono ?_
      rintro e ww1 ⟨rfl, hk⟩
      rw [HZ.out]
      have z1 := hk.size
      replace fR0 := kf hk nR0 fR0
      replace fR1 := kf hk nR1 fR1
      replace fR2 := kf hk nR2 fR2
      replace fR3 := kf hk nR3 fR3
      replace fR4 := kf hk nR4 fR4
      replace nA0 := kc hk nA0
      replace nA1 := kc hk nA1
      replace nA2 := kc hk nA2
      replace nA3 := kc hk nA3
      replace nB0 := kc hk nB0
      replace nB1 := kc hk nB1
      replace nB2 := kc hk nB2
      replace nB3 := kc hk nB3
      replace nR0 := kc hk nR0
      replace nR1 := kc hk nR1
      replace nR2 := kc hk nR2
      replace nR3 := kc hk nR3
      replace nR4 := kc hk nR4
      replace H1 := Lib.hid (H1.out.kept0 hk)
      replace H2 := Lib.hid (H2.out.kept0 hk)
      replace H3 := Lib.hid (H3.out.kept0 hk)
      replace H4 := Lib.hid (H4.out.kept0 hk)
      replace KT := Lib.hid (KT.out.trans0 hk)
      clear hk
      have tA0 := nA0.out
      have tA1 := nA1.out
      have tA2 := nA2.out
      have tA3 := nA3.out
      have tB0 := nB0.out
      have tB1 := nB1.out
      have tB2 := nB2.out
      have tB3 := nB3.out
      have tR0 := nR0.out
      have tR1 := nR1.out
      have tR2 := nR2.out
      have tR3 := nR3.out
      have tR4 := nR4.out
      have uR0 := fR0.out
      have uR1 := fR1.out
      have uR2 := fR2.out
      have uR3 := fR3.out
      have uR4 := fR4.out
      go_wp2_with fail
      clear tA0 tA1 tA2 tA3 tB0 tB1 tB2 tB3 tR0 tR1 tR2 tR3 tR4 uR0 uR1 uR2 uR3 uR4
      generalize hW : (((((ww1.setCell ⟨w.heap.size + 1 + 1, 0, none⟩ (.int .i64 f)).setCell ⟨w.heap.size + 1 + 1, 1, none⟩ (.bool false)).setCell ⟨w.heap.size + 1 + 1, 2, none⟩ (.slice none 0 0)).setCell ⟨w.heap.size + 1 + 1, 3, none⟩ (.bool false)).setCell ⟨w.heap.size + 1 + 1, 4, none⟩ (.slice none 0 0)) = ww2
      have hk : Kept [w.heap.size + 1 + 1] ww1 ww2 := by rw [← hW]; exact (((((Kept.refl _ _).setCell _ _ (by simp)).setCell _ _ (by simp)).setCell _ _ (by simp)).setCell _ _ (by simp)).setCell _ _ (by simp)
      have hfz : ∀ x, ww2.frozen? x = ww1.frozen? x := by rw [← hW]; intro x; simp only [World.frozen?_setCell]
      obtain ⟨e0, e1, e2, e3, e4⟩ := st5 hW.symm nR0.out nR1.out nR2.out nR3.out nR4.out
      have z2 := hk.size
      replace fR0 := kz hfz fR0
      replace fR1 := kz hfz fR1
      replace fR2 := kz hfz fR2
      replace fR3 := kz hfz fR3
      replace fR4 := kz hfz fR4
      replace nA0 := kd hk nA0 (by simp <;> omega)
      replace nA1 := kd hk nA1 (by simp <;> omega)
      replace nA2 := kd hk nA2 (by simp <;> omega)
      replace nA3 := kd hk nA3 (by simp <;> omega)
      replace nB0 := kd hk nB0 (by simp <;> omega)
      replace nB1 := kd hk nB1 (by simp <;> omega)
      replace nB2 := kd hk nB2 (by simp <;> omega)
      replace nB3 := kd hk nB3 (by simp <;> omega)
      replace H1 := Lib.hid (H1.out.kept hk (fun hn y hy hm => by have h9 := F1.out hn y hy; simp at hm; omega))
      replace H2 := Lib.hid (H2.out.kept hk (fun hn y hy hm => by have h9 := F2.out hn y hy; simp at hm; omega))
      replace H3 := Lib.hid (H3.out.kept hk (fun hn y hy hm => by have h9 := F3.out hn y hy; simp at hm; omega))
      replace H4 := Lib.hid (H4.out.kept hk (fun hn y hy hm => by have h9 := F4.out hn y hy; simp at hm; omega))
      replace nR0 := Lib.hid e0
      replace nR1 := Lib.hid e1
      replace nR2 := Lib.hid e2
      replace nR3 := Lib.hid e3
      replace nR4 := Lib.hid e4
      replace KT := Lib.hid (KT.out.trans hk (fun x hx hlt => by simp at hx; omega))
      clear hk hfz hW e0 e1 e2 e3 e4
      have e0 := nR0.out
      have e1 := nR1.out
      have e2 := nR2.out
      have e3 := nR3.out
      have e4 := nR4.out
      refine bodyPost_ret (v := .agg #[.int .i64 f, .bool false, .slice none 0 0, .bool false, .slice none 0 0]) (by simp [results, Try.results8, go_sem, e0, e1, e2, e3, e4]) rfl ?_
      exact spanR_no KT.out
  · skip
    rw [show divS P p xs q ys p' xs' q' ys' = noSpan 3 from askS_no hP]
    have HZ := Lib.hid (show precS P (spanFault2 p xs q ys p' xs' q' ys') = 3 from if_neg hP)
    clear hP
    go_enter Try.func8, Try.ntmps8
    go_wp2_with fail
    generalize hW : (((w.alloc (.cells #[.bool p, .slice a n c, .bool q, .slice b m d] 30)).alloc (.cells #[.bool p', .slice a' n' c', .bool q', .slice b' m' d'] 30)).alloc (.cells #[.int .i64 0, .bool false, .slice none 0 0, .bool false, .slice none 0 0] 32)) = ww0
    have hkk : Kept [] (((w.alloc (.cells #[.bool p, .slice a n c, .bool q, .slice b m d] 30)).alloc (.cells #[.bool p', .slice a' n' c', .bool q', .slice b' m' d'] 30)).alloc (.cells #[.int .i64 0, .bool false, .slice none 0 0, .bool false, .slice none 0 0] 32)) ww0 := by rw [hW]; exact Kept.refl _ _
    have zzA : w.heap.size + 1 + 1 + 1 = ww0.heap.size := by rw [← hW]; simp
    obtain ⟨⟨nA0, nA1, nA2, nA3⟩, _⟩ := tp4 hkk.peel.peel (g := w.heap.size) (by simp) (by simp)
    obtain ⟨⟨nB0, nB1, nB2, nB3⟩, _⟩ := tp4 hkk.peel (g := w.heap.size + 1) (by simp) (by simp)
    obtain ⟨⟨nR0, nR1, nR2, nR3, nR4⟩, fR0, fR1, fR2, fR3, fR4⟩ := tp5 hkk (g := w.heap.size + 1 + 1) (by simp) (by simp)
    have hk := hkk.peel.peel.peel
    clear hkk hW
    have z0 := hk.size
    have KT := Lib.hid hk
    clear hk
    replace H1 := Lib.hid (H1.out.kept0 KT.out)
    replace H2 := Lib.hid (H2.out.kept0 KT.out)
    replace H3 := Lib.hid (H3.out.kept0 KT.out)
    replace H4 := Lib.hid (H4.out.kept0 KT.out)
    refine (precisionFault_two _ _ _ _ _ _ _ _ _ _ _ _ _ _ _ _ _ _ _ _ _ _ _ (by omega) H1.out H2.out H3.out H4.out).mono ?_
    rintro e ww1 ⟨rfl, hk⟩
    rw [HZ.out]
    have z1 := hk.size
    replace fR0 := kf hk nR0 fR0
    replace fR1 := kf hk nR1 fR1
    replace fR2 := kf hk nR2 fR2
    replace fR3 := kf hk nR3 fR3
    replace fR4 := kf hk nR4 fR4
    replace nA0 := kc hk nA0
    replace nA1 := kc hk nA1
    replace nA2 := kc hk nA2
    replace nA3 := kc hk nA3
    replace nB0 := kc hk nB0
    replace nB1 := kc hk nB1
    replace nB2 := kc hk nB2
    replace nB3 := kc hk nB3
    replace nR0 := kc hk nR0
    replace nR1 := kc hk nR1
    replace nR2 := kc hk nR2
    replace nR3 := kc hk nR3
    replace nR4 := kc hk nR4
    replace H1 := Lib.hid (H1.out.kept0 hk)
    replace H2 := Lib.hid (H2.out.kept0 hk)
    replace H3 := Lib.hid (H3.out.kept0 hk)
    replace H4 := Lib.hid (H4.out.kept0 hk)
    replace KT := Lib.hid (KT.out.trans0 hk)
    clear hk
    have tA0 := nA0.out
    have tA1 := nA1.out
    have tA2 := nA2.out
    have tA3 := nA3.out
    have tB0 := nB0.out
    have tB1 := nB1.out
    have tB2 := nB2.out
    have tB3 := nB3.out
    have tR0 := nR0.out
    have tR1 := nR1.out
    have tR2 := nR2.out
    have tR3 := nR3.out
    have tR4 := nR4.out
    have uR0 := fR0.out
    have uR1 := fR1.out
    have uR2 := fR2.out
    have uR3 := fR3.out
    have uR4 := fR4.out
    go_wp2_with fail
    clear tA0 tA1 tA2 tA3 tB0 tB1 tB2 tB3 tR0 tR1 tR2 tR3 tR4 uR0 uR1 uR2 uR3 uR4
    generalize hW : (((((ww1.setCell ⟨w.heap.size + 1 + 1, 0, none⟩ (.int .i64 3)).setCell ⟨w.heap.size + 1 + 1, 1, none⟩ (.bool false)).setCell ⟨w.heap.size + 1 + 1, 2, none⟩ (.slice none 0 0)).setCell ⟨w.heap.size + 1 + 1, 3, none⟩ (.bool false)).setCell ⟨w.heap.size + 1 + 1, 4, none⟩ (.slice none 0 0)) = ww2
    have hk : Kept [w.heap.size + 1 + 1] ww1 ww2 := by rw [← hW]; exact (((((Kept.refl _ _).setCell _ _ (by simp)).setCell _ _ (by simp)).setCell _ _ (by simp)).setCell _ _ (by simp)).setCell _ _ (by simp)
    have hfz : ∀ x, ww2.frozen? x = ww1.frozen? x := by rw [← hW]; intro x; simp only [World.frozen?_setCell]
    obtain ⟨e0, e1, e2, e3, e4⟩ := st5 hW.symm nR0.out nR1.out nR2.out nR3.out nR4.out
    have z2 := hk.size
    replace fR0 := kz hfz fR0
    replace fR1 := kz hfz fR1
    replace fR2 := kz hfz fR2
    replace fR3 := kz hfz fR3
    replace fR4 := kz hfz fR4
    replace nA0 := kd hk nA0 (by simp <;> omega)
    replace nA1 := kd hk nA1 (by simp <;> omega)
    replace nA2 := kd hk nA2 (by simp <;> omega)
    replace nA3 := kd hk nA3 (by simp <;> omega)
    replace nB0 := kd hk nB0 (by simp <;> omega)
    replace nB1 := kd hk nB1 (by simp <;> omega)
    replace nB2 := kd hk nB2 (by simp <;> omega)
    replace nB3 := kd hk nB3 (by simp <;> omega)
    replace H1 := Lib.hid (H1.out.kept hk (fun hn y hy hm => by have h9 := F1.out hn y hy; simp at hm; omega))
    replace H2 := Lib.hid (H2.out.kept hk (fun hn y hy hm => by have h9 := F2.out hn y hy; simp at hm; omega))
    replace H3 := Lib.hid (H3.out.kept hk (fun hn y hy hm => by have h9 := F3.out hn y hy; simp at hm; omega))
    replace H4 := Lib.hid (H4.out.kept hk (fun hn y hy hm => by have h9 := F4.out hn y hy; simp at hm; omega))
    replace nR0 := Lib.hid e0
    replace nR1 := Lib.hid e1
    replace nR2 := Lib.hid e2
    replace nR3 := Lib.hid e3
    replace nR4 := Lib.hid e4
    replace KT := Lib.hid (KT.out.trans hk (fun x hx hlt => by simp at hx; omega))
    clear hk hfz hW e0 e1 e2 e3 e4
    have e0 := nR0.out
    have e1 := nR1.out
    have e2 := nR2.out
    have e3 := nR3.out
    have e4 := nR4.out
    refine bodyPost_ret (v := .agg #[.int .i64 3, .bool false, .slice none 0 0, .bool false, .slice none 0 0]) (by simp [results, Try.results8, go_sem, e0, e1, e2, e3, e4]) rfl ?_
    exact spanR_no KT.out

end Go.Proofs.Ytofpommikmdlfaa
