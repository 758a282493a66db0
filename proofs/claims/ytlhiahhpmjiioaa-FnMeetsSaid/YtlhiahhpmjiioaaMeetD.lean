/-
  Contracts of MeetSpan and its model. Conditions: the limbs read as lists of numbers.
-/
import Derived.Deep.RegionHeld3
import Derived.Deep.DrawnRows
import Derived.Deep.DeepCutAuto
import Derived.Test.YtlhiahhpmjiioaaSpanN
import Derived.Test.YtlhiahhpmjiioaaSpanR
import Derived.Test.YtlhiahhpmjiioaaBox4
import Derived.Test.YtlhiahhpmjiioaaMeetS
namespace Go.Proofs.Ytlhiahhpmjiioaa
open Go.RowKit


theorem rowB2_hk {w v : World} {g : Nat} {p q : Bool} {a b : Option Addr} {n c m d : Nat} {xs ys : List Int} {T : TypeId} (hk : Kept [] w v) (h : w.heap[g]? = some (.cells #[.bool p, .slice a n c, .bool q, .slice b m d] T (0, 0))) :
    RowB v g [⟨p, a, n, c, xs⟩, ⟨q, b, m, d, ys⟩] := by
  have h := kept_heap hk h
  intro j hj
  match j, hj with
  | 0, _ => exact ⟨cell_of_row v g 0 _ _ _ h, cell_of_row v g 1 _ _ _ h⟩
  | 1, _ => exact ⟨cell_of_row v g 2 _ _ _ h, cell_of_row v g 3 _ _ _ h⟩
theorem set4_heap {v : World} {g : Nat} {z1 z2 z3 z4 v1 v2 v3 v4 : Value} {T : TypeId} (h : v.heap[g]? = some (.cells #[z1, z2, z3, z4] T (0, 0))) :
    ((((v.setCell ⟨g, 0, none⟩ v1).setCell ⟨g, 1, none⟩ v2).setCell ⟨g, 2, none⟩ v3).setCell ⟨g, 3, none⟩ v4).heap[g]? = some (.cells #[v1, v2, v3, v4] T (0, 0)) := by
  have e1 : (v.setCell ⟨g, 0, none⟩ v1).heap[g]? = some (.cells #[v1, z2, z3, z4] T (0, 0)) := heap_setCell_same _ g 0 _ _ _ h
  have e2 : ((v.setCell ⟨g, 0, none⟩ v1).setCell ⟨g, 1, none⟩ v2).heap[g]? = some (.cells #[v1, v2, z3, z4] T (0, 0)) := heap_setCell_same _ g 1 _ _ _ e1
  have e3 : (((v.setCell ⟨g, 0, none⟩ v1).setCell ⟨g, 1, none⟩ v2).setCell ⟨g, 2, none⟩ v3).heap[g]? = some (.cells #[v1, v2, v3, z4] T (0, 0)) := heap_setCell_same _ g 2 _ _ _ e2
  have e4 : ((((v.setCell ⟨g, 0, none⟩ v1).setCell ⟨g, 1, none⟩ v2).setCell ⟨g, 2, none⟩ v3).setCell ⟨g, 3, none⟩ v4).heap[g]? = some (.cells #[v1, v2, v3, v4] T (0, 0)) := heap_setCell_same _ g 3 _ _ _ e3
  exact e4
theorem set2_heap {v : World} {g : Nat} {z1 z2 v1 v2 : Value} {T : TypeId} (h : v.heap[g]? = some (.cells #[z1, z2] T (0, 0))) :
    ((v.setCell ⟨g, 0, none⟩ v1).setCell ⟨g, 1, none⟩ v2).heap[g]? = some (.cells #[v1, v2] T (0, 0)) := by
  have e1 : (v.setCell ⟨g, 0, none⟩ v1).heap[g]? = some (.cells #[v1, z2] T (0, 0)) := heap_setCell_same _ g 0 _ _ _ h
  have e2 : ((v.setCell ⟨g, 0, none⟩ v1).setCell ⟨g, 1, none⟩ v2).heap[g]? = some (.cells #[v1, v2] T (0, 0)) := heap_setCell_same _ g 1 _ _ _ e1
  exact e2
theorem set2_heap_other {v : World} {g k : Nat} {u : Obj} {v1 v2 : Value} (hk : k ≠ g) (h : v.heap[k]? = some u) :
    ((v.setCell ⟨g, 0, none⟩ v1).setCell ⟨g, 1, none⟩ v2).heap[k]? = some u := by
  rw [(Kept.set2 (Lib.hid (Kept.refl [g] v))).out.block k (Array.getElem?_eq_some_iff.1 h).1 (by simpa using hk)]; exact h
/-- A new box with two bigs, told by their numbers, their limbs in new memory. -/
def Box4F (w0 : World) (y1 y2 : Int) (s : Value) (w : World) : Prop :=
  ∃ g a c b d, s = .pointer (some ⟨g, 0, none⟩) ∧ w.cell? ⟨g, 0, none⟩ = some (.bool (isNeg y1)) ∧ w.cell? ⟨g, 1, none⟩ = some (.slice a (mag y1).length c) ∧ w.cell? ⟨g, 2, none⟩ = some (.bool (isNeg y2)) ∧ w.cell? ⟨g, 3, none⟩ = some (.slice b (mag y2).length d) ∧
    w0.heap.size ≤ g ∧ g < w.heap.size ∧ Sl w a (mag y1).length c (mag y1) ∧ Sl w b (mag y2).length d (mag y2) ∧ Fr w0.heap.size a (mag y1).length ∧ Fr w0.heap.size b (mag y2).length ∧ Kept [] w0 w
theorem box4_fin {w0 v W : World} {g : Nat} {y1 y2 : Int} {a b : Option Addr} {c d : Nat} {T : TypeId}
    (h : W.heap[g]? = some (.cells #[.bool (isNeg y1), .slice a (mag y1).length c, .bool (isNeg y2), .slice b (mag y2).length d] T (0, 0))) (hg : w0.heap.size ≤ g)
    (k2 : Kept [g] v W) (s1 : Sl v a (mag y1).length c (mag y1)) (s2 : Sl v b (mag y2).length d (mag y2))
    (ha : 0 < (mag y1).length → ∀ x, a = some x → x.block ≠ g) (hb : 0 < (mag y2).length → ∀ x, b = some x → x.block ≠ g) (hF : Fr w0.heap.size a (mag y1).length) (hF' : Fr w0.heap.size b (mag y2).length) (hk0 : Kept [] w0 v) :
    Box4F w0 y1 y2 (.pointer (some ⟨g, 0, none⟩)) W :=
  ⟨g, a, c, b, d, rfl, cell_of_row W g 0 _ _ _ h, cell_of_row W g 1 _ _ _ h, cell_of_row W g 2 _ _ _ h, cell_of_row W g 3 _ _ _ h, hg, (Array.getElem?_eq_some_iff.1 h).1,
    s1.kept k2 (fun hn x hx => by simpa using ha hn x hx), s2.kept k2 (fun hn x hx => by simpa using hb hn x hx), hF, hF', hk0.trans k2 (fun x hx hlt => by simp at hx; omega)⟩
/-- A new box with a big, told by its number, wherever its limbs lie. -/
def Two2 (w0 : World) (y1 y2 : Int) (s s' : Value) (w : World) : Prop :=
  ∃ g g' a c b d, s = .pointer (some ⟨g, 0, none⟩) ∧ s' = .pointer (some ⟨g', 0, none⟩) ∧ w.cell? ⟨g, 0, none⟩ = some (.bool (isNeg y1)) ∧ w.cell? ⟨g, 1, none⟩ = some (.slice a (mag y1).length c) ∧ w.cell? ⟨g', 0, none⟩ = some (.bool (isNeg y2)) ∧ w.cell? ⟨g', 1, none⟩ = some (.slice b (mag y2).length d) ∧
    w0.heap.size ≤ g ∧ w0.heap.size ≤ g' ∧ Sl w a (mag y1).length c (mag y1) ∧ Sl w b (mag y2).length d (mag y2) ∧ Kept [] w0 w
theorem two2_fin {w0 v W : World} {g g' : Nat} {y1 y2 : Int} {a b : Option Addr} {c d : Nat} {T T' : TypeId}
    (h : W.heap[g]? = some (.cells #[.bool (isNeg y1), .slice a (mag y1).length c] T (0, 0))) (h' : W.heap[g']? = some (.cells #[.bool (isNeg y2), .slice b (mag y2).length d] T' (0, 0))) (hg : w0.heap.size ≤ g) (hg' : w0.heap.size ≤ g')
    (k2 : Kept [g, g'] v W) (s1 : Sl v a (mag y1).length c (mag y1)) (s2 : Sl v b (mag y2).length d (mag y2))
    (ha : 0 < (mag y1).length → ∀ x, a = some x → x.block < w0.heap.size) (hb : 0 < (mag y2).length → ∀ x, b = some x → x.block < w0.heap.size) (hk0 : Kept [] w0 v) :
    Two2 w0 y1 y2 (.pointer (some ⟨g, 0, none⟩)) (.pointer (some ⟨g', 0, none⟩)) W :=
  ⟨g, g', a, c, b, d, rfl, rfl, cell_of_row W g 0 _ _ _ h, cell_of_row W g 1 _ _ _ h, cell_of_row W g' 0 _ _ _ h', cell_of_row W g' 1 _ _ _ h', hg, hg',
    s1.kept k2 (fun hn x hx => by have := ha hn x hx; simp; omega), s2.kept k2 (fun hn x hx => by have := hb hn x hx; simp; omega), hk0.trans k2 (fun x hx hlt => by simp at hx; omega)⟩
/-- A call that answers a big that is the number z, whose limbs lie below B. -/
def BigO (B : Nat) (w : World) (z : Int) (e : Ending) (w' : World) : Prop :=
  ∃ a c, e = .returned (.agg #[.bool (isNeg z), .slice a (mag z).length c]) ∧ Sl w' a (mag z).length c (mag z) ∧ (0 < (mag z).length → ∀ x, a = some x → x.block < B) ∧ Kept [] w w'
theorem bigO_of {B : Nat} {w w' : World} {l : List BE} {b : BE} {e : Ending} (hb : b ∈ l) (ho : OkB w l) (hB : ∀ b ∈ l, 0 < b.len → ∀ x, b.ptr = some x → x.block < B) (h : Val w b.val e w') : BigO B w b.z e w' := by
  obtain ⟨rfl, hk⟩ := h
  obtain ⟨hs, hok⟩ := ho b hb
  have h1 : isNeg b.z = b.neg := hok.isNeg
  have h2 : mag b.z = b.limbs := hok.mag
  have h3 := hs.1
  refine ⟨b.ptr, b.cap, ?_, ?_, ?_, hk⟩
  · rw [h1, h2, h3]; rfl
  · rw [h2, h3]; exact hs.kept0 hk
  · rw [h2, h3]; exact hB b hb
theorem leastOf_isBelow_old (B : Nat) (g : Nat) (p q : Bool) (a b : Option Addr) (n c m d : Nat) (xs ys : List Int) (z : Int) (w : World) (h : RowB w g [⟨p, a, n, c, xs⟩, ⟨q, b, m, d, ys⟩]) (h1 : Sl w a n c xs) (h2 : Sl w b m d ys) (hx : BigOk p xs) (hy : BigOk q ys) (f1 : 0 < n → ∀ x, a = some x → x.block < B) (f2 : 0 < m → ∀ x, b = some x → x.block < B) (hz : z = minZ (sv p xs) (sv q ys)) :
    Calls Try.prog 25 #[.func (.func 27) #[] #[], .slice (some ⟨g, 0, none⟩) 2 2] w (BigO B w z) := by
  have e := leastOf_isBelow g ⟨p, a, n, c, xs⟩ [⟨q, b, m, d, ys⟩] w h (okB2 h1 h2 hx hy) (by simp)
  have hm : pickF ltZ ⟨p, a, n, c, xs⟩ [⟨q, b, m, d, ys⟩] ∈ [(⟨p, a, n, c, xs⟩ : BE), ⟨q, b, m, d, ys⟩] := by
    rcases pick_mem ltZ [⟨q, b, m, d, ys⟩] ⟨p, a, n, c, xs⟩ with h | h
    · rw [h]; exact List.mem_cons_self
    · exact List.mem_cons_of_mem _ h
  have hz' : z = (pickF ltZ ⟨p, a, n, c, xs⟩ [⟨q, b, m, d, ys⟩]).z := by rw [pick2_lt]; exact hz
  subst hz'
  refine e.mono fun e9 w9 h9 => bigO_of hm (okB2 h1 h2 hx hy) (fun u hu => ?_) h9
  rcases List.mem_cons.1 hu with rfl | hu
  · exact f1
  · rcases List.mem_cons.1 hu with rfl | hu
    · exact f2
    · cases hu
theorem leastOf_isAbove_old (B : Nat) (g : Nat) (p q : Bool) (a b : Option Addr) (n c m d : Nat) (xs ys : List Int) (z : Int) (w : World) (h : RowB w g [⟨p, a, n, c, xs⟩, ⟨q, b, m, d, ys⟩]) (h1 : Sl w a n c xs) (h2 : Sl w b m d ys) (hx : BigOk p xs) (hy : BigOk q ys) (f1 : 0 < n → ∀ x, a = some x → x.block < B) (f2 : 0 < m → ∀ x, b = some x → x.block < B) (hz : z = maxZ (sv p xs) (sv q ys)) :
    Calls Try.prog 25 #[.func (.func 26) #[] #[], .slice (some ⟨g, 0, none⟩) 2 2] w (BigO B w z) := by
  have e := leastOf_isAbove g ⟨p, a, n, c, xs⟩ [⟨q, b, m, d, ys⟩] w h (okB2 h1 h2 hx hy) (by simp)
  have hm : pickF gtZ ⟨p, a, n, c, xs⟩ [⟨q, b, m, d, ys⟩] ∈ [(⟨p, a, n, c, xs⟩ : BE), ⟨q, b, m, d, ys⟩] := by
    rcases pick_mem gtZ [⟨q, b, m, d, ys⟩] ⟨p, a, n, c, xs⟩ with h | h
    · rw [h]; exact List.mem_cons_self
    · exact List.mem_cons_of_mem _ h
  have hz' : z = (pickF gtZ ⟨p, a, n, c, xs⟩ [⟨q, b, m, d, ys⟩]).z := by rw [pick2_gt]; exact hz
  subst hz'
  refine e.mono fun e9 w9 h9 => bigO_of hm (okB2 h1 h2 hx hy) (fun u hu => ?_) h9
  rcases List.mem_cons.1 hu with rfl | hu
  · exact f1
  · rcases List.mem_cons.1 hu with rfl | hu
    · exact f2
    · cases hu

end Go.Proofs.Ytlhiahhpmjiioaa
