/-
  The least and the greatest of two; the model's l3Hull. Conditions: no fault.
-/
import Derived.Deep.RegionHeld3
import Derived.Deep.DrawnRows
import Derived.Deep.DeepCutAuto
import Derived.Test.YtofpommikmdlfaaSpanK
import Derived.Test.YtofpommikmdlfaaSpanG
namespace Go.Proofs.Ytofpommikmdlfaa
open Go.RowKit

theorem drew_alloc_cell2 {w : World} {o : Obj} {p : Addr} {v : Value} (h : w.drew.cell? p = some v) : (w.alloc o).drew.cell? p = some v := alloc_cell (w := w) h
theorem Kept.drewAlloc2H {L : List Nat} {W w : World} {o : Obj} (h : Hid (Kept L W w.drew)) : Hid (Kept L W (w.alloc o).drew) := Lib.hid (((Kept.trans0 h.out (⟨rfl, rfl, rfl, Nat.le_refl _, fun _ _ _ => rfl⟩ : Kept [] w.drew w)).alloc o).drew)
theorem Kept.drewAllocH {L : List Nat} {W w : World} {o : Obj} (h : Hid (Kept L W w)) : Hid (Kept L W (w.alloc o).drew) := Lib.hid ((h.out.alloc o).drew)
theorem Kept.drewH {L : List Nat} {W w : World} (h : Hid (Kept L W w)) : Hid (Kept L W w.drew) := Lib.hid h.out.drew
/-- A call that answers a big that is the number z, wherever its limbs lie. -/
def BigN (w : World) (z : Int) (e : Ending) (w' : World) : Prop :=
  ∃ a c, e = .returned (.agg #[.bool (isNeg z), .slice a (mag z).length c]) ∧ Sl w' a (mag z).length c (mag z) ∧ Kept [] w w'
theorem rowB2_at {U W : World} {g : Nat} {p q : Bool} {a b : Option Addr} {n c m d : Nat} {xs ys : List Int} {T : TypeId} (hW : W = U.alloc (.cells #[.bool p, .slice a n c, .bool q, .slice b m d] T)) (hg : g = U.heap.size) :
    RowB W g [⟨p, a, n, c, xs⟩, ⟨q, b, m, d, ys⟩] := by
  subst hW hg
  intro j hj
  match j, hj with
  | 0, _ => exact ⟨by rw [World.cell?_alloc_new]; rfl, by rw [World.cell?_alloc_new]; rfl⟩
  | 1, _ => exact ⟨by rw [World.cell?_alloc_new]; rfl, by rw [World.cell?_alloc_new]; rfl⟩
theorem RowB.alloc {w : World} {g : Nat} {l : List BE} (h : RowB w g l) (o : Obj) : RowB (w.alloc o) g l := h.kept ((Kept.refl [] w).alloc o) (by simp)
theorem RowB.drew {w : World} {g : Nat} {l : List BE} (h : RowB w g l) : RowB w.drew g l := h.kept ((Kept.refl [] w).drew) (by simp)
theorem okB2 {w : World} {p q : Bool} {a b : Option Addr} {n c m d : Nat} {xs ys : List Int} (h : Sl w a n c xs) (h' : Sl w b m d ys) (hx : BigOk p xs) (hy : BigOk q ys) : OkB w [⟨p, a, n, c, xs⟩, ⟨q, b, m, d, ys⟩] := fun u hu => by
  rcases List.mem_cons.1 hu with rfl | hu
  · exact ⟨h, hx⟩
  · rcases List.mem_cons.1 hu with rfl | hu
    · exact ⟨h', hy⟩
    · cases hu
theorem pick2_lt {e f : BE} : (pickF ltZ e [f]).z = minZ e.z f.z := by
  unfold pickF pickF ltZ minZ
  by_cases h : f.z < e.z
  · rw [if_pos (decide_eq_true h), if_pos h]
  · rw [if_neg (by simpa using h), if_neg h]
theorem pick2_gt {e f : BE} : (pickF gtZ e [f]).z = maxZ e.z f.z := by
  unfold pickF pickF gtZ maxZ
  by_cases h : e.z < f.z
  · rw [if_pos (decide_eq_true h), if_pos h]
  · rw [if_neg (by simpa using h), if_neg h]
theorem bigN_of {w w' : World} {l : List BE} {b : BE} {e : Ending} (hb : b ∈ l) (ho : OkB w l) (h : Val w b.val e w') : BigN w b.z e w' := by
  obtain ⟨rfl, hk⟩ := h
  obtain ⟨hs, hok⟩ := ho b hb
  have h1 : isNeg b.z = b.neg := hok.isNeg
  have h2 : mag b.z = b.limbs := hok.mag
  have h3 := hs.1
  refine ⟨b.ptr, b.cap, ?_, ?_, hk⟩
  · rw [h1, h2, h3]; rfl
  · rw [h2, h3]; exact hs.kept0 hk
theorem l3Least_two (g : Nat) (p q : Bool) (a b : Option Addr) (n c m d : Nat) (xs ys : List Int) (z : Int) (w : World) (h : RowB w g [⟨p, a, n, c, xs⟩, ⟨q, b, m, d, ys⟩]) (h1 : Sl w a n c xs) (h2 : Sl w b m d ys) (hx : BigOk p xs) (hy : BigOk q ys) (hz : z = minZ (sv p xs) (sv q ys)) :
    Calls Try.prog 38 #[.slice (some ⟨g, 0, none⟩) 2 2] w (BigV w.heap.size w z) := by
  have e := l3Least_any g ⟨p, a, n, c, xs⟩ [⟨q, b, m, d, ys⟩] w h (okB2 h1 h2 hx hy) (by simp)
  rw [pick2_lt] at e
  subst hz
  exact e
theorem l3Most_two (g : Nat) (p q : Bool) (a b : Option Addr) (n c m d : Nat) (xs ys : List Int) (z : Int) (w : World) (h : RowB w g [⟨p, a, n, c, xs⟩, ⟨q, b, m, d, ys⟩]) (h1 : Sl w a n c xs) (h2 : Sl w b m d ys) (hx : BigOk p xs) (hy : BigOk q ys) (hz : z = maxZ (sv p xs) (sv q ys)) :
    Calls Try.prog 37 #[.slice (some ⟨g, 0, none⟩) 2 2] w (BigV w.heap.size w z) := by
  have e := l3Most_any g ⟨p, a, n, c, xs⟩ [⟨q, b, m, d, ys⟩] w h (okB2 h1 h2 hx hy) (by simp)
  rw [pick2_gt] at e
  subst hz
  exact e
theorem leastOf_isBelow_two (g : Nat) (p q : Bool) (a b : Option Addr) (n c m d : Nat) (xs ys : List Int) (z : Int) (w : World) (h : RowB w g [⟨p, a, n, c, xs⟩, ⟨q, b, m, d, ys⟩]) (h1 : Sl w a n c xs) (h2 : Sl w b m d ys) (hx : BigOk p xs) (hy : BigOk q ys) (hz : z = minZ (sv p xs) (sv q ys)) :
    Calls Try.prog 30 #[.func (.func 31) #[] #[], .slice (some ⟨g, 0, none⟩) 2 2] w (BigN w z) := by
  have e := leastOf_isBelow g ⟨p, a, n, c, xs⟩ [⟨q, b, m, d, ys⟩] w h (okB2 h1 h2 hx hy) (by simp)
  have hm : pickF ltZ ⟨p, a, n, c, xs⟩ [⟨q, b, m, d, ys⟩] ∈ [(⟨p, a, n, c, xs⟩ : BE), ⟨q, b, m, d, ys⟩] := by
    rcases pick_mem ltZ [⟨q, b, m, d, ys⟩] ⟨p, a, n, c, xs⟩ with h | h
    · rw [h]; exact List.mem_cons_self
    · exact List.mem_cons_of_mem _ h
  have hz' : z = (pickF ltZ ⟨p, a, n, c, xs⟩ [⟨q, b, m, d, ys⟩]).z := by rw [pick2_lt]; exact hz
  subst hz'
  exact e.mono fun e9 w9 h9 => bigN_of hm (okB2 h1 h2 hx hy) h9
theorem leastOf_isAbove_two (g : Nat) (p q : Bool) (a b : Option Addr) (n c m d : Nat) (xs ys : List Int) (z : Int) (w : World) (h : RowB w g [⟨p, a, n, c, xs⟩, ⟨q, b, m, d, ys⟩]) (h1 : Sl w a n c xs) (h2 : Sl w b m d ys) (hx : BigOk p xs) (hy : BigOk q ys) (hz : z = maxZ (sv p xs) (sv q ys)) :
    Calls Try.prog 30 #[.func (.func 32) #[] #[], .slice (some ⟨g, 0, none⟩) 2 2] w (BigN w z) := by
  have e := leastOf_isAbove g ⟨p, a, n, c, xs⟩ [⟨q, b, m, d, ys⟩] w h (okB2 h1 h2 hx hy) (by simp)
  have hm : pickF gtZ ⟨p, a, n, c, xs⟩ [⟨q, b, m, d, ys⟩] ∈ [(⟨p, a, n, c, xs⟩ : BE), ⟨q, b, m, d, ys⟩] := by
    rcases pick_mem gtZ [⟨q, b, m, d, ys⟩] ⟨p, a, n, c, xs⟩ with h | h
    · rw [h]; exact List.mem_cons_self
    · exact List.mem_cons_of_mem _ h
  have hz' : z = (pickF gtZ ⟨p, a, n, c, xs⟩ [⟨q, b, m, d, ys⟩]).z := by rw [pick2_gt]; exact hz
  subst hz'
  exact e.mono fun e9 w9 h9 => bigN_of hm (okB2 h1 h2 hx hy) h9

end Go.Proofs.Ytofpommikmdlfaa
