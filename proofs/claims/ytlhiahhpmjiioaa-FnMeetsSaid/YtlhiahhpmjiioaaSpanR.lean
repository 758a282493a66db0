/-
  Contracts of the model's l3Rat and RatSpan. Conditions: the limbs read as lists of numbers.
-/
import Derived.Deep.RegionHeld3
import Derived.Deep.DrawnRows
import Derived.Deep.DeepCutAuto
import Derived.Test.YtlhiahhpmjiioaaJ5
import Derived.Test.YtlhiahhpmjiioaaSpanG
import Derived.Test.YtlhiahhpmjiioaaJ4
namespace Go.Proofs.Ytlhiahhpmjiioaa
open Go.RowKit

theorem l2Big_u (b : Bool) (a : Option Addr) (n c : Nat) (v u : Int) (w : World) (hv : 0 ≤ v) (hu : u = sg b v) (hn : (digits v).length = n) :
    Calls Try.prog 39 #[.bool b, .slice a n c] w (Val w (.agg #[.bool (isNeg u), .slice a n c])) := by
  subst hu; exact l2Big_any _ _ _ _ _ _ hv hn
/-- A new box with a big, its limbs in new memory. -/
def BoxN (w0 : World) (u : Int) (s : Value) (w : World) : Prop :=
  ∃ g a c, s = .pointer (some ⟨g, 0, none⟩) ∧ w.cell? ⟨g, 0, none⟩ = some (.bool (isNeg u)) ∧ w.cell? ⟨g, 1, none⟩ = some (.slice a (mag u).length c) ∧ w0.heap.size ≤ g ∧ g < w.heap.size ∧ Sl w a (mag u).length c (mag u) ∧ Fr w0.heap.size a (mag u).length ∧ Kept [] w0 w
theorem boxN_last {W v : World} {B : Nat} {u : Int} {a : Option Addr} {c : Nat} {T : TypeId} (hB : W.heap.size ≤ B) (hS : Sl v a (mag u).length c (mag u)) (hF : Fr B a (mag u).length) (hk : Hid (Kept [] W v)) :
    BoxN W u (.pointer (some ⟨v.heap.size, 0, none⟩)) (v.alloc (.cells #[.bool (isNeg u), .slice a (mag u).length c] T)) :=
  ⟨v.heap.size, a, c, rfl, by rw [World.cell?_alloc_new]; rfl, by rw [World.cell?_alloc_new]; rfl, hk.out.size, by simp, hS.kept0 ((Kept.refl [] v).alloc _), hF.mono hB, hk.out.alloc _⟩
theorem Kept.set2n {W w2 : World} {g : Nat} {v1 v2 : Value} (h : Hid (Kept [] W w2)) (hg : W.heap.size ≤ g) : Hid (Kept [] W ((w2.setCell ⟨g, 0, none⟩ v1).setCell ⟨g, 1, none⟩ v2)) :=
  Lib.hid ((h.out.setCell _ _ (by simp; omega)).setCell _ _ (by simp; omega))
theorem boxN_set {W v : World} {g : Nat} {u : Int} {a : Option Addr} {c : Nat} {x0 x1 : Value} (hg : W.heap.size ≤ g) (hne : 0 < (mag u).length → ∀ x, a = some x → x.block ≠ g) (hF : Fr W.heap.size a (mag u).length) (hS : Sl v a (mag u).length c (mag u))
    (h0 : v.cell? ⟨g, 0, none⟩ = some x0) (h1 : v.cell? ⟨g, 1, none⟩ = some x1) (hk : Hid (Kept [] W v)) :
    BoxN W u (.pointer (some ⟨g, 0, none⟩)) ((v.setCell ⟨g, 0, none⟩ (.bool (isNeg u))).setCell ⟨g, 1, none⟩ (.slice a (mag u).length c)) := by
  obtain ⟨_, e0, e1⟩ := cells2 (.bool (isNeg u)) (.slice a (mag u).length c) h0 h1
  have hlt := World.block_lt_of_cell? v _ h0
  have hq := (Kept.set2 (v1 := .bool (isNeg u)) (v2 := .slice a (mag u).length c) (Lib.hid (Kept.refl [g] v))).out
  exact ⟨g, a, c, rfl, e0, e1, hg, Nat.lt_of_lt_of_le hlt hq.size, hS.kept hq (fun hn x hx => by have := hne hn x hx; simpa using this), hF, (Kept.set2n hk hg).out⟩

theorem Kept.drewAllocH' {L : List Nat} {W w : World} {o : Obj} (h : Hid (Kept L W w)) : Hid (Kept L W (w.alloc o).drew) := Lib.hid ((h.out.alloc o).drew)
theorem Kept.drewH' {L : List Nat} {W w : World} (h : Hid (Kept L W w)) : Hid (Kept L W w.drew) := Lib.hid h.out.drew
end Go.Proofs.Ytlhiahhpmjiioaa
