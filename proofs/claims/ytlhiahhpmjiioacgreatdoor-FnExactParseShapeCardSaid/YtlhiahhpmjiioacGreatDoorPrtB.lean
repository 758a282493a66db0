/-
  Contract of PrintShape. Condition: the slice reads as a list of numbers, two a point; the library's table of powers of ten lies as its text lays it.
-/
import Derived.Test.YtlhiahhpmjiioacGreatDoorPrtA
namespace Go.Proofs.YtlhiahhpmjiioacGreatDoor
open Go.RowKit

theorem shape_in {k : Int} {xs : List Int} {n : Nat} (h : shapeC k xs n = 0) : inK k = true ∧ 1 ≤ n ∧ n ≤ 12 ∧ ∀ i, i < n → (-999999999999999 ≤ xs.getD (i * 2) 0 ∧ xs.getD (i * 2) 0 ≤ 999999999999999) ∧ -999999999999999 ≤ xs.getD (i * 2 + 1) 0 ∧ xs.getD (i * 2 + 1) 0 ≤ 999999999999999 := by
  have hk : inK k = true := by
    cases hi : inK k with
    | true => rfl
    | false => rw [shapeC_kind hi] at h; omega
  have hp : ptsFault xs n = 0 := by
    rcases Classical.em (ptsFault xs n = 0) with h1 | h1
    · exact h1
    · rw [shapeC_pts hk h1] at h; exact absurd h h1
  have hn := ptsFault_len hp
  refine ⟨hk, hn.1, hn.2, fun i hi => ?_⟩
  rw [ptsFault_in (by omega)] at hp
  have ht : PtsTo xs n := by
    rcases Classical.em (PtsTo xs n) with h1 | h1
    · exact h1
    · unfold ptsFirst at hp; rw [if_neg h1] at hp; omega
  have h3 := ht i hi
  have h4 : InPt (xs.getD (i * 2) 0) (xs.getD (i * 2 + 1) 0) := by
    rcases Classical.em (InPt (xs.getD (i * 2) 0) (xs.getD (i * 2 + 1) 0)) with h1 | h1
    · exact h1
    · rw [ptFault_no h1] at h3; omega
  unfold InPt at h4
  omega
theorem pointT_len (x y : Int) (hx : -999999999999999 ≤ x ∧ x ≤ 999999999999999) (hy : -999999999999999 ≤ y ∧ y ≤ 999999999999999) : (pointT x y).length ≤ 35 := by
  unfold pointT
  have h1 := coordT_len x hx.1 hx.2
  have h2 := coordT_len y hy.1 hy.2
  rw [List.length_append, List.length_cons]; omega
theorem ptsT_in {xs : List Int} {n : Nat} (h : ∀ i, i < n → (-999999999999999 ≤ xs.getD (i * 2) 0 ∧ xs.getD (i * 2) 0 ≤ 999999999999999) ∧ -999999999999999 ≤ xs.getD (i * 2 + 1) 0 ∧ xs.getD (i * 2 + 1) 0 ≤ 999999999999999) : ∀ t ∈ ptsT xs n, t.length ≤ 35 := by
  intro t ht
  unfold ptsT at ht
  obtain ⟨i, hi, rfl⟩ := List.mem_map.1 ht
  have := h i (List.mem_range.1 hi)
  exact pointT_len _ _ this.1 this.2
theorem ptText (x y : Int) : strB (coordT x) ++ ⟨#[32]⟩ ++ strB (coordT y) = strB (pointT x y) := by
  show strB _ ++ strB [32] ++ strB _ = _
  rw [strB_append, strB_append]; unfold pointT; simp
theorem pr_box {w w1 : World} {k : Int} {a : Option Addr} {n c : Nat} {T U : TypeId} (hk : Kept [] ((w.alloc (.cells #[.int .i64 k, .slice a n c] T)).alloc (.cells #[.int .i64 0, .string ⟨#[]⟩] U)) w1) :
    (w1.cell? ⟨w.heap.size, 0, none⟩ = some (.int .i64 k) ∧ w1.cell? ⟨w.heap.size, 1, none⟩ = some (.slice a n c)) ∧ w1.cell? ⟨w.heap.size + 1, 0, none⟩ = some (.int .i64 0) ∧ w1.cell? ⟨w.heap.size + 1, 1, none⟩ = some (.string ⟨#[]⟩) ∧ w1.frozen? ⟨w.heap.size + 1, 0, none⟩ = false ∧ w1.frozen? ⟨w.heap.size + 1, 1, none⟩ = false :=
  ⟨⟨(hk.peel.top rfl (by simp) 0 (v := .int .i64 k) rfl).1, (hk.peel.top rfl (by simp) 1 (v := .slice a n c) rfl).1⟩,
   (hk.top (g := w.heap.size + 1) (by simp) (by simp) 0 (v := .int .i64 0) rfl).1, (hk.top (g := w.heap.size + 1) (by simp) (by simp) 1 (v := .string ⟨#[]⟩) rfl).1, (hk.top (g := w.heap.size + 1) (by simp) (by simp) 0 (v := .int .i64 0) rfl).2.1, (hk.top (g := w.heap.size + 1) (by simp) (by simp) 1 (v := .string ⟨#[]⟩) rfl).2.1⟩
theorem app_keep {wB w1 w' : World} {v : Value} {xs : List (List UInt8)} {B E : Nat} {x y : Value} (k : Hid (Kept [] wB w1)) (hO : OwS B w1 v xs) (hB : wB.heap.size ≤ B) (hG : w1.grownBy w' v.ownBlock) (c0 : w1.cell? ⟨E, 0, none⟩ = some x) (c1 : w1.cell? ⟨E, 1, none⟩ = some y) (hE : v.ownBlock ≠ some E) :
    Hid (Kept [] wB w') ∧ w'.cell? ⟨E, 0, none⟩ = some x ∧ w'.cell? ⟨E, 1, none⟩ = some y :=
  ⟨Lib.hid (hO.grown k.out hB hG), (kept_ownS hG).cell c0 (by rw [Option.mem_toList]; exact hE), (kept_ownS hG).cell c1 (by rw [Option.mem_toList]; exact hE)⟩
theorem mkP2 {wB w5 w' : World} {E : Nat} {x y : Value} (c0 : w5.cell? ⟨E, 0, none⟩ = some x) (c1 : w5.cell? ⟨E, 1, none⟩ = some y) (kB : Hid (Kept [] wB w5)) (k : Hid (Kept [] w5 w')) : Hid (Kept [] wB w') ∧ w'.cell? ⟨E, 0, none⟩ = some x ∧ w'.cell? ⟨E, 1, none⟩ = some y :=
  ⟨Lib.hid (kB.out.trans0 k.out), k.out.cell c0 (by simp), k.out.cell c1 (by simp)⟩
theorem mkP3 {wB w5 w' : World} {E : Nat} {x y : Value} (h : Hid (Kept [] wB w5) ∧ w5.cell? ⟨E, 0, none⟩ = some x ∧ w5.cell? ⟨E, 1, none⟩ = some y) (k : Kept [] w5 w') : Hid (Kept [] wB w') ∧ w'.cell? ⟨E, 0, none⟩ = some x ∧ w'.cell? ⟨E, 1, none⟩ = some y :=
  ⟨Lib.hid (h.1.out.trans0 k), k.cell h.2.1 (by simp), k.cell h.2.2 (by simp)⟩
theorem mkP4 {wB w5 w' : World} {E : Nat} {x y : Value} (k : Kept [] w5 w') (kB : Hid (Kept [] wB w5)) (c0 : w5.cell? ⟨E, 0, none⟩ = some x) (c1 : w5.cell? ⟨E, 1, none⟩ = some y) : Hid (Kept [] wB w') ∧ w'.cell? ⟨E, 0, none⟩ = some x ∧ w'.cell? ⟨E, 1, none⟩ = some y :=
  ⟨Lib.hid (kB.out.trans0 k), k.cell c0 (by simp), k.cell c1 (by simp)⟩
theorem mkP5 {wB w5 : World} {E : Nat} {x y : Value} {o : Obj} (h : Hid (Kept [] wB w5) ∧ w5.cell? ⟨E, 0, none⟩ = some x ∧ w5.cell? ⟨E, 1, none⟩ = some y) : Hid (Kept [] wB (w5.alloc o)) ∧ (w5.alloc o).cell? ⟨E, 0, none⟩ = some x ∧ (w5.alloc o).cell? ⟨E, 1, none⟩ = some y :=
  mkP4 ((Kept.refl _ _).alloc _) h.1 h.2.1 h.2.2


end Go.Proofs.YtlhiahhpmjiioacGreatDoor
