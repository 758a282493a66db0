/-
  Contracts of IsInRange, the program's and the model's, and of toRange. No condition.
-/
import Derived.Test.YtacmdeokaacijaaJ1
namespace Go.Proofs.Ytacmdeokaacijaa
open Go.RowKit

theorem rd_pair {w : World} {g : Nat} (hg : w.heap.size = g) (x y : Int) : Rd (w.alloc (.cells #[.int .i64 x, .int .i64 y] 2)) (some ⟨g, 0, none⟩) 2 [x, y] := by
  subst hg
  have := Sl.ofBlk (Blk.new w [x, y]) (by simp)
  exact this.rd
theorem ord_pair (x y : Int) : (decide (x ≤ y)) = true ↔ OrdTo [x, y] 2 := by
  rw [decide_eq_true_eq]
  constructor
  · intro h i hi
    obtain rfl : i = 0 := by omega
    simpa using h
  · intro h
    have h0 := h 0 (by omega)
    simpa using h0

/-- That the one range lies in the other one. -/
def inRng (x y x' y' : Int) : Bool := decide (x' ≤ x) && decide (y ≤ y')

set_option maxHeartbeats 2000000 in
theorem IsInRange_any (x y x' y' : Int) (w : World) : Calls Try.prog 7 #[.agg #[.int .i64 x, .int .i64 y], .agg #[.int .i64 x', .int .i64 y']] w (Ans w (.bool (inRng x y x' y'))) := by
  obtain ⟨s, hs⟩ : ∃ s, decide (x' ≤ x) = s := ⟨_, rfl⟩
  obtain ⟨t, ht⟩ : ∃ t, decide (y ≤ y') = t := ⟨_, rfl⟩
  rw [show inRng x y x' y' = (s && t) by unfold inRng; rw [hs, ht]]
  have HS := Lib.hid hs
  have HT := Lib.hid ht
  clear hs ht
  go_enter Try.func7, Try.ntmps7
  go_wp2_with fail
  refine (inOrder_any _ _ _ _ _ (rd_pair (by simp) _ _) _ (ord_pair _ _)).mono ?_
  rintro e w1 ⟨rfl, h1⟩
  rw [HS.out]
  have c0 := (h1.peel.peel.top (g := w.heap.size) (by simp) (by simp) 0 (v := .int .i64 x) rfl).1
  have c1 := (h1.peel.peel.top (g := w.heap.size) (by simp) (by simp) 1 (v := .int .i64 y) rfl).1
  have d0 := (h1.peel.top (g := w.heap.size + 1) (by simp) (by simp) 0 (v := .int .i64 x') rfl).1
  have d1 := (h1.peel.top (g := w.heap.size + 1) (by simp) (by simp) 1 (v := .int .i64 y') rfl).1
  have k1 := h1.peel.peel.peel
  clear h1
  cases s
  · go_wp2_with fail
    go_ret
    exact ⟨rfl, k1⟩
  · go_wp2_with fail
    refine (inOrder_any _ _ _ _ _ (rd_pair (by simp) _ _) _ (ord_pair _ _)).mono ?_
    rintro e w2 ⟨rfl, h2⟩
    rw [HT.out]
    go_wp2_with fail
    go_ret
    exact ⟨by cases t <;> rfl, k1.trans0 h2.peel⟩

set_option maxHeartbeats 2000000 in
theorem sIsInRange_any (x y x' y' : Int) (w : World) : Calls Try.prog 5 #[.agg #[.int .i64 x, .int .i64 y], .agg #[.int .i64 x', .int .i64 y']] w (Ans w (.bool (inRng x y x' y'))) := by
  obtain ⟨s, hs⟩ : ∃ s, decide (x' ≤ x) = s := ⟨_, rfl⟩
  obtain ⟨t, ht⟩ : ∃ t, decide (y ≤ y') = t := ⟨_, rfl⟩
  rw [show inRng x y x' y' = (s && t) by unfold inRng; rw [hs, ht]]
  cases s
  · go_enter Try.func5, Try.ntmps5
    go_wp2
    go_ret
    exact ⟨rfl, ((Kept.refl _ _).alloc _).alloc _⟩
  · cases t
    · go_enter Try.func5, Try.ntmps5
      go_wp2
      go_ret
      exact ⟨rfl, ((Kept.refl _ _).alloc _).alloc _⟩
    · go_enter Try.func5, Try.ntmps5
      go_wp2
      go_ret
      exact ⟨rfl, ((Kept.refl _ _).alloc _).alloc _⟩

theorem drew_cellR {w : World} {p : Addr} {v : Value} (h : w.cell? p = some v) : w.drew.cell? p = some v := h
set_option maxHeartbeats 1000000 in
theorem toRange_any (x y : Int) (w : World) : Calls Try.prog 6 #[.agg #[.int .i64 x, .int .i64 y]] w (Ans w (.agg #[.int .i64 x, .int .i64 y])) := by
  go_enter Try.func6, Try.ntmps6
  go_wp2
  refine bodyPost_ret (v := .agg #[.int .i64 x, .int .i64 y]) (by simp [results, Try.results6, go_sem]) rfl ?_
  exact ⟨rfl, (((Kept.refl _ _).alloc _).alloc _).alloc _⟩

end Go.Proofs.Ytacmdeokaacijaa
