/-
  Contracts of WidthOf, the program's and the model's. No condition.
-/
import Derived.Test.YtbljpeefekhoeacJ1
import Derived.Test.YtbljpeefekhoeacRngA
namespace Go.Proofs.Ytbljpeefekhoeac
open Go.RowKit

def widthC (x y : Int) : Int := if y < x then 1 else if 0 ≤ x ∧ y ≤ 9000000000000000 then 0 else 3
def widthW (x y : Int) : Int := if widthC x y = 0 then y - x else 0
theorem width_form {x y : Int} (h : y < x) : widthC x y = 1 ∧ widthW x y = 0 := by
  have : widthC x y = 1 := by unfold widthC; exact if_pos h
  exact ⟨this, by unfold widthW; rw [this]; exact rfl⟩
theorem width_range {x y : Int} (h : ¬ y < x) (hf : ¬ (0 ≤ x ∧ y ≤ 9000000000000000)) : widthC x y = 3 ∧ widthW x y = 0 := by
  have : widthC x y = 3 := by unfold widthC; rw [if_neg h, if_neg hf]
  exact ⟨this, by unfold widthW; rw [this]; exact rfl⟩
theorem width_ok {x y : Int} (h : ¬ y < x) (hf : 0 ≤ x ∧ y ≤ 9000000000000000) : widthC x y = 0 ∧ widthW x y = y - x := by
  have : widthC x y = 0 := by unfold widthC; rw [if_neg h, if_pos hf]
  exact ⟨this, by unfold widthW; rw [this]; exact rfl⟩

set_option maxHeartbeats 2000000 in
theorem sWidthOf_any (x y : Int) (w : World) : Calls Try.prog 4 #[.agg #[.int .i64 x, .int .i64 y]] w (Ans w (.agg #[.int .i64 (widthC x y), .int .i64 (widthW x y)])) := by
  by_cases h1 : y < x
  · have hv := Lib.hid (width_form h1)
    go_enter Try.func4, Try.ntmps4
    go_wp2_with fail
    refine bodyPost_ret (v := .agg #[.int .i64 1, .int .i64 0]) (by simp [results, Try.results4, go_sem]) rfl ⟨by rw [hv.out.1, hv.out.2], ?_⟩
    exact ((Kept.refl _ _).alloc _).alloc _
  · by_cases h2 : x < 0
    · have hv := Lib.hid (width_range h1 (by omega))
      go_enter Try.func4, Try.ntmps4
      go_wp2_with fail
      refine bodyPost_ret (v := .agg #[.int .i64 3, .int .i64 0]) (by simp [results, Try.results4, go_sem]) rfl ⟨by rw [hv.out.1, hv.out.2], ?_⟩
      exact ((Kept.refl _ _).alloc _).alloc _
    · by_cases h3 : 9000000000000000 < y
      · have hv := Lib.hid (width_range h1 (by omega))
        go_enter Try.func4, Try.ntmps4
        go_wp2_with fail
        refine bodyPost_ret (v := .agg #[.int .i64 3, .int .i64 0]) (by simp [results, Try.results4, go_sem]) rfl ⟨by rw [hv.out.1, hv.out.2], ?_⟩
        exact ((Kept.refl _ _).alloc _).alloc _
      · have hv := Lib.hid (width_ok h1 (by omega))
        have hw : IntKind.i64.wrap (y - x) = y - x := IntWalk.i64_in _ (by omega)
        go_enter Try.func4, Try.ntmps4
        go_wp2_with fail
        refine bodyPost_ret (v := .agg #[.int .i64 0, .int .i64 (y - x)]) (by simp [results, Try.results4, go_sem]) rfl ⟨by rw [hv.out.1, hv.out.2], ?_⟩
        exact ((Kept.refl _ _).alloc _).alloc _

theorem rd_fourW {w : World} {g : Nat} (hg : w.heap.size = g) (x y : Int) : Rd (w.alloc (.cells #[.int .i64 0, .int .i64 x, .int .i64 y, .int .i64 9000000000000000] 2)) (some ⟨g, 0, none⟩) 4 [0, x, y, 9000000000000000] := by
  subst hg
  have := Sl.ofBlk (Blk.new w [0, x, y, 9000000000000000]) (by simp)
  exact this.rd
theorem ord_fourW {x y : Int} (h : ¬ y < x) : (decide (0 ≤ x ∧ y ≤ 9000000000000000)) = true ↔ OrdTo [0, x, y, 9000000000000000] 4 := by
  rw [decide_eq_true_eq]
  constructor
  · intro hh i hi
    rcases (by omega : i = 0 ∨ i = 1 ∨ i = 2) with rfl | rfl | rfl
    · simpa using hh.1
    · simpa using (by omega : x ≤ y)
    · simpa using hh.2
  · intro hh
    have h0 := hh 0 (by omega)
    have h2 := hh 2 (by omega)
    simp at h0 h2
    exact ⟨h0, h2⟩

theorem two_cellsW {w w1 : World} {x y : Int} {o : Obj} (hk : Kept [] (((w.alloc (.cells #[.int .i64 x, .int .i64 y] 27)).alloc (.cells #[.int .i64 0, .int .i64 0] 25)).alloc o) w1) :
    (w1.cell? ⟨w.heap.size, 0, none⟩ = some (.int .i64 x) ∧ w1.cell? ⟨w.heap.size, 1, none⟩ = some (.int .i64 y)) ∧
    (w1.cell? ⟨w.heap.size + 1, 0, none⟩ = some (.int .i64 0) ∧ w1.cell? ⟨w.heap.size + 1, 1, none⟩ = some (.int .i64 0) ∧ w1.frozen? ⟨w.heap.size + 1, 0, none⟩ = false ∧ w1.frozen? ⟨w.heap.size + 1, 1, none⟩ = false ∧ w.heap.size + 3 ≤ w1.heap.size) ∧ Kept [] w w1 := by
  have h := hk.peel
  exact ⟨⟨(h.peel.top (g := w.heap.size) (by simp) (by simp) 0 (v := .int .i64 x) rfl).1, (h.peel.top (g := w.heap.size) (by simp) (by simp) 1 (v := .int .i64 y) rfl).1⟩,
   ⟨(h.top (g := w.heap.size + 1) (by simp) (by simp) 0 (v := .int .i64 0) rfl).1, (h.top (g := w.heap.size + 1) (by simp) (by simp) 1 (v := .int .i64 0) rfl).1,
   (h.top (g := w.heap.size + 1) (by simp) (by simp) 0 (v := .int .i64 0) rfl).2.1, (h.top (g := w.heap.size + 1) (by simp) (by simp) 1 (v := .int .i64 0) rfl).2.1, by have := hk.size; simpa using this⟩, h.peel.peel⟩

set_option maxHeartbeats 2000000 in
theorem WidthOf_any (x y : Int) (w : World) : Calls Try.prog 6 #[.agg #[.int .i64 x, .int .i64 y]] w (Ans w (.agg #[.int .i64 (widthC x y), .int .i64 (widthW x y)])) := by
  by_cases h1 : y < x
  · have hv := Lib.hid (width_form h1)
    have ho := Lib.hid (show decide (x ≤ y) = false from decide_eq_false (by omega))
    clear h1
    go_enter Try.func6, Try.ntmps6
    go_wp2_with fail
    refine (inOrder_any _ _ _ _ _ (rd_pair (by simp) _ _) _ (ord_pair _ _)).mono ?_
    rintro e w1 ⟨rfl, k1⟩
    rw [ho.out]
    obtain ⟨⟨c0, c1⟩, ⟨d0, d1, e0, e1, z1⟩, K⟩ := two_cellsW k1
    have HK := Lib.hid K
    clear k1 K
    go_wp2_with fail
    obtain ⟨_, s0, s1⟩ := cells2 (.int .i64 1) (.int .i64 0) d0 d1
    refine bodyPost_ret (v := .agg #[.int .i64 1, .int .i64 0]) (by simp [results, Try.results6, go_sem, s0, s1]) rfl ⟨by rw [hv.out.1, hv.out.2], ?_⟩
    exact (HK.out.setCell _ _ (by simp)).setCell _ _ (by simp)
  · have ho := Lib.hid (show decide (x ≤ y) = true from decide_eq_true (by omega))
    have ho2 := Lib.hid (ord_fourW h1)
    by_cases h2 : 0 ≤ x ∧ y ≤ 9000000000000000
    · have hv := Lib.hid (width_ok h1 h2)
      have ht := Lib.hid (show decide (0 ≤ x ∧ y ≤ 9000000000000000) = true from decide_eq_true h2)
      have hw : IntKind.i64.wrap (y - x) = y - x := IntWalk.i64_in _ (by omega)
      obtain ⟨d, hd⟩ : ∃ d, y - x = d := ⟨_, rfl⟩
      rw [hd] at hw hv
      clear h1 h2
      go_enter Try.func6, Try.ntmps6
      go_wp2_with fail
      refine (inOrder_any _ _ _ _ _ (rd_pair (by simp) _ _) _ (ord_pair _ _)).mono ?_
      rintro e w1 ⟨rfl, k1⟩
      rw [ho.out]
      obtain ⟨⟨c0, c1⟩, ⟨d0, d1, e0, e1, z1⟩, K⟩ := two_cellsW k1
      have HK := Lib.hid K
      clear k1 K
      go_wp2_with fail
      refine (inOrder_any _ _ _ _ _ (rd_fourW rfl _ _) _ ho2.out).mono ?_
      rintro e w2 ⟨rfl, k2⟩
      rw [ht.out]
      have K2 := Lib.hid (HK.out.trans0 k2.peel)
      have c0' := k2.peel.cell c0 (by simp)
      have c1' := k2.peel.cell c1 (by simp)
      have d0' := k2.peel.cell d0 (by simp)
      have d1' := k2.peel.cell d1 (by simp)
      have e0' := k2.peel.free e0 (by simp; omega) (by simp)
      have e1' := k2.peel.free e1 (by simp; omega) (by simp)
      clear k2 c0 c1 d0 d1 e0 e1 HK
      go_wp2_with fail
      obtain ⟨_, s0, s1⟩ := cells2 (.int .i64 0) (.int .i64 d) d0' d1'
      refine bodyPost_ret (v := .agg #[.int .i64 0, .int .i64 d]) (by simp [results, Try.results6, go_sem, s0, s1]) rfl ⟨by rw [hv.out.1, hv.out.2], ?_⟩
      exact (K2.out.setCell _ _ (by simp)).setCell _ _ (by simp)
    · have hv := Lib.hid (width_range h1 h2)
      have ht := Lib.hid (show decide (0 ≤ x ∧ y ≤ 9000000000000000) = false from decide_eq_false h2)
      clear h1 h2
      go_enter Try.func6, Try.ntmps6
      go_wp2_with fail
      refine (inOrder_any _ _ _ _ _ (rd_pair (by simp) _ _) _ (ord_pair _ _)).mono ?_
      rintro e w1 ⟨rfl, k1⟩
      rw [ho.out]
      obtain ⟨⟨c0, c1⟩, ⟨d0, d1, e0, e1, z1⟩, K⟩ := two_cellsW k1
      have HK := Lib.hid K
      clear k1 K
      go_wp2_with fail
      refine (inOrder_any _ _ _ _ _ (rd_fourW rfl _ _) _ ho2.out).mono ?_
      rintro e w2 ⟨rfl, k2⟩
      rw [ht.out]
      have K2 := Lib.hid (HK.out.trans0 k2.peel)
      have d0' := k2.peel.cell d0 (by simp)
      have d1' := k2.peel.cell d1 (by simp)
      have e0' := k2.peel.free e0 (by simp; omega) (by simp)
      have e1' := k2.peel.free e1 (by simp; omega) (by simp)
      clear k2 c0 c1 d0 d1 e0 e1 HK
      go_wp2_with fail
      obtain ⟨_, s0, s1⟩ := cells2 (.int .i64 3) (.int .i64 0) d0' d1'
      refine bodyPost_ret (v := .agg #[.int .i64 3, .int .i64 0]) (by simp [results, Try.results6, go_sem, s0, s1]) rfl ⟨by rw [hv.out.1, hv.out.2], ?_⟩
      exact (K2.out.setCell _ _ (by simp)).setCell _ _ (by simp)

end Go.Proofs.Ytbljpeefekhoeac
