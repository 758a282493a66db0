/-
  The laws' helpers over shapes: szShape, toShape, eqShape. Condition: the slices read as lists of numbers, two a point.
-/
import Derived.Test.YtlhiahhpmjiioabDoorPtM
namespace Go.Proofs.YtlhiahhpmjiioabDoor
open Go.RowKit

set_option maxHeartbeats 400000 in
theorem szPointS_yes (a : Option Addr) (n c : Nat) (L : Int) (w : World) (h : (n : Int) ≤ L) (hL : L ≤ 1048576) :
    Calls Tryd.prog 10 #[.slice a n c, .int .i64 L] w (Ans w (.int .i64 (L - n))) := by
  have h0 : (0 : Int) ≤ L - n := by omega
  have h1 : decide (L - (n : Int) < 0) = false := decide_eq_false (by omega)
  go_enter Tryd.func10, Tryd.ntmps10
  go_wp2
  go_ret
  exact ⟨rfl, Kept.refl _ _⟩
set_option maxHeartbeats 400000 in
theorem szPointS_no (a : Option Addr) (n c : Nat) (L : Int) (w : World) (h : L < n) (h0 : 0 ≤ L) (hn : n ≤ 9223372036854775807) :
    Calls Tryd.prog 10 #[.slice a n c, .int .i64 L] w (Ans w (.int .i64 (-1))) := by
  have h1 : L - (n : Int) < 0 := by omega
  have h2 : -9223372036854775808 ≤ L - (n : Int) := by omega
  have h3 : IntKind.i64.wrap (L - (n : Int)) = L - (n : Int) := IntWalk.i64_in _ (by omega)
  go_enter Tryd.func10, Tryd.ntmps10
  go_wp2
  go_ret
  exact ⟨rfl, Kept.refl _ _⟩
set_option maxHeartbeats 400000 in
theorem szShape_yes (k : Int) (a : Option Addr) (n c : Nat) (L : Int) (w : World) (h : (n : Int) ≤ L) (hL : L ≤ 1048576) :
    Calls Tryd.prog 4 #[.agg #[.int .i64 k, .slice a n c], .int .i64 L] w (Ans w (.int .i64 (L - n))) := by
  have h0 : (0 : Int) ≤ L - n := by omega
  have h1 : decide (L - (n : Int) < 0) = false := decide_eq_false (by omega)
  go_enter Tryd.func4, Tryd.ntmps4
  go_wp2_with fail
  refine (szPointS_yes _ _ _ _ _ h hL).mono ?_
  rintro e w1 ⟨rfl, hk⟩
  have HK := Lib.hid (((Kept.refl [] w).alloc _).trans0 hk)
  clear hk
  go_wp2_with fail
  go_ret
  exact ⟨rfl, HK.out⟩
set_option maxHeartbeats 400000 in
theorem szShape_no (k : Int) (a : Option Addr) (n c : Nat) (L : Int) (w : World) (h : L < n) (h0 : 0 ≤ L) (hn : n ≤ 9223372036854775807) :
    Calls Tryd.prog 4 #[.agg #[.int .i64 k, .slice a n c], .int .i64 L] w (Ans w (.int .i64 (-1))) := by
  go_enter Tryd.func4, Tryd.ntmps4
  go_wp2_with fail
  refine (szPointS_no _ _ _ _ _ h h0 hn).mono ?_
  rintro e w1 ⟨rfl, hk⟩
  have HK := Lib.hid (((Kept.refl [] w).alloc _).trans0 hk)
  clear hk
  go_wp2_with fail
  go_ret
  exact ⟨rfl, HK.out⟩

/-- A call that answers a shape in a new block. -/
def NewShp (w : World) (k : Int) (n : Nat) (xs : List Int) (e : Ending) (w' : World) : Prop :=
  ∃ g, e = .returned (.agg #[.int .i64 k, .slice (some ⟨g, 0, none⟩) n n]) ∧ w.heap.size ≤ g ∧ Blk w' g xs ∧ Kept [] w w'

set_option maxHeartbeats 1000000 in
theorem toShape_any (k : Int) (a : Option Addr) (n c : Nat) (xs : List Int) (w : World) (h : Rd w a (n * 2) xs) (hn : n ≤ 2000000) :
    Calls Tryd.prog 6 #[.agg #[.int .i64 k, .slice a n c]] w (NewShp w k n xs) := by
  have HR := Lib.hid h
  clear h
  have k0 : Kept [] w (((w.alloc (.cells #[.int .i64 k, .slice a n c] 24)).alloc (.cells #[.int .i64 0, .slice none 0 0] 31)).alloc (.cells #[.int .i64 k, .slice none 0 0] 31)) := (((Kept.refl [] w).alloc _).alloc _).alloc _
  have K0 := Lib.hid k0
  clear k0
  go_enter Tryd.func6, Tryd.ntmps6
  go_wp2_with fail
  refine (toPointS_any _ _ _ _ _ (HR.out.kept0 K0.out) (by omega)).mono ?_
  rintro e w1 ⟨g, rfl, hg, hb, hk⟩
  obtain ⟨c1, _, _⟩ := hk.top (g := w.heap.size + 1 + 1) (by simp) (by simp) 0 rfl
  obtain ⟨c2, f2, _⟩ := hk.top (g := w.heap.size + 1 + 1) (by simp) (by simp) 1 rfl
  obtain ⟨c3, f3, _⟩ := hk.peel.top (g := w.heap.size + 1) (by simp) (by simp) 0 rfl
  obtain ⟨c4, f4, _⟩ := hk.peel.top (g := w.heap.size + 1) (by simp) (by simp) 1 rfl
  have hs := hk.size
  simp only [World.size_alloc] at hs hg
  have HB := Lib.hid hb
  have HK := Lib.hid (K0.out.trans0 hk)
  clear hb hk
  go_wp2_with fail
  have e3 : (w1.setCell ⟨w.heap.size + 1 + 1, 1, none⟩ (.slice (some ⟨g, 0, none⟩) n n)).cell? ⟨w.heap.size + 1, 0, none⟩ = some (.int .i64 0) := by rw [World.cell?_setCell_other _ _ _ _ (by simp)]; exact c3
  have e4 : (w1.setCell ⟨w.heap.size + 1 + 1, 1, none⟩ (.slice (some ⟨g, 0, none⟩) n n)).cell? ⟨w.heap.size + 1, 1, none⟩ = some (.slice none 0 0) := by rw [World.cell?_setCell_other _ _ _ _ (by simp)]; exact c4
  obtain ⟨_, eb, ec⟩ := cells2 (.int .i64 k) (.slice (some ⟨g, 0, none⟩) n n) e3 e4
  refine bodyPost_ret (v := .agg #[.int .i64 k, .slice (some ⟨g, 0, none⟩) n n]) (by simp [results, Tryd.results6, go_sem, eb, ec]) rfl ⟨g, rfl, by omega, ?_, (((HK.out.setCell _ _ (by simp; omega)).setCell _ _ (by simp)).setCell _ _ (by simp))⟩
  exact ((HB.out.other _ _ (by simp; omega)).other _ _ (by simp; omega)).other _ _ (by simp; omega)

set_option maxHeartbeats 1000000 in
theorem eqShape_yes (k : Int) (a b : Option Addr) (n c c' : Nat) (xs : List Int) (w : World) (h : Rd w a (n * 2) xs) (h' : Rd w b (n * 2) xs) :
    Calls Tryd.prog 9 #[.agg #[.int .i64 k, .slice a n c], .agg #[.int .i64 k, .slice b n c']] w (Ans w (.bool true)) := by
  have HR := Lib.hid h
  have HR' := Lib.hid h'
  clear h h'
  go_enter Tryd.func9, Tryd.ntmps9
  go_wp2_with fail
  refine (eqPointS_yes _ _ _ _ _ _ _ (HR.out.kept0 (((Kept.refl _ _).alloc _).alloc _)) (HR'.out.kept0 (((Kept.refl _ _).alloc _).alloc _))).mono ?_
  rintro e w1 ⟨rfl, h1⟩
  go_wp2_with fail
  go_ret
  exact ⟨rfl, h1.peel.peel⟩

end Go.Proofs.YtlhiahhpmjiioabDoor
