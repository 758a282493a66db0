/-
  The laws' helpers over stores: how much a store is, a store made anew. Condition: the argument reads as named shapes.
-/
import Derived.Test.YtbljpeefekhoeabStoP
import Derived.Test.YtbljpeefekhoeabShpL
namespace Go.Proofs.Ytbljpeefekhoeab
open Go.RowKit

/-- How much the first named shapes are. -/
def szAt (L : List Sh) : Nat → Nat
  | 0 => 0
  | i + 1 => szAt L i + ((L.getD i sh0).nm.length + (L.getD i sh0).n)
theorem szAt_mono (L : List Sh) {i j : Nat} (h : i ≤ j) : szAt L i ≤ szAt L j := by
  induction j with
  | zero => rw [show i = 0 by omega]; exact Nat.le_refl _
  | succ j ih =>
    by_cases he : i = j + 1
    · subst he; exact Nat.le_refl _
    · exact Nat.le_trans (ih (by omega)) (Nat.le_add_right _ _)
theorem szAt_one (L : List Sh) {i n : Nat} (h : i < n) : (L.getD i sh0).nm.length + (L.getD i sh0).n ≤ szAt L n := by
  have := szAt_mono L (show i + 1 ≤ n by omega)
  simp only [szAt] at this
  omega

/-- An argument's slice of named shapes; points are told only where they are not too many. -/
def ArgSt (w : World) (a : Option Addr) (n : Nat) (L : List Sh) : Prop :=
  L.length = n ∧ n ≤ 9223372036854775807 ∧ (n ≤ 1048576 → ∀ i, i < n → ∃ g off p c, a = some ⟨g, off, none⟩ ∧ w.cell? ⟨g, off + i * 3, none⟩ = some (.string (strB (L.getD i sh0).nm)) ∧ w.cell? ⟨g, off + i * 3 + 1, none⟩ = some (.int .i64 (L.getD i sh0).k) ∧
    w.cell? ⟨g, off + i * 3 + 2, none⟩ = some (.slice p (L.getD i sh0).n c) ∧ (L.getD i sh0).nm.length ≤ 9223372036854775807 ∧ (L.getD i sh0).n ≤ 9223372036854775807 ∧ ((L.getD i sh0).n ≤ 1048576 → Rd w p ((L.getD i sh0).n * 2) (L.getD i sh0).xs))
theorem ArgSt.rd {w : World} {a : Option Addr} {n : Nat} {L : List Sh} (h : ArgSt w a n L) (hn : n + szAt L n ≤ 1048576) : RdSt w a n L :=
  ⟨h.1, by omega, fun i hi => by
    obtain ⟨g, off, p, c, ha, h1, h2, h3, h4, h5, h6⟩ := h.2.2 (by omega) i hi
    have := szAt_one L hi
    exact ⟨g, off, p, c, ha, h1, h2, h3, h6 (by omega), h4⟩⟩
theorem ArgSt.kept0 {w w' : World} {a : Option Addr} {n : Nat} {L : List Sh} (h : ArgSt w a n L) (k : Kept [] w w') : ArgSt w' a n L :=
  ⟨h.1, h.2.1, fun hn i hi => by
    obtain ⟨g, off, p, c, ha, h1, h2, h3, h4, h5, h6⟩ := h.2.2 hn i hi
    exact ⟨g, off, p, c, ha, k.cell h1 (by simp), k.cell h2 (by simp), k.cell h3 (by simp), h4, h5, fun hz => (h6 hz).kept0 k⟩⟩

def leftS (left : Int) (x : Nat) : Int := if (x : Int) ≤ left then left - x else -1
theorem leftS_yes {left : Int} {x : Nat} (h : (x : Int) ≤ left) : leftS left x = left - x := if_pos h
theorem leftS_no {left : Int} {x : Nat} (h : ¬ (x : Int) ≤ left) : leftS left x = -1 := if_neg h

theorem kept_box {w w1 : World} {o : Obj} (h : Kept [] (w.alloc o) w1) : Kept [] w w1 := h.peel

end Go.Proofs.Ytbljpeefekhoeab
