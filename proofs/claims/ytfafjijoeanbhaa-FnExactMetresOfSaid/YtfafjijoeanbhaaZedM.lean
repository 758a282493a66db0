/-
  Joined texts.
-/
import Derived.Test.YtfafjijoeanbhaaSpanJ
import Derived.Laws.AppendOwn
import Derived.Test.YtfafjijoeanbhaaPlainC
import Derived.Test.YtfafjijoeanbhaaZedP
import Derived.Test.YtfafjijoeanbhaaJ3
import Derived.Test.YtfafjijoeanbhaaBigE
import Derived.Deep.RegionHeld3
import Derived.Deep.DrawnRows
import Derived.Deep.DeepCutAuto
import Derived.Test.YtfafjijoeanbhaaPrec
import Derived.Test.YtfafjijoeanbhaaSpanM
import Derived.Test.YtfafjijoeanbhaaJ5
import Derived.Test.YtfafjijoeanbhaaJ4
import Derived.Test.YtfafjijoeanbhaaBigOf
import Derived.Test.YtfafjijoeanbhaaJ1
import Derived.Test.YtfafjijoeanbhaaSpanR
import Derived.Test.YtfafjijoeanbhaaSpanW
import Derived.Test.YtfafjijoeanbhaaMulA
namespace Go.Proofs.Ytfafjijoeanbhaa
open Go.RowKit

/-- Block g is a row of bigs with room for cap of them; the first n are these cells. -/
def OwB (w : World) (g n cap : Nat) (xs : List Value) : Prop :=
 xs.length = n * 2 ∧ n ≤ cap ∧ cap ≤ maxLen ∧ ∃ cur : Array Value, w.heap[g]? = some (.cells cur 41 (0, 0)) ∧ cur.size = cap * 2 ∧ cur.toList.take (n * 2) = xs
theorem OwB.lt {w : World} {g n cap : Nat} {xs : List Value} (h : OwB w g n cap xs) : g < w.heap.size := by
 obtain ⟨_, _, _, _, h, _⟩ := h; exact (Array.getElem?_eq_some_iff.1 h).1
theorem OwB.kept {L : List Nat} {w w' : World} {g n cap : Nat} {xs : List Value} (h : OwB w g n cap xs) (k : Kept L w w') (hg : g ∉ L) : OwB w' g n cap xs := by
 have hl := h.lt
 obtain ⟨h0, h1, h2, cur, h3, h4⟩ := h; exact ⟨h0, h1, h2, cur, by rw [k.block g hl hg]; exact h3, h4⟩
theorem OwB.kept0 {w w' : World} {g n cap : Nat} {xs : List Value} (h : OwB w g n cap xs) (k : Kept [] w w') : OwB w' g n cap xs := h.kept k (by simp)
theorem OwB.empty (w : World) : OwB (w.alloc (.cells #[] 41)) w.heap.size 0 0 [] := ⟨rfl, Nat.le_refl _, Nat.zero_le _, #[], heap_alloc_new w _, rfl, rfl⟩
theorem OwB.cell {w : World} {g n cap : Nat} {xs : List Value} (h : OwB w g n cap xs) {j : Nat} {u : Value} (hj : xs[j]? = some u) : w.cell? ⟨g, j, none⟩ = some u := by
 obtain ⟨h0, h1, h2, cur, h3, h4, h5⟩ := h
 rw [cell_of_row w g j cur _ _ h3, ← Array.getElem?_toList]
 rw [← h5, List.getElem?_take] at hj
 split at hj
 ·exact hj
 ·cases hj
end Go.Proofs.Ytfafjijoeanbhaa
namespace Go.Proofs.Ytfafjijoeanbhaa
open Go.RowKit

theorem l2Mul_n (x n z : Int) (a b : Option Addr) (c d : Nat) (w : World) (h : Sl w a (mag x).length c (mag x)) (h' : Sl w b (mag n).length d (mag n)) (lx : (mag x).length ≤ 20) (ln : (mag n).length ≤ 20) (hz : z = x * n) :
  Calls Try.prog 39 #[.agg #[.bool (isNeg x), .slice a (mag x).length c], .agg #[.bool (isNeg n), .slice b (mag n).length d]] w (BigV w.heap.size w z) :=
 l2Mul_z _ _ _ _ _ _ _ _ _ _ z w (bigOk_of (by omega)).n40 (bigOk_of (by omega)).n40 h h' (by rw [sv_mag, sv_mag]; exact hz)
end Go.Proofs.Ytfafjijoeanbhaa
