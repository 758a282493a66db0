/-
  Contracts of AddSpan and SubSpan. Conditions: the limbs read as lists of numbers.
-/
import Derived.Deep.RegionHeld3
import Derived.Deep.DrawnRows
import Derived.Deep.DeepCutAuto
import Derived.Test.YtgplghjameiciaaSpanF
namespace Go.Proofs.Ytgplghjameiciaa
open Go.RowKit

theorem field_big (v0 v1 v2 : Value) (w : World) : Sem.run Try.prog (Instr.field 42 (.agg #[v0, v1, v2]) 1) w = .ok (.agg #[v1, v2]) w := by kernel_rfl
attribute [local go_sem ↓] field_big
/-- A call that answers a big's result without a code. -/
def BigZ (w : World) (z : Int) (e : Ending) (w' : World) : Prop :=
  ∃ a c, e = .returned (.agg #[.int .i64 0, .bool (isNeg z), .slice a (mag z).length c]) ∧ Sl w' a (mag z).length c (mag z) ∧ Fr w.heap.size a (mag z).length ∧ Kept [] w w'
theorem AddBigs_z (p q : Bool) (a b : Option Addr) (n c m d : Nat) (xs ys : List Int) (z : Int) (w : World) (h : Sl w a n c xs) (h' : Sl w b m d ys) (hx : BigOk p xs) (hy : BigOk q ys) (lx : xs.length ≤ 20) (ly : ys.length ≤ 20) (hz : z = sv p xs + sv q ys) :
    Calls Try.prog 38 #[.agg #[.bool p, .slice a n c], .agg #[.bool q, .slice b m d]] w (BigZ w z) := by
  have := AddBigs_any p q a b n c m d xs ys w h h'
  rw [addB_z hx hy lx ly hz] at this
  exact this
theorem SubBigs_z (p q : Bool) (a b : Option Addr) (n c m d : Nat) (xs ys : List Int) (z : Int) (w : World) (h : Sl w a n c xs) (h' : Sl w b m d ys) (hx : BigOk p xs) (hy : BigOk q ys) (lx : xs.length ≤ 20) (ly : ys.length ≤ 20) (hz : z = sv p xs - sv q ys) :
    Calls Try.prog 45 #[.agg #[.bool p, .slice a n c], .agg #[.bool q, .slice b m d]] w (BigZ w z) := by
  have := SubBigs_any p q a b n c m d xs ys w h h'
  rw [subB_z hx hy lx ly hz] at this
  exact this

end Go.Proofs.Ytgplghjameiciaa
