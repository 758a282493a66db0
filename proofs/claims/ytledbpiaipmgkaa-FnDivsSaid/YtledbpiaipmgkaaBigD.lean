/-
  Contract of the model's sum of two bigs. Conditions: the limbs lie in blocks of numbers.
-/
import Derived.Test.YtledbpiaipmgkaaJ2
import Derived.Test.YtledbpiaipmgkaaSSub
namespace Go.Proofs.Ytledbpiaipmgkaa
open Go.RowKit
attribute [local go_sem ↓] Go.wp_at_zero Go.wp_at_succ

/-- A big, stored into the result's block. -/
theorem bigV_fin {w w0 w1 : World} {g : Nat} {z : Int} {a : Option Addr} {c : Nat} (hg : w.heap.size ≤ g) (hS : Sl w1 a (mag z).length c (mag z)) (hF : Fr w0.heap.size a (mag z).length) (hg0 : g < w0.heap.size) (hk : Kept [] w w1) :
    BigV w.heap.size w z (.returned (.agg #[.bool (isNeg z), .slice a (mag z).length c])) ((w1.setCell ⟨g, 0, none⟩ (.bool (isNeg z))).setCell ⟨g, 1, none⟩ (.slice a (mag z).length c)) :=
  ⟨a, c, rfl, hS.kept (((Kept.refl [g] w1).setCell _ _ (by simp)).setCell _ _ (by simp)) (fun hn x hx => by have := hF hn x hx; simp; omega), hF.mono (by omega),
    (hk.setCell _ _ (by simp; omega)).setCell _ _ (by simp; omega)⟩

end Go.Proofs.Ytledbpiaipmgkaa
