/-
  Contracts of divideBigs, FloorDiv, CeilDiv, the program's. Condition: the limbs lie in blocks of numbers.
-/
import Derived.Test.YtlhiahhpmjiioaaBigE
import Derived.Test.YtlhiahhpmjiioaaDiv
namespace Go.Proofs.Ytlhiahhpmjiioaa
open Go.RowKit

/-- A big answer, stored into the result's block, which is the third one of the call. -/
theorem bigR_fin3 {w w1 : World} {r : BV} {a : Option Addr} {c : Nat} (hS : Sl w1 a r.limbs.length c r.limbs) (hF : Fr (w.heap.size + 1 + 1 + 1) a r.limbs.length) (hk : Kept [] w w1) :
    BigR w r (.returned (.agg #[.int .i64 r.code, .bool r.neg, .slice a r.limbs.length c])) (((w1.setCell ⟨w.heap.size + 1 + 1, 0, none⟩ (.int .i64 r.code)).setCell ⟨w.heap.size + 1 + 1, 1, none⟩ (.bool r.neg)).setCell ⟨w.heap.size + 1 + 1, 2, none⟩ (.slice a r.limbs.length c)) :=
  ⟨a, c, rfl, hS.kept ((((Kept.refl [w.heap.size + 1 + 1] w1).setCell _ _ (by simp)).setCell _ _ (by simp)).setCell _ _ (by simp)) (fun hn x hx => by have := hF hn x hx; simp; omega), hF.mono (by omega),
    ((hk.setCell _ _ (by simp; omega)).setCell _ _ (by simp; omega)).setCell _ _ (by simp; omega)⟩

/-- A row that holds the one limb 1. -/
theorem rd_row1 (w : World) {g : Nat} (hg : w.heap.size = g) : Rd (w.alloc (.cells #[.int .i64 1] 2)) (some ⟨g, 0, none⟩) 1 [1] := by
  subst hg
  have := Sl.ofBlk (Blk.new w [1]) (by simp)
  exact this.rd

end Go.Proofs.Ytlhiahhpmjiioaa
