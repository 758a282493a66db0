/-
 Contracts of l4One, OneSpan and its model. No condition but that the precision is an int64.
-/
import Derived.Deep.RegionHeld3
import Derived.Deep.DrawnRows
import Derived.Deep.DeepCutAuto
import Derived.Test.YtfafjijoeanbhaaOneA
import Derived.Test.YtfafjijoeanbhaaPrec
import Derived.Test.YtfafjijoeanbhaaJ3
import Derived.Test.YtfafjijoeanbhaaBigE

namespace Go.Proofs.Ytfafjijoeanbhaa
open Go.RowKit

theorem oneInUnits_z (k : Nat) (z : Int) (w : World) (hk : k ≤ 96) (hz : z = p2 k) :
  Calls Try.prog 50 #[.int .i64 (k : Int)] w (BigV w.heap.size w z) := by
 refine (oneInUnits_any k w hk).mono fun e w' h => ?_
 obtain ⟨g, rfl, hg, hb, hk'⟩ := h
 have h0 := p2_pos k
 have hm : mag z = digits (p2 k) := by rw [hz, mag_no (by omega)]
 have hn : isNeg z = false := by rw [hz]; exact isNeg_no (by omega)
 have hl := p2_len hk
 exact ⟨some ⟨g, 0, none⟩, (digits (p2 k)).length, by rw [hm, hn], by rw [hm]; exact Sl.ofBlk hb (by omega), by rw [hm]; intro _ x hx; cases hx; exact hg, hk'⟩
end Go.Proofs.Ytfafjijoeanbhaa
