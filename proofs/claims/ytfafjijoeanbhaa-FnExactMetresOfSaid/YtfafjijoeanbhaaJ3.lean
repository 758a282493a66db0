/-
 Several of my texts in one, each as it was: SpanL, SpanE, SpanX. No condition but theirs.
-/
import Derived.Test.YtfafjijoeanbhaaSpanA
import Derived.Deep.RegionHeld3
import Derived.Deep.DrawnRows
import Derived.Deep.DeepCutAuto
import Derived.Test.YtfafjijoeanbhaaSpanC
import Derived.Test.YtfafjijoeanbhaaJ2
import Derived.Test.YtfafjijoeanbhaaJ1
namespace Go.Proofs.Ytfafjijoeanbhaa
open Go.RowKit

end Go.Proofs.Ytfafjijoeanbhaa

namespace Go.Proofs.Ytfafjijoeanbhaa
open Go.RowKit

theorem Kept.set4 {W w2 : World} {g : Nat} {v1 v2 v3 v4 : Value} (h : Hid (Kept [g] W w2)) : Hid (Kept [g] W ((((w2.setCell ⟨g, 0, none⟩ v1).setCell ⟨g, 1, none⟩ v2).setCell ⟨g, 2, none⟩ v3).setCell ⟨g, 3, none⟩ v4)) :=
 Lib.hid ((((h.out.setCell _ _ (by simp)).setCell _ _ (by simp)).setCell _ _ (by simp)).setCell _ _ (by simp))
theorem cell_set4 {w2 : World} {g : Nat} {p : Addr} {v v1 v2 v3 v4 : Value} (h : w2.cell? p = some v) (hg : p.block ≠ g) : ((((w2.setCell ⟨g, 0, none⟩ v1).setCell ⟨g, 1, none⟩ v2).setCell ⟨g, 2, none⟩ v3).setCell ⟨g, 3, none⟩ v4).cell? p = some v :=
 (Kept.set4 (Lib.hid (Kept.refl [g] w2))).out.cell h (by simpa using hg)

end Go.Proofs.Ytfafjijoeanbhaa

namespace Go.Proofs.Ytfafjijoeanbhaa
open Go.RowKit
end Go.Proofs.Ytfafjijoeanbhaa
