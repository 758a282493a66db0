/-
  What a draw picks from a list, and a draw of a natural: contracts of l1Pick, l1Draw. Condition: few bytes have been read so far.
-/
import Derived.Test.YtlhiahhpmjiioadGreatDoorSrcA
import Derived.Test.YtlhiahhpmjiioadGreatDoorJ1
import Derived.Test.YtlhiahhpmjiioadGreatDoorTrim
import Derived.Handy
namespace Go.Proofs.YtlhiahhpmjiioadGreatDoor
open Go.RowKit

/-- What a pick answers: a member of the list. -/
def PickR (w : World) (g : Nat) (a : Option Addr) (n c : Nat) (bs : List Int) (at_ : Int) (ys : List Int) (e : Ending) (w' : World) : Prop :=
  ∃ k : Nat, k < ys.length ∧ e = .returned (.int .i64 (ys.getD k 0)) ∧ Src w' g a n c bs (at_ + 1) ∧ Kept [g] w w'

set_option maxHeartbeats 1000000 in
theorem l1Pick_any (g : Nat) (a : Option Addr) (n c : Nat) (bs : List Int) (at_ : Int) (b : Option Addr) (m d : Nat) (ys : List Int) (w : World) (h : Src w g a n c bs at_) (ha : at_ ≤ 1000000) (h' : Rd w b m ys) (hb : 0 < m → ∀ x, b = some x → x.block ≠ g) (hm : 1 ≤ m ∧ m ≤ 1000) :
    Calls Tryz.prog 28 #[.pointer (some ⟨g, 0, none⟩), .slice b m d] w (PickR w g a n c bs at_ ys) := by
  have HR := Lib.hid h'
  have HL := Lib.hid h'.1
  have HB := Lib.hid hb
  clear h' hb
  go_enter Tryz.func28, Tryz.ntmps28
  go_wp2_with fail
  refine (l1Next_any g a n c bs at_ m _ h ha (by omega)).mono ?_
  rintro e w1 ⟨r, rfl, hr0, hr1, hS, hK⟩
  obtain ⟨k, rfl⟩ := Int.eq_ofNat_of_zero_le hr0
  have hkm : k < m := by omega
  have HR1 := HR.out.kept hK (fun hn x hx => by have := HB.out hn x hx; simpa using this)
  obtain ⟨gb, off, rfl, hc⟩ := HR1.2.2 k hkm
  have HS := Lib.hid hS
  have HK := Lib.hid hK
  clear hS hK HR1
  go_wp2_with fail
  go_ret
  exact ⟨k, by have := HL.out; omega, rfl, HS.out, HK.out⟩

/-- What a draw of a natural answers: its limbs, in memory of the draw's own. -/
def DrawR (w : World) (g : Nat) (a : Option Addr) (n c : Nat) (bs : List Int) (at_ most : Int) (e : Ending) (w' : World) : Prop :=
  ∃ v x at2, e = .returned v ∧ Ow w.heap.size w' v (digits x) ∧ 0 ≤ x ∧ ((digits x).length : Int) ≤ most ∧ Src w' g a n c bs at2 ∧ at2 ≤ at_ + 1 + 2 * most ∧ Kept [g] w w'

end Go.Proofs.YtlhiahhpmjiioadGreatDoor
