/-
  The draws of two naturals: contracts of DrawAddNats, DrawMulNats, DrawCompareNats, of lwNums and lwBig. Condition: the bytes are at most 1048576.
-/
import Derived.Test.YtlhiahhpmjiioaaSrcC
import Derived.Test.YtlhiahhpmjiioaaJ1
namespace Go.Proofs.Ytlhiahhpmjiioaa
open Go.RowKit

set_option maxHeartbeats 400000 in
theorem lwNums_yes (a b : Option Addr) (n c c' : Nat) (xs : List Int) (w : World) (h : Rd w a n xs) (h' : Rd w b n xs) :
    Calls Try.prog 54 #[.slice a n c, .slice b n c'] w (Ans w (.bool true)) := by
  have hlen := h.1
  have hmax := h.2.1
  have HR := Lib.hid h
  have HR' := Lib.hid h'
  have HL := Lib.hid hlen
  clear h h' hlen
  go_enter Try.func54, Try.ntmps54
  go_wp2
  go_loopw [5] (fun i wr => ∃ k : Nat, k ≤ n ∧ i = .int .i64 k ∧ Hid (Kept [] w wr)) (fun i _ => n - (intOf i).toNat)
  case atStart => exact ⟨0, Nat.zero_le _, rfl, Kept.refl [] w⟩
  case round =>
    obtain ⟨k, hk, rfl, hK⟩ := hrel
    by_cases hlt : k < n
    · obtain ⟨g, off, rfl, hc0⟩ := HR.out.2.2 k hlt
      obtain ⟨g', off', rfl, hc0'⟩ := HR'.out.2.2 k hlt
      have hc := hK.out.cell hc0 (by simp)
      have hc' := hK.out.cell hc0' (by simp)
      clear hc0 hc0'
      go_wp2
      go_quiet (fail)
      have hK2 : Hid (Kept [] w (wr.drewN nq)) := hK.out.drewN _
      clear hK
      go_wp2
      go_roundw
      case rel => exact ⟨k + 1, by omega, by go_num, hK2⟩
      case measure => simp [intOf]; omega
    · go_wp2
      go_ret
      exact ⟨rfl, hK.out⟩

set_option maxHeartbeats 400000 in
theorem lwBig_any (a : Option Addr) (n c : Nat) (w : World) :
    Calls Try.prog 4 #[.slice a n c] w (fun e w' => e = .returned (.bool (decide ((1048576 : Int) < (n : Int)))) ∧ w' = w) := by
  go_enter Try.func4, Try.ntmps4
  go_wp2
  go_ret
  exact ⟨rfl, rfl⟩

/-- A slice that a draw made. -/
def Drawn (w w' : World) (a : Option Addr) (c : Nat) (xs : List Int) : Prop := Sl w' a xs.length c xs ∧ Fr w.heap.size a xs.length ∧ Near xs ∧ xs.length ≤ 90
/-- What a draw of two naturals answers. -/
def Draw2R (w : World) (e : Ending) (w' : World) : Prop :=
  ∃ a c xs b d ys, e = .returned (.tuple #[.slice a xs.length c, .slice b ys.length d]) ∧ Drawn w w' a c xs ∧ Drawn w w' b d ys ∧ Kept [] w w'

theorem Sl.keptG {w w' : World} {g B : Nat} {a : Option Addr} {n c : Nat} {xs : List Int} (h : Sl w a n c xs) (k : Kept [g] w w') (hF : Fr B a n) (hg : g < B) : Sl w' a n c xs :=
  h.kept k (fun hn x hx => by have := hF hn x hx; simp; omega)

end Go.Proofs.Ytlhiahhpmjiioaa
