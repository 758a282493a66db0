/-
  Contracts of NatOf and l1Nat. Condition: the number is an int64.
-/
import Derived.Test.YtlhiahhpmjiioaaJ1
import Derived.Handy
namespace Go.Proofs.Ytlhiahhpmjiioaa
open Go.RowKit

set_option maxHeartbeats 400000 in
theorem l1Nat_any (x : Int) (w : World) (hx : x ≤ 9223372036854775807) :
    Calls Try.prog 43 #[.int .i64 x] w (SlR w (digits x)) := by
  have hlen : (digits x).length ≤ 4 := digits_len 4 x (by simp only [pw]; omega)
  have HLEN := Lib.hid hlen
  clear hlen
  go_enter Try.func43, Try.ntmps43
  go_wp2
  go_loopw [0, 3] (fun i v wr => ∃ (y : Int) (xs : List Int), i = .int .i64 y ∧ y ≤ 9223372036854775807 ∧ Hid (xs ++ digits y = digits x) ∧ Hid (Ow w.heap.size wr v xs) ∧ Hid (Kept [] w wr)) (fun i _ _ => (intOf i).toNat)
  case atStart =>
    exact ⟨x, [], rfl, hx, rfl, Ow.empty _ w (Nat.le_refl _), (Kept.refl [] w).alloc _⟩
  case round =>
    obtain ⟨y, xs, rfl, hy, hD, hO, hK⟩ := hrel
    by_cases hp : 0 < y
    · have hD2 : Hid ((xs ++ [y % 65536]) ++ digits (y / 65536) = digits x) := by
        have := hD.out
        rw [digits_pos hp] at this
        show (xs ++ [y % 65536]) ++ digits (y / 65536) = digits x
        rw [← this]; simp
      have hxl : xs.length ≤ 4 := by
        have := HLEN.out
        rw [← hD.out] at this
        simp at this; omega
      have hsz : w.heap.size ≤ wr.heap.size := hK.out.size
      go_wp2_with (at_builtin; refine app1 rfl _ _ rfl w.heap.size u3 xs rfl (hO.out.alloc _) wr.heap.size (y % 65536) rfl (by simp) (by omega) (by simp; omega) ?_)
      intro v' w1 hO2 hG
      have HO2 := Lib.hid hO2
      have HK2 : Hid (Kept [] w w1) := kept_grown (hK.out.alloc _) (hO.out.alloc _) hG (Nat.le_refl _)
      clear hO2 hG
      go_wp2
      go_roundw
      case rel => exact ⟨y / 65536, xs ++ [y % 65536], rfl, by omega, hD2, HO2.out, HK2⟩
      case measure => simp [intOf]; omega
    · have hx2 : Hid (xs = digits x) := by
        have := hD.out
        rw [digits_zero (Int.not_lt.1 hp), List.append_nil] at this
        exact this
      go_wp2
      go_ret
      exact ⟨u3, rfl, by have := hO.out; rw [hx2.out] at this; exact this, hK.out⟩

end Go.Proofs.Ytlhiahhpmjiioaa
