/-
  Several of my texts in one, each as it was: SDiv, SDivN, BigG. No condition but theirs.
-/
import Derived.Test.YtlhiahhpmjiioaaTakeS
import Derived.Test.YtlhiahhpmjiioaaDiv
import Derived.Test.YtlhiahhpmjiioaaNatOf
import Derived.Test.YtlhiahhpmjiioaaJ1
import Derived.Test.YtlhiahhpmjiioaaBigF
namespace Go.Proofs.Ytlhiahhpmjiioaa
open Go.RowKit

/-- What the model's division answers: two slices of new memory. -/
def DivT (w : World) (qs rs : List Int) (e : Ending) (w' : World) : Prop :=
  ∃ a c a' c', e = .returned (.tuple #[.slice a qs.length c, .slice a' rs.length c']) ∧ Sl w' a qs.length c qs ∧ Sl w' a' rs.length c' rs ∧ Fr w.heap.size a qs.length ∧ Fr w.heap.size a' rs.length ∧ Kept [] w w'

theorem len_ge {xs ys : List Int} (hx : Canon xs) (hy : Canon ys) (h : val ys ≤ val xs) : ys.length ≤ xs.length := by
  rcases Nat.lt_or_ge xs.length ys.length with h1 | h1
  · have := val_lt_lenC hx hy h1; omega
  · exact h1

theorem kept_row {b c : World} {row : Option Nat} (hg : b.grownBy c row) : Kept row.toList b c :=
  ⟨hg.os, hg.tape, hg.output, hg.size, fun i hi hL => hg.block i hi (fun e => hL (by rw [← e]; simp))⟩

theorem rd_one (w : World) (x : Int) : Rd (w.alloc (.cells #[.int .i64 x] 2)) (some ⟨w.heap.size, 0, none⟩) 1 [x] :=
  (Sl.ofBlk (Blk.new w [x]) (by simp)).rd

theorem ow_head {B : Nat} {w : World} {a : Option Addr} {n c : Nat} {xs : List Int} (h : Ow B w (.slice a n c) xs) (hn : 0 < n) (hx : xs.length = n) : ∃ g, a = some ⟨g, 0, none⟩ ∧ Blk w g xs ∧ B ≤ g ∧ n ≤ c ∧ c ≤ 9223372036854775807 := by
  have h0 := h
  rcases h.2 with ⟨h1, h2⟩ | ⟨g, cap, cur, h1, _⟩
  · omega
  · simp only [Value.slice.injEq] at h1
    obtain ⟨e1, e2, e3⟩ := h1
    subst e1 e3
    unfold Ow at h0
    rw [hx] at h0
    obtain ⟨b1, b2, b3, b4, b5⟩ := blk_of_owns h0
    unfold maxLen at b5
    exact ⟨g, rfl, b1, b2, b4, by omega⟩

end Go.Proofs.Ytlhiahhpmjiioaa

namespace Go.Proofs.Ytlhiahhpmjiioaa
open Go.RowKit

/-- A call that answers a code and two slices of new memory. -/
def DivS (w : World) (code : Int) (qs rs : List Int) (e : Ending) (w' : World) : Prop :=
  ∃ a c a' c', e = .returned (.agg #[.int .i64 code, .slice a qs.length c, .slice a' rs.length c']) ∧ Sl w' a qs.length c qs ∧ Sl w' a' rs.length c' rs ∧ Fr w.heap.size a qs.length ∧ Fr w.heap.size a' rs.length ∧ Kept [] w w'
theorem div_len (xs ys : List Int) : (divQuot xs ys).length ≤ 100 ∧ (divRest xs ys).length ≤ 100 := by
  by_cases hc : fault2 xs ys = 0 ∧ ys.length ≠ 0
  · have hx := natFault_zero (fault2_zero hc.1).1
    have hy := natFault_zero (fault2_zero hc.1).2
    have hxv := (show AllLimbs xs from hx.limb).val
    have hyv : 0 < val ys := (canon_nonneg hy.canon).2 (fun e => hc.2 (by rw [e]; rfl))
    have hl := hx.len
    have h1 := Int.ediv_le_self (b := val ys) hxv.1
    have h2 := (ediv_spec (X := val xs) hyv)
    have h3 := Int.mul_nonneg (Int.le_of_lt hyv) (Int.ediv_nonneg hxv.1 (Int.le_of_lt hyv))
    have d1 := digits_len xs.length (val xs / val ys) (by omega)
    have d2 := digits_len xs.length (val xs % val ys) (by omega)
    unfold divQuot divRest
    rw [if_pos hc, if_pos hc]; omega
  · unfold divQuot divRest
    rw [if_neg hc, if_neg hc]; simp

end Go.Proofs.Ytlhiahhpmjiioaa

namespace Go.Proofs.Ytlhiahhpmjiioaa
open Go.RowKit
attribute [local go_sem ↓] Go.wp_at_zero Go.wp_at_succ

theorem divZ_neg {p q : Bool} {X Y : Int} : - divZ false (!p) q X Y = divZ true p q X Y := by
  unfold divZ
  cases p <;> cases q <;> simp [sg]
theorem divZ_zero {up p q : Bool} {Y : Int} : divZ up p q 0 Y = 0 := by unfold divZ; simp [sg]
theorem divZ_ceil {p q : Bool} {xs : List Int} {Y : Int} (h : Canon xs) : - divZ false (isNeg (- sv p xs)) q (val xs) Y = divZ true p q (val xs) Y := by
  have h0 := (canon_nonneg h).1
  by_cases e : val xs = 0
  · rw [e, divZ_zero, divZ_zero]; rfl
  · have : isNeg (- sv p xs) = !p := by
      unfold sv
      rw [← sg_not, isNeg_sg h0, decide_eq_true (digits_len_pos (by omega))]
      simp
    rw [this]; exact divZ_neg
/-- Zeros and signs of a big that has a number. -/
theorem bigV_out {B B' : Nat} {w w' : World} {z : Int} {e : Ending} (h : BigV B w z e w') (hB : B' ≤ B) : BigV B' w z e w' := by
  obtain ⟨a, c, h1, h2, h3, h4⟩ := h; exact ⟨a, c, h1, h2, h3.mono hB, h4⟩

/-- A big, stored into the result's block, which is the third one of the call. -/
theorem bigV_fin3 {w w1 : World} {z : Int} {a : Option Addr} {c : Nat} (hS : Sl w1 a (mag z).length c (mag z)) (hF : Fr (w.heap.size + 1 + 1 + 1) a (mag z).length) (hk : Kept [] w w1) :
    BigV w.heap.size w z (.returned (.agg #[.bool (isNeg z), .slice a (mag z).length c])) ((w1.setCell ⟨w.heap.size + 1 + 1, 0, none⟩ (.bool (isNeg z))).setCell ⟨w.heap.size + 1 + 1, 1, none⟩ (.slice a (mag z).length c)) :=
  ⟨a, c, rfl, hS.kept (((Kept.refl [w.heap.size + 1 + 1] w1).setCell _ _ (by simp)).setCell _ _ (by simp)) (fun hn x hx => by have := hF hn x hx; simp; omega), hF.mono (by omega),
    (hk.setCell _ _ (by simp; omega)).setCell _ _ (by simp; omega)⟩

end Go.Proofs.Ytlhiahhpmjiioaa
