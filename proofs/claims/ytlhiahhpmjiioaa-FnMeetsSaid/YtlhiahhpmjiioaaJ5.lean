/-
  Several of my texts in one, each as it was: ShelfLen, Root, SpanP, SpanQ. No condition but theirs.
-/
import Derived.Test.YtlhiahhpmjiioaaProg
import Derived.Shelf.Strconv.Itoa0
import Derived.Test.YtlhiahhpmjiioaaBigF
import Derived.Lib.BitFns
import Derived.Deep.LoopGhost
import Derived.Deep.RegionHeld3
import Derived.Deep.DrawnRows
import Derived.Deep.DeepCutAuto
import Derived.Test.YtlhiahhpmjiioaaSpanI
import Derived.Test.YtlhiahhpmjiioaaJ2
import Derived.Test.YtlhiahhpmjiioaaSMul
import Derived.Test.YtlhiahhpmjiioaaJ1
namespace Go.Proofs
open Go.Shelf

end Go.Proofs
namespace Go.Proofs.Ytlhiahhpmjiioaa

end Go.Proofs.Ytlhiahhpmjiioaa

namespace Go.Proofs.Ytlhiahhpmjiioaa
open Go.RowKit

theorem bitLen_zero : Lib.bitLen 0 = 0 := by decide +kernel
theorem bitLen_lt : ∀ (f x : Nat), x ≤ f → x < 2 ^ 64 → (x : Int) < p2 (Lib.bitLen x)
  | 0, x, h, _ => by obtain rfl : x = 0 := by omega
                     rw [bitLen_zero]; simp [p2]
  | f + 1, x, h, hx => by
    by_cases e : x = 0
    · subst e; rw [bitLen_zero]; simp [p2]
    · rw [Lib.bitLen_half x e hx]
      have := bitLen_lt f (x / 2) (by omega) (by omega)
      rw [show 1 + Lib.bitLen (x / 2) = Lib.bitLen (x / 2) + 1 by omega]
      simp only [p2]; omega
theorem bitLen_le : ∀ (k x : Nat), (x : Int) < p2 k → x < 2 ^ 64 → Lib.bitLen x ≤ k
  | 0, x, h, _ => by simp only [p2] at h; obtain rfl : x = 0 := by omega
                     rw [bitLen_zero]; exact Nat.le_refl _
  | k + 1, x, h, hx => by
    by_cases e : x = 0
    · subst e; rw [bitLen_zero]; exact Nat.zero_le _
    · rw [Lib.bitLen_half x e hx]
      simp only [p2] at h
      have := bitLen_le k (x / 2) (by omega) (by omega)
      omega

theorem val_last {xs : List Int} {n : Nat} (h : AllLimbs xs) (hn : xs.length = n + 1) : val xs < pw n * (xs.getD n 0 + 1) := by
  have h1 := val_split xs n (by omega)
  have h2 := (h.take n).val
  have h3 : (xs.take n).length = n := by simp; omega
  rw [h3] at h2
  have h4 : val (xs.drop n) = xs.getD n 0 := by
    rw [val_drop, List.drop_eq_nil_of_le (by omega)]; simp [val]
  rw [h4] at h1
  rw [h1, Int.mul_add]; omega

/-- How many binary digits a number has, at most; none of them is 0 ahead. -/
def BitR (w : World) (X : Int) (e : Ending) (w' : World) : Prop := ∃ L : Nat, e = .returned (.int .i64 L) ∧ w = w' ∧ X < p2 L ∧ L ≤ 640

theorem val_pow (k : Nat) (y : Int) : val (List.replicate k 0 ++ [y]) = pw k * y := by
  rw [val_append]
  have h : ∀ k x, ap (List.replicate k 0) x = pw k * x := by
    intro k
    induction k with
    | zero => intro x; simp [ap, pw]
    | succ k ih => intro x; simp only [List.replicate_succ, ap, pw]; rw [ih, Int.mul_assoc]; omega
  rw [h]; simp [val]
theorem canon_pow (k : Nat) {y : Int} (hy : 1 ≤ y ∧ y ≤ 65535) : Canon (List.replicate k 0 ++ [y]) := by
  induction k with
  | zero => exact ⟨by omega, by omega, trivial, fun _ => by omega⟩
  | succ k ih => exact ⟨by omega, by omega, ih, fun h => by simp at h⟩
theorem set_pow (k : Nat) (y : Int) : (List.replicate (k + 1) (0 : Int)).set k y = List.replicate k 0 ++ [y] := by
  rw [List.replicate_succ', List.set_append_right _ _ (by simp)]; simp
theorem p2_shl : ∀ r : Nat, r ≤ 15 → (1 : Int) * 2 ^ r = p2 r
  | 0, _ => by decide
  | r + 1, h => by simp only [p2]; have := p2_shl r (by omega); rw [Int.pow_succ]; omega

theorem CompareNats_dig (a b : Option Addr) (n c m d : Nat) (x y : Int) (w : World) (h : Rd w a n (digits x)) (h' : Rd w b m (digits y)) (hx : 0 ≤ x) (hy : 0 ≤ y) (hxl : (digits x).length ≤ 40) (hyl : (digits y).length ≤ 40) :
    Calls Try.prog 59 #[.slice a n c, .slice b m d] w (Ans w (.int .i64 (cmpV x y))) := by
  have h1 := nat40_of_canon (canon_digits' x) hxl
  have h2 := nat40_of_canon (canon_digits' y) hyl
  have := CompareNats_any a b n c m d (digits x) (digits y) w h h'
  rwa [if_pos (by rw [fault2_second (nat40_fault h1)]; exact nat40_fault h2), val_digits' hx, val_digits' hy] at this
/-- From above the root a quotient is little greater than what it was divided by. -/
theorem newton_le {v r x : Int} (h : IsRoot v r) (hx : 0 < x) (hr : r ≤ x) : v / x ≤ x + 2 := by
  have h1 := sq_mono (a := r + 1) (b := x + 1) (by have := h.pos; omega) (by omega)
  have h2 := h.high
  have h3 : (x + 1) * (x + 1) = x * x + 2 * x + 1 := by rw [Int.add_mul, Int.mul_add]; omega
  have h4 : v < (x + 3) * x := by rw [Int.add_mul]; omega
  have := Int.ediv_lt_of_lt_mul hx h4
  omega
theorem two_dig : digits 2 = [2] := by rw [digits_pos (by omega), digits_zero (by omega)]; rfl
theorem rd_two (w : World) {g : Nat} (hg : w.heap.size = g) : Rd (w.alloc (.cells #[.int .i64 2] 2)) (some ⟨g, 0, none⟩) 1 [2] := by
  subst hg
  exact (Sl.ofBlk (Blk.new w [2]) (by simp)).rd

/-- The program's root: the limbs lie in memory of the call's own. -/
def RootR (w : World) (v : Int) (e : Ending) (w' : World) : Prop := ∃ a c, e = .returned (.slice a (digits (isq v)).length c) ∧ Sl w' a (digits (isq v)).length c (digits (isq v)) ∧ Fr w.heap.size a (digits (isq v)).length ∧ Kept [] w w'

end Go.Proofs.Ytlhiahhpmjiioaa

namespace Go.Proofs.Ytlhiahhpmjiioaa
open Go.RowKit

theorem make_run (k : Nat) (hk : k ≤ 1000) (w : World) : Sem.run Try.prog (Instr.makeSlice 24 (.int .i64 (k : Int)) (.int .i64 (k : Int))) w = .ok (.slice (some ⟨w.heap.size, 0, none⟩) k k) (w.alloc (.cells (ints (List.replicate k 0)) 2)) := by
  obtain ⟨i0, hi, hz0, hz1, hz2⟩ := info_parts Try.info64
  have h := run_make_row (P := Try.prog) 24 2 i0 (.int .i64 0) Try.underlying24 hi hz0 hz1 rfl .i64 .i64 k (by rw [hz2]; omega) (by omega) w
  rw [made_zeros] at h
  exact h
theorem ow_lit (B : Nat) (w : World) (l : List Int) (hB : B ≤ w.heap.size) (hl : l.length ≤ 1000) : Ow B (w.alloc (.cells (ints l) 2)) (.slice (some ⟨w.heap.size, 0, none⟩) l.length l.length) l := by
  have h := World.ownsRow_lit (base := B) (e := 2) (size := 1) w (ints l) l.length hB (by unfold maxLen; omega) (by simp [ints])
  exact h
theorem canon_zeros {xs : List Int} (k : Nat) (hx : Nat40 xs) (hn : xs.length ≠ 0) : List.replicate k 0 ++ xs = digits (val xs * pw k) := by
  have h1 : AllLimbs (List.replicate k 0 ++ xs) := (AllLimbs.zeros k).append hx.limb
  have hv : val (List.replicate k 0 ++ xs) = val xs * pw k := by
    rw [val_append, ap_pw, val_zeros, List.length_replicate, Int.mul_comm]; omega
  rw [← hv]
  refine digits_of_limbs h1 (fun _ => ?_)
  have ht := hx.top (by omega)
  rw [List.getD_eq_getElem?_getD, List.getElem?_append_right (by simp; omega)] 
  simp only [List.length_append, List.length_replicate] at *
  rw [show k + xs.length - 1 - k = xs.length - 1 by omega]
  rw [List.getD_eq_getElem?_getD] at ht
  exact ht
end Go.Proofs.Ytlhiahhpmjiioaa

namespace Go.Proofs.Ytlhiahhpmjiioaa
open Go.RowKit


/-- A call that answers the units of 1. -/
def OneR (w : World) (k : Nat) (e : Ending) (w' : World) : Prop :=
  ∃ g, e = .returned (.agg #[.bool false, .slice (some ⟨g, 0, none⟩) (digits (p2 k)).length (digits (p2 k)).length]) ∧ w.heap.size ≤ g ∧ Blk w' g (digits (p2 k)) ∧ Kept [] w w'
end Go.Proofs.Ytlhiahhpmjiioaa
