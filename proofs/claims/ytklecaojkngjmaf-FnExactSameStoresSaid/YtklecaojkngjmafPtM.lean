/-
  Contracts of PointsFault, the program's and the model's, of firstFault over points, of eqPointS. Condition: the slices read as lists of numbers, two a point.
-/
import Derived.Deep.RegionHeld3
import Derived.Deep.DrawnRows
import Derived.Deep.DeepCutAuto
import Derived.Test.YtklecaojkngjmafPtL
import Derived.Test.YtklecaojkngjmafRngA
namespace Go.Proofs.Ytklecaojkngjmaf
open Go.RowKit

theorem rd_three12 (w : World) (x : Int) : Rd (w.alloc (.cells #[.int .i64 1, .int .i64 x, .int .i64 12] 2)) (some ⟨w.heap.size, 0, none⟩) 3 [1, x, 12] := by
  have := Sl.ofBlk (Blk.new w [1, x, 12]) (by simp)
  exact this.rd
def OrdB (b : Bool) (n : Nat) : Prop := b = true ↔ OrdTo [1, (n : Int), 12] 3
theorem ord_three12 (n : Nat) (b : Bool) (hb : b = decide (¬ (n < 1 ∨ 12 < n))) : OrdB b n := by
  subst hb
  unfold OrdB
  rw [decide_eq_true_eq]
  constructor
  · intro h i hi
    rcases (by omega : i = 0 ∨ i = 1) with rfl | rfl
    · simp; omega
    · simp; omega
  · intro h
    have h0 := h 0 (by omega)
    have h1 := h 1 (by omega)
    simp at h0 h1
    omega

set_option maxHeartbeats 1000000 in
theorem eqPoint_yes (x y : Int) (w : World) : Calls Try.prog 27 #[.agg #[.int .i64 x, .int .i64 y], .agg #[.int .i64 x, .int .i64 y]] w (Ans w (.bool true)) := by
  go_enter Try.func27, Try.ntmps27
  go_wp2
  go_ret
  exact ⟨rfl, ((Kept.refl _ _).alloc _).alloc _⟩

set_option maxHeartbeats 4000000 in
set_option maxRecDepth 20000 in
theorem eqPointS_yes (a b : Option Addr) (n c c' : Nat) (xs : List Int) (w : World) (h : Rd w a (n * 2) xs) (h' : Rd w b (n * 2) xs) :
    Calls Try.prog 25 #[.slice a n c, .slice b n c'] w (Ans w (.bool true)) := by
  have hmax := h.2.1
  have HR := Lib.hid h
  have HR' := Lib.hid h'
  clear h h'
  go_enter Try.func25, Try.ntmps25
  go_wp2
  go_loopw [5] (fun i wr => ∃ k : Nat, k ≤ n ∧ i = .int .i64 k ∧ Hid (Kept [] w wr)) (fun i _ => n - (intOf i).toNat)
  case atStart => exact ⟨0, Nat.zero_le _, rfl, Kept.refl [] w⟩
  case round =>
    obtain ⟨k, hk, rfl, hK⟩ := hrel
    by_cases hlt : k < n
    · obtain ⟨g, off, rfl, hc0, hc1⟩ := rd_pt HR.out k hlt
      obtain ⟨g', off', rfl, hd0, hd1⟩ := rd_pt HR'.out k hlt
      have c0 := hK.out.cell hc0 (by simp)
      have c1 := hK.out.cell hc1 (by simp)
      have d0 := hK.out.cell hd0 (by simp)
      have d1 := hK.out.cell hd1 (by simp)
      clear hc0 hc1 hd0 hd1
      generalize xs.getD (k * 2) 0 = x0 at *
      generalize xs.getD (k * 2 + 1) 0 = x1 at *
      go_wp2_with fail
      go_region_held3 (fun w' => w'.cell? ⟨g, off + k * 2, none⟩ = some (.int .i64 x0) ∧ w'.cell? ⟨g, off + k * 2 + 1, none⟩ = some (.int .i64 x1) ∧ w'.cell? ⟨g', off' + k * 2, none⟩ = some (.int .i64 x0) ∧ w'.cell? ⟨g', off' + k * 2 + 1, none⟩ = some (.int .i64 x1) ∧ Hid (Kept [] wr w'))
        ((go_split_ands; (try refine ⟨?_, ?_, ?_, ?_, ?_⟩) <;> with_reducible first | exact Lib.hid ((Kept.refl _ _).drew) | exact drew_pt (by assumption) | exact Kept.allocH (by assumption) | exact alloc_cell (by assumption) | exact Lib.hid (Kept.trans0 (Hid.out (by assumption)) (by assumption)) | exact Kept.cell (by assumption) (by assumption) (by simp)))
        (first | (go_at_call 27; go_split_ands; refine (eqPoint_yes _ _ _).mono ?_; rintro e v1 ⟨rfl, hk1⟩))
      have hK2 := Lib.hid (hK.out.trans0 ((Kept.refl [] wr).drew.trans0 hk1))
      clear hK
      go_wp2_with fail
      go_roundw
      case rel => exact ⟨k + 1, by omega, by go_num, hK2⟩
      case measure => simp [intOf]; omega
    · go_wp2
      go_ret
      exact ⟨rfl, hK.out⟩

end Go.Proofs.Ytklecaojkngjmaf
