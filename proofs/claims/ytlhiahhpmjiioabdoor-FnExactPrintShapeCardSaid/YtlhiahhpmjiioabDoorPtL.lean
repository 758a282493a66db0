/-
  The laws' helper toPointS: a row of points made anew. Condition: the slice reads as a list of numbers, two a point.
-/
import Derived.Test.YtlhiahhpmjiioabDoorPtC
import Derived.Test.YtlhiahhpmjiioabDoorJ1
namespace Go.Proofs.YtlhiahhpmjiioabDoor
open Go.RowKit

theorem Tryd.infoPt : (Tryd.prog.info? 43).map (fun i => (i.zero, i.size, i.bytes)) = some (some (.agg #[.int .i64 0, .int .i64 0]), 2, 16) := by kernel_rfl

theorem made_zeros2 (n : Nat) : madeCells #[Value.int .i64 0, Value.int .i64 0] (n * 2) = ints (List.replicate (n * 2) 0) := by
  apply Array.ext
  · simp [size_madeCells, ints_size]
  · intro i h1 h2
    have h3 : i % 2 = 0 ∨ i % 2 = 1 := by omega
    have h4 : (ints (List.replicate (n * 2) 0))[i] = .int .i64 0 := by simp [ints]
    rw [h4]
    rcases h3 with h3 | h3 <;> simp [madeCells, h3]

theorem set_part2 (xs : List Int) (n k : Nat) (hk : k < n) (hx : xs.length = n * 2) :
    ((xs.take (k * 2) ++ List.replicate (n * 2 - k * 2) 0).set (k * 2) (xs.getD (k * 2) 0)).set (k * 2 + 1) (xs.getD (k * 2 + 1) 0) = xs.take ((k + 1) * 2) ++ List.replicate (n * 2 - (k + 1) * 2) 0 := by
  rw [set_part xs (n * 2) (k * 2) (by omega) hx, set_part xs (n * 2) (k * 2 + 1) (by omega) hx, show k * 2 + 1 + 1 = (k + 1) * 2 by omega]

/-- The two cells of the k-th point. -/
theorem rd_pt {w : World} {a : Option Addr} {n : Nat} {xs : List Int} (h : Rd w a (n * 2) xs) (k : Nat) (hk : k < n) :
    ∃ g off, a = some ⟨g, off, none⟩ ∧ w.cell? ⟨g, off + k * 2, none⟩ = some (.int .i64 (xs.getD (k * 2) 0)) ∧ w.cell? ⟨g, off + k * 2 + 1, none⟩ = some (.int .i64 (xs.getD (k * 2 + 1) 0)) := by
  obtain ⟨g, off, rfl, hc0⟩ := h.2.2 (k * 2) (by omega)
  obtain ⟨g', off', he, hc1⟩ := h.2.2 (k * 2 + 1) (by omega)
  simp at he
  obtain ⟨rfl, rfl⟩ := he
  exact ⟨g, off, rfl, hc0, hc1⟩

set_option maxHeartbeats 1000000 in
theorem toPointS_any (a : Option Addr) (n c : Nat) (xs : List Int) (w : World) (h : Rd w a (n * 2) xs) (hn : n ≤ 2000000) :
    Calls Tryd.prog 13 #[.slice a n c] w (fun e w' => ∃ g, e = .returned (.slice (some ⟨g, 0, none⟩) n n) ∧ w.heap.size ≤ g ∧ Blk w' g xs ∧ Kept [] w w') := by
  obtain ⟨i0, hi, hzz⟩ := Option.map_eq_some_iff.1 Tryd.infoPt
  simp only [Prod.mk.injEq] at hzz
  obtain ⟨hz0, hz1, hz2⟩ := hzz
  have hlen := h.1
  have hmk : ∀ w : World, (Instr.makeSlice 29 (.int .i64 (n : Int)) (.int .i64 (n : Int))).run Tryd.prog w = .ok (.slice (some ⟨w.heap.size, 0, none⟩) n n) (w.alloc (.cells (madeCells #[Value.int .i64 0, Value.int .i64 0] (n * 2)) 43)) := by
    intro w
    have hr := run_make (P := Tryd.prog) w 29 43 i0 _ Tryd.underlying29 hi hz0 .i64 .i64 n n (by omega) (Int.le_refl _) (by rw [hz2]; omega) (by omega)
    simp only [Int.toNat_natCast, hz1] at hr
    exact hr
  have hb0 : Blk (w.alloc (.cells (madeCells #[Value.int .i64 0, Value.int .i64 0] (n * 2)) 43)) w.heap.size (List.replicate (n * 2) 0) := by
    rw [made_zeros2]
    exact ⟨(ints _, 43), heap_alloc_new w _, by rw [ints_size]; exact Nat.le_refl _, fun k hk => ints_get _ k hk⟩
  have HB := Lib.hid hb0
  have HR := Lib.hid h
  have HL := Lib.hid hlen
  clear hb0 h hlen hi hz0 hz1 hz2
  go_enter Tryd.func13, Tryd.ntmps13
  go_wp2
  go_loopw [4] (fun i wr => ∃ k : Nat, k ≤ n ∧ i = .int .i64 k ∧ Hid (Blk wr w.heap.size (xs.take (k * 2) ++ List.replicate (n * 2 - k * 2) 0)) ∧ Hid (Kept [] w wr)) (fun i _ => n - (intOf i).toNat)
  case atStart => exact ⟨0, Nat.zero_le _, rfl, (by have := HB.out; simpa using this : Blk _ _ _), (Kept.refl [] w).alloc _⟩
  case round =>
    obtain ⟨k, hk, rfl, hB, hK⟩ := hrel
    by_cases hlt : k < n
    · obtain ⟨g, off, rfl, hc0, hc1⟩ := rd_pt HR.out k hlt
      have hc := hK.out.cell hc0 (by simp)
      have hc' := hK.out.cell hc1 (by simp)
      have hlen2 : (xs.take (k * 2) ++ List.replicate (n * 2 - k * 2) (0 : Int)).length = n * 2 := by have := HL.out; simp; omega
      have HS := Lib.hid (set_part2 xs n k hlt HL.out)
      have HB2 := Lib.hid (And.intro hB.out hlen2)
      clear hc0 hc1 hlen2
      generalize xs.getD (k * 2) 0 = x0 at *
      generalize xs.getD (k * 2 + 1) 0 = x1 at *
      go_wp2_with fail
      refine (toPoint_any _ _ _).mono ?_
      rintro e w1 ⟨rfl, h1⟩
      have HB3 := h1.blk HB2.out.1 (by simp)
      have hd := HB3.cell (j := k * 2) (by rw [HB2.out.2]; omega)
      have hd' := HB3.cell (j := k * 2 + 1) (by rw [HB2.out.2]; omega)
      have hf := HB3.frozen (k * 2)
      have hf' := HB3.frozen (k * 2 + 1)
      have hnew := (HB3.set (k * 2) x0).set (k * 2 + 1) x1
      rw [HS.out] at hnew
      have HN := Lib.hid hnew
      have hK2 : Hid (Kept [] w ((w1.setCell ⟨w.heap.size, k * 2, none⟩ (.int .i64 x0)).setCell ⟨w.heap.size, k * 2 + 1, none⟩ (.int .i64 x1))) := ((hK.out.trans0 h1).setCell _ _ (by simp)).setCell _ _ (by simp)
      clear hB hK h1 HB2 HB3 hnew
      go_wp2_with fail
      go_roundw
      case rel => exact ⟨k + 1, by omega, by go_num, HN.out, hK2⟩
      case measure => simp [intOf]; omega
    · obtain rfl : k = n := by omega
      have hx : xs.take (k * 2) ++ List.replicate (k * 2 - k * 2) 0 = xs := by rw [Nat.sub_self, List.replicate_zero, List.append_nil, List.take_of_length_le (Nat.le_of_eq HL.out)]
      have hB2 : Blk wr w.heap.size xs := by have := hB.out; rwa [hx] at this
      have HB2 := Lib.hid hB2
      clear hx hB2 hB
      go_wp2
      go_ret
      exact ⟨w.heap.size, rfl, Nat.le_refl _, HB2.out, hK.out⟩

/-- The first k points have no fault. -/
def PtsTo (xs : List Int) (k : Nat) : Prop := ∀ i, i < k → ptFault (xs.getD (i * 2) 0) (xs.getD (i * 2 + 1) 0) = 0
instance (xs : List Int) (k : Nat) : Decidable (PtsTo xs k) := by unfold PtsTo; exact inferInstance
theorem PtsTo.more {xs : List Int} {k : Nat} {x0 x1 : Int} (h : PtsTo xs k) (h0 : xs.getD (k * 2) 0 = x0) (h1 : xs.getD (k * 2 + 1) 0 = x1) (hz : ptFault x0 x1 = 0) : PtsTo xs (k + 1) := by
  intro i hi
  by_cases he : i < k
  · exact h i he
  · obtain rfl : i = k := by omega
    rw [h0, h1]; exact hz
/-- The first fault of the points. -/
def ptsFirst (xs : List Int) (n : Nat) : Int := if PtsTo xs n then 0 else 3
theorem ptsFirst_yes {xs : List Int} {n : Nat} (h : PtsTo xs n) : ptsFirst xs n = 0 := if_pos h
theorem ptsFirst_no {xs : List Int} {n k : Nat} {x0 x1 : Int} (hk : k < n) (h0 : xs.getD (k * 2) 0 = x0) (h1 : xs.getD (k * 2 + 1) 0 = x1) (hz : ptFault x0 x1 ≠ 0) : ptsFirst xs n = ptFault x0 x1 := by
  have e3 : ptFault x0 x1 = 3 := by
    by_cases hi : InPt x0 x1
    · exact absurd (ptFault_yes hi) hz
    · exact ptFault_no hi
  rw [e3]
  exact if_neg (fun h => hz (by have := h k hk; rwa [h0, h1] at this))
def ptsFault (xs : List Int) (n : Nat) : Int := if n < 1 ∨ 12 < n then 2 else ptsFirst xs n
theorem ptsFault_many {xs : List Int} {n : Nat} (h : n < 1 ∨ 12 < n) : ptsFault xs n = 2 := if_pos h
theorem ptsFault_in {xs : List Int} {n : Nat} (h : ¬ (n < 1 ∨ 12 < n)) : ptsFault xs n = ptsFirst xs n := if_neg h

theorem rd_newP {w : World} {g : Nat} {xs : List Int} {n : Nat} (h : Blk w g xs) (hn : xs.length = n) (hm : n ≤ 4000000) : Rd w (some ⟨g, 0, none⟩) n xs := by
  subst hn; exact (Sl.ofBlk h (by omega)).rd

end Go.Proofs.YtlhiahhpmjiioabDoor
