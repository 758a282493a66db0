/-
  Contracts of the small helpers: toInt64S, eqInt64S, inOrder, l1In. Condition: the slices read as lists of numbers.
-/
import Derived.Test.YtjndjjdffifgcaaBase
import Derived.Test.YtjndjjdffifgcaaProg
import Derived.WalkKit
import Derived.WalkSpells
import Derived.WalkLawsBesides
import Derived.BigQuiet
import Derived.Deep.DeepFit
import Derived.Deep.OwnRows
namespace Go.Proofs.Ytjndjjdffifgcaa
open Go.RowKit

/-- A call that answers a slice in a new block. -/
def NewS (w : World) (xs : List Int) (e : Ending) (w' : World) : Prop :=
  ∃ g, e = .returned (.slice (some ⟨g, 0, none⟩) xs.length xs.length) ∧ w.heap.size ≤ g ∧ Blk w' g xs ∧ Kept [] w w'

theorem set_part (xs : List Int) (n k : Nat) (hk : k < n) (hx : xs.length = n) :
    (xs.take k ++ List.replicate (n - k) 0).set k (xs.getD k 0) = xs.take (k + 1) ++ List.replicate (n - (k + 1)) 0 := by
  subst hx
  rw [List.set_append]
  simp only [List.length_take, Nat.min_eq_left (Nat.le_of_lt hk)]
  rw [if_neg (Nat.lt_irrefl k), Nat.sub_self]
  obtain ⟨m, hm⟩ : ∃ m, xs.length - k = m + 1 := ⟨xs.length - k - 1, by omega⟩
  rw [hm, show xs.length - (k + 1) = m by omega, List.replicate_succ]
  rw [List.take_succ_eq_append_getElem hk, List.append_assoc]
  congr 1
  simp [List.getD_eq_getElem?_getD, hk]

set_option maxHeartbeats 400000 in
theorem toInt64S_any (a : Option Addr) (n c : Nat) (xs : List Int) (w : World) (h : Rd w a n xs) (hn : n ≤ 2000000) :
    Calls Try.prog 74 #[.slice a n c] w (NewS w xs) := by
  obtain ⟨i0, hi, hz0, hz1, hz2⟩ := info_parts Try.info64
  have hlen := h.1
  have hmk := fun (w : World) => run_make_row (P := Try.prog) 22 2 i0 (.int .i64 0) Try.underlying22 hi hz0 hz1 rfl .i64 .i64 n (by rw [hz2]; omega) (by omega) w
  have hb0 := Blk.new w (List.replicate n 0)
  rw [← made_zeros] at hb0
  have HB := Lib.hid hb0
  have HR := Lib.hid h
  have HL := Lib.hid hlen
  clear hb0 h hlen hi hz0 hz1 hz2
  go_enter Try.func74, Try.ntmps74
  go_wp2
  go_loopw [4] (fun i wr => ∃ k : Nat, k ≤ n ∧ i = .int .i64 k ∧ Hid (Blk wr w.heap.size (xs.take k ++ List.replicate (n - k) 0)) ∧ Hid (Kept [] w wr)) (fun i _ => n - (intOf i).toNat)
  case atStart => exact ⟨0, Nat.zero_le _, rfl, (by have := HB.out; simpa using this : Blk _ _ _), (Kept.refl [] w).alloc _⟩
  case round =>
    obtain ⟨k, hk, rfl, hB, hK⟩ := hrel
    by_cases hlt : k < n
    · obtain ⟨g, off, rfl, hc0⟩ := HR.out.2.2 k hlt
      have hc := hK.out.cell hc0 (by simp)
      have hlen2 : (xs.take k ++ List.replicate (n - k) (0 : Int)).length = n := by have := HL.out; simp; omega
      have hd := hB.out.cell (j := k) (by omega)
      have hf := hB.out.frozen k
      have hnew := hB.out.set k (xs.getD k 0)
      rw [set_part xs n k hlt HL.out] at hnew
      have HN := Lib.hid hnew
      have hK2 : Hid (Kept [] w (wr.setCell ⟨w.heap.size, k, none⟩ (.int .i64 (xs.getD k 0)))) := hK.out.setCell _ _ (by simp)
      clear hc0 hnew hlen2 hB hK
      go_wp2
      go_roundw
      case rel => exact ⟨k + 1, by omega, by go_num, HN.out, hK2⟩
      case measure => simp [intOf]; omega
    · obtain rfl : k = n := by omega
      have hx : xs.take k ++ List.replicate (k - k) 0 = xs := by rw [Nat.sub_self, List.replicate_zero, List.append_nil, List.take_of_length_le (Nat.le_of_eq HL.out)]
      have hB2 : Blk wr w.heap.size xs := by have := hB.out; rwa [hx] at this
      have HB2 := Lib.hid hB2
      clear hx hB2 hB
      go_wp2
      go_ret
      exact ⟨w.heap.size, by rw [HL.out]; rfl, Nat.le_refl _, HB2.out, hK.out⟩

/-- A call that answers v and changes nothing that was there. -/
def Ans (w : World) (v : Value) (e : Ending) (w' : World) : Prop := e = .returned v ∧ Kept [] w w'

set_option maxHeartbeats 400000 in
theorem eqInt64S_yes (a b : Option Addr) (n c c' : Nat) (xs : List Int) (w : World) (h : Rd w a n xs) (h' : Rd w b n xs) :
    Calls Try.prog 79 #[.slice a n c, .slice b n c'] w (Ans w (.bool true)) := by
  have hlen := h.1
  have hmax := h.2.1
  have HR := Lib.hid h
  have HR' := Lib.hid h'
  have HL := Lib.hid hlen
  clear h h' hlen
  go_enter Try.func79, Try.ntmps79
  go_wp2
  go_loopw [5] (fun i wr => ∃ k : Nat, k ≤ n ∧ i = .int .i64 k ∧ Hid (Kept [] w wr)) (fun i _ => n - (intOf i).toNat)
  case atStart => exact ⟨0, Nat.zero_le _, rfl, Kept.refl [] w⟩
  case round =>
    obtain ⟨k, hk, rfl, hK⟩ := hrel
    by_cases hlt : k < n
    · obtain ⟨g, off, rfl, hc0⟩ := HR.out.2.2 k hlt
      obtain ⟨g', off', rfl, hc0'⟩ := HR'.out.2.2 k hlt
      have hc := hK.out.cell hc0 (by simp)
      have hc' := hK.out.cell hc0' (by simp)
      clear hc0 hc0'
      go_wp2
      go_quiet (fail)
      have hK2 : Hid (Kept [] w (wr.drewN nq)) := hK.out.drewN _
      clear hK
      go_wp2
      go_roundw
      case rel => exact ⟨k + 1, by omega, by go_num, hK2⟩
      case measure => simp [intOf]; omega
    · go_wp2
      go_ret
      exact ⟨rfl, hK.out⟩

/-- Each number is not above the one behind it, below place k. -/
def OrdTo (xs : List Int) (k : Nat) : Prop := ∀ i, i + 1 < k → xs.getD i 0 ≤ xs.getD (i + 1) 0

set_option maxHeartbeats 400000 in
theorem inOrder_any (a : Option Addr) (n c : Nat) (xs : List Int) (w : World) (h : Rd w a n xs) (b : Bool) (hb : b = true ↔ OrdTo xs n) :
    Calls Try.prog 141 #[.slice a n c] w (Ans w (.bool b)) := by
  have hlen := h.1
  have hmax := h.2.1
  have HR := Lib.hid h
  have HL := Lib.hid hlen
  have HB := Lib.hid hb
  clear h hlen hb
  go_enter Try.func141, Try.ntmps141
  go_wp2
  go_loopw [3] (fun i wr => ∃ k : Nat, 1 ≤ k ∧ (k ≤ n ∨ k = 1) ∧ i = .int .i64 k ∧ Hid (OrdTo xs k) ∧ Hid (Kept [] w wr)) (fun i _ => n - (intOf i).toNat)
  case atStart => exact ⟨1, Nat.le_refl _, Or.inr rfl, rfl, fun i hi => by omega, Kept.refl [] w⟩
  case round =>
    obtain ⟨k, hk1, hk, rfl, hO, hK⟩ := hrel
    by_cases hlt : k < n
    · obtain ⟨g, off, rfl, hc0⟩ := HR.out.2.2 k hlt
      obtain ⟨g', off', he, hc0'⟩ := HR.out.2.2 (k - 1) (by omega)
      simp at he
      obtain ⟨rfl, rfl⟩ := he
      have hc := hK.out.cell hc0 (by simp)
      have hc' := hK.out.cell hc0' (by simp)
      have e1 : IntKind.i64.wrap ((k : Int) - 1) = (k : Int) - 1 := IntWalk.i64_in _ (by omega)
      have hlt1 : k - 1 < n := by omega
      have hlt2 : (k : Int) - 1 < n := by omega
      have hnn : (1 : Int) ≤ k := by omega
      have hcm : k ≤ 9223372036854775807 := by omega
      clear hc0 hc0' hk
      by_cases hle : xs.getD (k - 1) 0 ≤ xs.getD k 0
      · have hle' : ¬ xs.getD k 0 < xs.getD (k - 1) 0 := by omega
        have hO2 : Hid (OrdTo xs (k + 1)) := fun i hi => by
          by_cases he : i + 1 < k
          · exact hO.out i he
          · obtain rfl : i = k - 1 := by omega
            rw [Nat.sub_add_cancel hk1]; exact hle
        generalize hy : xs.getD (k - 1) 0 = y at *
        generalize hz : xs.getD k 0 = z at *
        have HY := Lib.hid hy
        have HZ := Lib.hid hz
        clear hy hz
        go_wp2
        go_quiet (fail)
        have hK2 : Hid (Kept [] w (wr.drewN nq)) := hK.out.drewN _
        clear hK
        go_wp2
        go_roundw
        case rel => exact ⟨k + 1, by omega, Or.inl (by omega), by go_num, hO2, hK2⟩
        case measure => simp [intOf]; omega
      · have hle' : xs.getD k 0 < xs.getD (k - 1) 0 := by omega
        have hf : Hid (b = false) := by
          cases b with
          | false => exact rfl
          | true =>
            have := HB.out.1 rfl (k - 1) (by omega)
            rw [Nat.sub_add_cancel hk1] at this
            omega
        generalize hy : xs.getD (k - 1) 0 = y at *
        generalize hz : xs.getD k 0 = z at *
        have HY := Lib.hid hy
        have HZ := Lib.hid hz
        clear hy hz
        go_wp2
        go_quiet (fail)
        have hK2 : Hid (Kept [] w (wr.drewN nq)) := hK.out.drewN _
        clear hK
        go_wp2
        go_ret
        exact ⟨by rw [hf.out]; rfl, hK2.out⟩
    · have ht : Hid (b = true) := HB.out.2 (fun i hi => hO.out i (by omega))
      go_wp2
      go_ret
      exact ⟨by rw [ht.out]; rfl, hK.out⟩

end Go.Proofs.Ytjndjjdffifgcaa
