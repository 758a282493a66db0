/-
  Contracts of the helpers of the laws: marking and comparing results. Conditions: the slices read as lists of numbers and are short.
-/
import Derived.Test.YtjndjjdffifgcaaOwn
import Derived.Handy
namespace Go.Proofs.Ytjndjjdffifgcaa
open Go.RowKit

/-- The block that a slice of n elements lies in. -/
def blkOf (a : Option Addr) (n : Nat) : List Nat := if n = 0 then [] else match a with | some x => [x.block] | none => []
theorem blkOf_mem {a : Option Addr} {n k : Nat} (h : k ∈ blkOf a n) : 0 < n ∧ ∃ x, a = some x ∧ x.block = k := by
  unfold blkOf at h
  split at h
  · cases h
  · cases a with
    | none => cases h
    | some x => simp at h; exact ⟨by omega, x, rfl, h.symm⟩

theorem blkOf_one {g n k : Nat} (h : k ∈ blkOf (some ⟨g, 0, none⟩) n) : k = g := by
  obtain ⟨_, y, hy, e⟩ := blkOf_mem h
  cases hy; exact e.symm

set_option maxHeartbeats 400000 in
theorem markInt64S_any (a : Option Addr) (n c : Nat) (xs : List Int) (k : Int) (w : World) (h : Sl w a n c xs) (hn : n ≤ 4000000) (hk : 0 ≤ k ∧ k ≤ 4611686018427387904) :
    Calls Try.prog 80 #[.slice a n c, .int .i64 k] w fun e w' => e = .returned (.int .i64 (k + n)) ∧ Sl w' a n c (cnt k n) ∧ Kept (blkOf a n) w w' := by
  obtain ⟨hk1, hk2⟩ := hk
  have hz : n = 0 ∨ 0 < n := by omega
  have HH := Lib.hid h
  have h1 := h.1
  have h2 := h.2.1
  have h3 := h.2.2.1
  have HL := Lib.hid h1
  have HN0 := Lib.hid h.2.2.2.1
  rcases hz with rfl | hpos
  · clear h h1
    go_enter Try.func80, Try.ntmps80
    go_wp2
    go_loopw [1, 5] (fun q i wr => q = .int .i64 k ∧ i = .int .i64 0 ∧ wr = w) (fun _ i _ => 0 - (intOf i).toNat)
    case atStart => exact ⟨rfl, rfl, rfl⟩
    case round =>
      obtain ⟨rfl, rfl, rfl⟩ := hrel
      go_wp2
      go_ret
      exact ⟨by simp, ⟨by simp [cnt], Nat.zero_le _, by omega, HN0.out, Or.inl rfl⟩, Kept.refl _ _⟩
  · obtain ⟨g, off, cs, rfl, hb, hl, he⟩ : ∃ g off cs, a = some ⟨g, off, none⟩ ∧ Blk w g cs ∧ off + n ≤ cs.length ∧ ∀ k, k < n → cs.getD (off + k) 0 = xs.getD k 0 := by
      rcases h.2.2.2.2 with h4 | h4
      · omega
      · exact h4
    have HB := Lib.hid hb
    have HCL := Lib.hid hl
    clear h h1 he hb hl
    go_enter Try.func80, Try.ntmps80
    go_wp2
    go_loopw [1, 5] (fun q i wr => ∃ (j : Nat) (ds : List Int), j ≤ n ∧ q = .int .i64 (k + j) ∧ i = .int .i64 j ∧ Hid (ds.length = cs.length) ∧ Hid (∀ t, t < j → ds.getD (off + t) 0 = k + t) ∧ Hid (Blk wr g ds) ∧ Hid (Kept [g] w wr)) (fun _ i _ => n - (intOf i).toNat)
    case atStart => exact ⟨0, cs, Nat.zero_le _, by simp, rfl, rfl, fun t ht => by omega, HB.out, Kept.refl _ _⟩
    case round =>
      obtain ⟨j, ds, hj, rfl, rfl, hDL, hD, hB, hK⟩ := hrel
      by_cases hlt : j < n
      · have hc := hB.out.cell (j := off + j) (by have := HCL.out; have := hDL.out; omega)
        have hf := hB.out.frozen (off + j)
        have hnew : Hid (Blk (wr.setCell ⟨g, off + j, none⟩ (.int .i64 (k + j))) g (ds.set (off + j) (k + j))) := hB.out.set _ _
        have hDL2 : Hid ((ds.set (off + j) (k + j)).length = cs.length) := by show (ds.set (off + j) (k + j)).length = cs.length; rw [List.length_set]; exact hDL.out
        have hD2 : Hid (∀ t, t < j + 1 → (ds.set (off + j) (k + j)).getD (off + t) 0 = k + t) := fun t ht => by
          have := HCL.out
          have := hDL.out
          by_cases e : t = j
          · subst e
            simp [List.getD_eq_getElem?_getD, show off + t < ds.length by omega]
          · have := hD.out t (by omega)
            simp only [List.getD_eq_getElem?_getD, List.getElem?_set] at this ⊢
            rw [if_neg (by omega)]; exact this
        have hK2 : Hid (Kept [g] w (wr.setCell ⟨g, off + j, none⟩ (.int .i64 (k + j)))) := hK.out.setCell _ _ (by simp)
        have hb1 : k + (j : Int) + 1 ≤ 4611686018431387904 := by omega
        have hb0 : (0 : Int) ≤ k + (j : Int) := by omega
        clear hB hK
        go_wp2
        go_roundw
        case rel => exact ⟨j + 1, _, by omega, by congr 1; omega, by go_num, hDL2, hD2, hnew, hK2⟩
        case measure => simp [intOf]; omega
      · obtain rfl : j = n := by omega
        go_wp2
        go_ret
        refine ⟨rfl, ⟨cnt_length k j, h2, h3, by simp, Or.inr ⟨g, off, ds, rfl, hB.out, by have := HCL.out; have := hDL.out; omega, fun t ht => by rw [hD.out t ht, cnt_getD k j t ht]⟩⟩, ?_⟩
        unfold blkOf
        rw [if_neg (by omega)]
        exact hK.out

set_option maxHeartbeats 400000 in
theorem heldInt64S_any (a : Option Addr) (n c : Nat) (k : Int) (w : World) (h : Rd w a n (cnt k n)) (hn : n ≤ 4000000) (hk : 0 ≤ k ∧ k ≤ 4611686018427387904) :
    Calls Try.prog 127 #[.slice a n c, .int .i64 k] w (Ans w (.int .i64 (k + n))) := by
  obtain ⟨hk1, hk2⟩ := hk
  have HR := Lib.hid h
  clear h
  go_enter Try.func127, Try.ntmps127
  go_wp2
  go_loopw [1, 5] (fun q i wr => ∃ (j : Nat), j ≤ n ∧ q = .int .i64 (k + j) ∧ i = .int .i64 j ∧ Hid (Kept [] w wr)) (fun _ i _ => n - (intOf i).toNat)
  case atStart => exact ⟨0, Nat.zero_le _, by simp, rfl, Kept.refl _ _⟩
  case round =>
    obtain ⟨j, hj, rfl, rfl, hK⟩ := hrel
    by_cases hlt : j < n
    · obtain ⟨g, off, rfl, hc0⟩ := HR.out.2.2 j hlt
      rw [cnt_getD k n j hlt] at hc0
      have hc := hK.out.cell hc0 (by simp)
      have hb1 : k + (j : Int) + 1 ≤ 4611686018431387904 := by omega
      have hb0 : (0 : Int) ≤ k + (j : Int) := by omega
      clear hc0
      go_wp2
      go_roundw
      case rel => exact ⟨j + 1, by omega, by congr 1; omega, by go_num, hK⟩
      case measure => simp [intOf]; omega
    · obtain rfl : j = n := by omega
      go_wp2
      go_ret
      exact ⟨rfl, hK.out⟩

end Go.Proofs.Ytjndjjdffifgcaa
