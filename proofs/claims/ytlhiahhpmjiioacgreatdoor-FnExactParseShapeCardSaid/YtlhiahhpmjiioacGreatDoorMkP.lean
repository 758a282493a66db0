/-
  Contracts of the laws' helpers over points: marking and holding. Conditions: the slices read as lists of numbers and are short.
-/
import Derived.Test.YtlhiahhpmjiioacGreatDoorShpL
import Derived.Test.YtlhiahhpmjiioacGreatDoorJ1
namespace Go.Proofs.YtlhiahhpmjiioacGreatDoor
open Go.RowKit

/-- A slice of points in a block of its own, or an empty one. -/
def SlP (w : World) (a : Option Addr) (n : Nat) (xs : List Int) : Prop := n ≤ 2000000 ∧ xs.length = n * 2 ∧ (n = 0 ∨ ∃ g, a = some ⟨g, 0, none⟩ ∧ Blk w g xs)
def blkP (a : Option Addr) (n : Nat) : List Nat := if n = 0 then [] else match a with | some x => [x.block] | none => []
theorem SlP.rd {w : World} {a : Option Addr} {n : Nat} {xs : List Int} (h : SlP w a n xs) : Rd w a (n * 2) xs := by
  obtain ⟨h1, h2, h3⟩ := h
  rcases h3 with rfl | ⟨g, rfl, hb⟩
  · exact ⟨h2, by simp, fun k hk => by simp at hk⟩
  · exact rd_newP hb h2 (by omega)
theorem SlP.kept {L : List Nat} {w w' : World} {a : Option Addr} {n : Nat} {xs : List Int} (h : SlP w a n xs) (k : Kept L w w') (hL : ∀ g ∈ blkP a n, g ∉ L) : SlP w' a n xs := by
  obtain ⟨h1, h2, h3⟩ := h
  refine ⟨h1, h2, ?_⟩
  rcases h3 with h3 | ⟨g, rfl, hb⟩
  · exact .inl h3
  · by_cases h0 : n = 0
    · exact .inl h0
    · exact .inr ⟨g, rfl, k.blk hb (hL g (by unfold blkP; rw [if_neg h0]; simp))⟩

set_option maxHeartbeats 1000000 in
theorem markPointS_any (a : Option Addr) (n c : Nat) (xs : List Int) (k : Int) (w : World) (h : SlP w a n xs) (hk : 0 ≤ k ∧ k ≤ 1099511627776) :
    Calls Tryz.prog 35 #[.slice a n c, .int .i64 k] w fun e w' => e = .returned (.int .i64 (k + (n * 2 : Nat))) ∧ SlP w' a n (cnt k (n * 2)) ∧ Kept (blkP a n) w w' := by
  obtain ⟨hk1, hk2⟩ := hk
  obtain ⟨hn, hl, h3⟩ := h
  have HL := Lib.hid hl
  by_cases h0 : n = 0
  · subst h0
    clear hl h3
    go_enter Tryz.func35, Tryz.ntmps35
    go_wp2
    go_loopw [1, 5] (fun q i wr => q = .int .i64 k ∧ i = .int .i64 0 ∧ wr = w) (fun _ i _ => 0 - (intOf i).toNat)
    case atStart => exact ⟨rfl, rfl, rfl⟩
    case round =>
      obtain ⟨rfl, rfl, rfl⟩ := hrel
      go_wp2
      go_ret
      exact ⟨by simp, ⟨by omega, by simp [cnt], .inl rfl⟩, Kept.refl _ _⟩
  · obtain ⟨g, rfl, hb⟩ : ∃ g, a = some ⟨g, 0, none⟩ ∧ Blk w g xs := by
      rcases h3 with h3 | h3
      · exact absurd h3 h0
      · exact h3
    have HB := Lib.hid hb
    have H0 := Lib.hid h0
    clear hl h3 hb h0
    go_enter Tryz.func35, Tryz.ntmps35
    go_wp2
    go_loopw [1, 5] (fun q i wr => ∃ (j : Nat) (ds : List Int), j ≤ n ∧ q = .int .i64 (k + (j : Int) * 2) ∧ i = .int .i64 j ∧ Hid (ds.length = n * 2) ∧ Hid (∀ t, t < j * 2 → ds.getD t 0 = k + t) ∧ Hid (Blk wr g ds) ∧ Hid (Kept [g] w wr)) (fun _ i _ => n - (intOf i).toNat)
    case atStart => exact ⟨0, xs, Nat.zero_le _, by simp, rfl, HL.out, fun t ht => by omega, HB.out, Kept.refl _ _⟩
    case round =>
      obtain ⟨j, ds, hj, rfl, rfl, hDL, hD, hB, hK⟩ := hrel
      by_cases hlt : j < n
      · have hc := hB.out.cell (j := j * 2) (by have := hDL.out; omega)
        have hf := hB.out.frozen (j * 2)
        have hB1 := Lib.hid (hB.out.set (j * 2) (k + (j : Int) * 2))
        have hc1 := hB.out.cell (j := j * 2 + 1) (by have := hDL.out; omega)
        have hf1 := hB.out.frozen (j * 2 + 1)
        have hB2 := Lib.hid (hB1.out.set (j * 2 + 1) (k + (j : Int) * 2 + 1))
        have hDL2 : Hid (((ds.set (j * 2) (k + (j : Int) * 2)).set (j * 2 + 1) (k + (j : Int) * 2 + 1)).length = n * 2) := by show List.length _ = _; rw [List.length_set, List.length_set]; exact hDL.out
        have hjj : ((j * 2 : Nat) : Int) = (j : Int) * 2 := by omega
        have hD2 : Hid (∀ t, t < (j + 1) * 2 → ((ds.set (j * 2) (k + (j : Int) * 2)).set (j * 2 + 1) (k + (j : Int) * 2 + 1)).getD t 0 = k + t) := fun t ht => by
          have hdl := hDL.out
          rcases (by omega : t < j * 2 ∨ t = j * 2 ∨ t = j * 2 + 1) with e | rfl | rfl
          · have := hD.out t e
            simp only [List.getD_eq_getElem?_getD, List.getElem?_set] at this ⊢
            rw [if_neg (by omega), if_neg (by omega)]; exact this
          · simp only [List.getD_eq_getElem?_getD, List.getElem?_set]
            rw [if_neg (by omega), if_pos trivial, if_pos (by omega)]
            show k + (j : Int) * 2 = k + ((j * 2 : Nat) : Int)
            omega
          · simp only [List.getD_eq_getElem?_getD, List.getElem?_set, List.length_set]
            rw [if_pos trivial, if_pos (by omega)]
            show k + (j : Int) * 2 + 1 = k + ((j * 2 + 1 : Nat) : Int)
            omega
        have hK2 : Hid (Kept [g] w ((wr.setCell ⟨g, j * 2, none⟩ (.int .i64 (k + (j : Int) * 2))).setCell ⟨g, j * 2 + 1, none⟩ (.int .i64 (k + (j : Int) * 2 + 1)))) := (hK.out.setCell _ _ (by simp)).setCell _ _ (by simp)
        generalize ds.getD (j * 2) 0 = z0 at hc
        generalize ds.getD (j * 2 + 1) 0 = z1 at hc1
        have hb1 : k + (j : Int) * 2 + 1 + 1 ≤ 4611686018431387904 := by omega
        have hb0 : (0 : Int) ≤ k + (j : Int) * 2 := by omega
        clear hB hK hB1 hjj
        go_wp2
        go_roundw
        case rel => exact ⟨j + 1, _, by omega, by congr 1; omega, by go_num, hDL2, hD2, hB2, hK2⟩
        case measure => simp [intOf]; omega
      · obtain rfl : j = n := by omega
        go_wp2
        go_ret
        refine ⟨by congr 2, ⟨hn, cnt_length k _, .inr ⟨g, rfl, ?_⟩⟩, ?_⟩
        · have e : ds = cnt k (j * 2) := by
            apply List.ext_getElem (by rw [cnt_length]; exact hDL.out)
            intro t h1 h2
            have h3 := hD.out t (by rw [hDL.out] at h1; exact h1)
            have h4 := cnt_getD k (j * 2) t (by rw [hDL.out] at h1; exact h1)
            rw [List.getD_eq_getElem?_getD, List.getElem?_eq_getElem h1, Option.getD_some] at h3
            rw [List.getD_eq_getElem?_getD, List.getElem?_eq_getElem h2, Option.getD_some] at h4
            rw [h3, h4]
          rw [← e]; exact hB.out
        · unfold blkP
          rw [if_neg H0.out]
          exact hK.out

set_option maxHeartbeats 1000000 in
theorem heldPointS_any (a : Option Addr) (n c : Nat) (k : Int) (w : World) (h : SlP w a n (cnt k (n * 2))) (hk : 0 ≤ k ∧ k ≤ 1099511627776) :
    Calls Tryz.prog 36 #[.slice a n c, .int .i64 k] w (Ans w (.int .i64 (k + (n * 2 : Nat)))) := by
  obtain ⟨hk1, hk2⟩ := hk
  have hn := h.1
  have HR := Lib.hid h.rd
  clear h
  go_enter Tryz.func36, Tryz.ntmps36
  go_wp2
  go_loopw [1, 5] (fun q i wr => ∃ (j : Nat), j ≤ n ∧ q = .int .i64 (k + (j : Int) * 2) ∧ i = .int .i64 j ∧ Hid (Kept [] w wr)) (fun _ i _ => n - (intOf i).toNat)
  case atStart => exact ⟨0, Nat.zero_le _, by simp, rfl, Kept.refl _ _⟩
  case round =>
    obtain ⟨j, hj, rfl, rfl, hK⟩ := hrel
    by_cases hlt : j < n
    · obtain ⟨g, off, rfl, p0, p1⟩ := rd_pt HR.out j hlt
      rw [cnt_getD k _ _ (by omega)] at p0 p1
      have hc0 := hK.out.cell p0 (by simp)
      have hc1 := hK.out.cell p1 (by simp)
      rw [show k + ((j * 2 : Nat) : Int) = k + (j : Int) * 2 by omega] at hc0
      rw [show k + ((j * 2 + 1 : Nat) : Int) = k + (j : Int) * 2 + 1 by omega] at hc1
      have hb1 : k + (j : Int) * 2 + 1 + 1 ≤ 4611686018431387904 := by omega
      have hb0 : (0 : Int) ≤ k + (j : Int) * 2 := by omega
      clear p0 p1
      go_wp2
      go_roundw
      case rel => exact ⟨j + 1, by omega, by congr 1; omega, by go_num, hK⟩
      case measure => simp [intOf]; omega
    · obtain rfl : j = n := by omega
      go_wp2
      go_ret
      exact ⟨by congr 2, hK.out⟩

end Go.Proofs.YtlhiahhpmjiioacGreatDoor
