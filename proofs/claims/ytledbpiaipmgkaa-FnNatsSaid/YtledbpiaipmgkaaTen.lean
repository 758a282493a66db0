/-
  Contract of takeTenth: limbs are divided by ten in place. Condition: the slice reads as a list of limbs.
-/
import Derived.Test.YtledbpiaipmgkaaShort
import Derived.Test.YtledbpiaipmgkaaJ1
namespace Go.Proofs.Ytledbpiaipmgkaa
open Go.RowKit

/-- What a division by ten in place answers: the digit; the limbs lie where they lay. -/
def TenR (w : World) (a : Option Addr) (n c : Nat) (X : Int) (e : Ending) (w' : World) : Prop :=
  ∃ Q, e = .returned (.int .i64 (X % 10)) ∧ Q.length = n ∧ AllLimbs Q ∧ val Q = X / 10 ∧ Sl w' a n c Q ∧ Kept (blkOf a n) w w'

set_option maxHeartbeats 2000000 in
theorem takeTenth_any (a : Option Addr) (n c : Nat) (xs : List Int) (w : World) (h : Sl w a n c xs) (hl : AllLimbs xs) (hn : n ≤ 1000000) :
    Calls Try.prog 67 #[.slice a n c] w (TenR w a n c (val xs)) := by
  have h2 := h.2.1
  have h3 := h.2.2.1
  have HH := Lib.hid h
  have HL := Lib.hid h.1
  have HLL := Lib.hid hl
  rcases (by omega : n = 0 ∨ 0 < n) with rfl | hpos
  · have hx : xs = [] := List.eq_nil_of_length_eq_zero h.1
    subst hx
    clear h hl
    go_enter Try.func67, Try.ntmps67
    go_wp2
    go_loopw [3, 4] (fun q i wr => q = .int .i64 0 ∧ i = .int .i64 (-1) ∧ wr = w) (fun _ _ _ => 0)
    case atStart => exact ⟨rfl, rfl, rfl⟩
    case round =>
      obtain ⟨rfl, rfl, rfl⟩ := hrel
      go_wp2
      go_ret
      exact ⟨[], rfl, rfl, fun i hi => by simp at hi, rfl, HH.out, Kept.refl _ _⟩
  · obtain ⟨g, off, cs, rfl, hb, hlc, he⟩ : ∃ g off cs, a = some ⟨g, off, none⟩ ∧ Blk w g cs ∧ off + n ≤ cs.length ∧ ∀ k, k < n → cs.getD (off + k) 0 = xs.getD k 0 := by
      rcases h.2.2.2.2 with h4 | h4
      · omega
      · exact h4
    have HB := Lib.hid hb
    have HCL := Lib.hid hlc
    have HE := Lib.hid he
    clear h hl hb hlc he
    go_enter Try.func67, Try.ntmps67
    go_wp2
    go_loopw [3, 4] (fun q i wr => ∃ (k : Nat) (Q ds : List Int), k ≤ n ∧ i = .int .i64 ((k : Int) - 1) ∧ q = .int .i64 (val (xs.drop k) % 10) ∧ Hid (ShortAt xs 10 k Q) ∧ Hid (ds.length = cs.length) ∧ Hid (∀ t, t < n → ds.getD (off + t) 0 = if t < k then xs.getD t 0 else Q.getD t 0) ∧ Hid (Blk wr g ds) ∧ Hid (Kept [g] w wr)) (fun _ i _ => (intOf i + 1).toNat)
    case atStart => exact ⟨n, _, cs, Nat.le_refl _, rfl, by rw [List.drop_of_length_le (Nat.le_of_eq HL.out)]; rfl, by have := ShortAt.start xs 10; rw [HL.out] at this; exact this, rfl, fun t ht => by rw [if_pos ht, HE.out t ht], HB.out, Kept.refl _ _⟩
    case round =>
      obtain ⟨k, Q, ds, hk, rfl, rfl, hS, hDL, hD, hB, hK⟩ := hrel
      by_cases hlt : 0 < k
      · obtain ⟨j, rfl⟩ : ∃ j, k = j + 1 := ⟨k - 1, by omega⟩
        have ej : (((j + 1 : Nat) : Int) - 1) = (j : Int) := by omega
        rw [ej]
        have hc := hB.out.cell (j := off + j) (by have := hDL.out; have := HCL.out; omega)
        rw [hD.out j (by omega), if_pos (by omega)] at hc
        have hf := hB.out.frozen (off + j)
        have hx := HLL.out j (by rw [HL.out]; omega)
        obtain ⟨s1, s2, s3, s4⟩ := hS.out.step HLL.out (by omega) (by rw [HL.out]; omega)
        have hr1 := Int.emod_nonneg (val (xs.drop (j + 1))) (by omega : (10 : Int) ≠ 0)
        have hr2 := Int.emod_lt_of_pos (val (xs.drop (j + 1))) (by omega : (0 : Int) < 10)
        generalize hr : val (xs.drop (j + 1)) % 10 = r at *
        obtain ⟨u, hu⟩ : ∃ u, u = r * 65536 + xs.getD j 0 := ⟨_, rfl⟩
        rw [← hu] at s1 s2 s3 s4
        obtain ⟨x, hxe⟩ : ∃ x, x = xs.getD j 0 := ⟨_, rfl⟩
        rw [← hxe] at hu hx hc
        obtain ⟨hx1, hx2⟩ := hx
        have hu1 : 0 ≤ u := by omega
        have hu2 : u ≤ 655360 := by omega
        have e1 : IntKind.i64.wrap (r * 65536) = r * 65536 := IntWalk.i64_in _ (by omega)
        have e2 : IntKind.i64.wrap (r * 65536 + x) = u := by rw [← hu]; exact IntWalk.i64_in _ (by omega)
        have e3 : IntKind.i64.wrap ((j : Int) - 1) = (j : Int) - 1 := IntWalk.i64_in _ (by omega)
        have HS2 := Lib.hid s1
        have HR2 := Lib.hid s2
        have HB2 := Lib.hid (hB.out.set (off + j) (u / 10))
        have HDL2 : Hid ((ds.set (off + j) (u / 10)).length = cs.length) := by show _ = _; rw [List.length_set]; exact hDL.out
        have HD2 : Hid (∀ t, t < n → (ds.set (off + j) (u / 10)).getD (off + t) 0 = if t < j then xs.getD t 0 else (Q.set j (u / 10)).getD t 0) := fun t ht => by
          have h9 := hD.out t ht
          have hq := hS.out.1
          by_cases e : t = j
          · subst e
            rw [if_neg (Nat.lt_irrefl _)]
            simp [List.getD_eq_getElem?_getD, show off + t < ds.length by have := hDL.out; have := HCL.out; omega, show t < Q.length by rw [hq, HL.out]; exact ht]
          · simp only [List.getD_eq_getElem?_getD] at h9 ⊢
            rw [List.getElem?_set_ne (by omega), List.getElem?_set_ne (by omega), h9]
            by_cases e2 : t < j
            · rw [if_pos (by omega), if_pos e2]
            · rw [if_neg (by omega), if_neg e2]
        have HK2 := Lib.hid (hK.out.setCell ⟨g, off + j, none⟩ (.int .i64 (u / 10)) (by simp))
        have hjn : j < n := by omega
        clear s1 s2 hr hu hxe hS hDL hD hB hK hlt ej hk hr2
        go_wp2
        go_roundw
        case rel => exact ⟨j, _, _, by omega, by congr 1, by rw [HR2.out], HS2, HDL2, HD2, HB2.out, HK2.out⟩
        case measure => simp [intOf]
      · obtain rfl : k = 0 := by omega
        rw [List.drop_zero]
        have hq := hS.out
        have hv : val Q = val xs / 10 := by have := hq.2.2; simpa using this
        have hsl : Sl wr (some ⟨g, off, none⟩) n c Q := ⟨by rw [hq.1, HL.out], h2, h3, by simp, Or.inr ⟨g, off, ds, rfl, hB.out, by have := hDL.out; have := HCL.out; omega, fun t ht => by rw [hD.out t ht, if_neg (by omega)]⟩⟩
        have HSL := Lib.hid hsl
        have HV := Lib.hid hv
        have HQ1 := Lib.hid (show Q.length = n by rw [hq.1, HL.out])
        have HQ2 := Lib.hid hq.2.1
        have HKK : Hid (Kept (blkOf (some ⟨g, off, none⟩) n) w wr) := by
          show Kept _ w wr
          unfold blkOf
          rw [if_neg (by omega)]
          exact hK.out
        clear hq hv hsl hS hDL hD hB hK
        go_wp2
        go_ret
        exact ⟨Q, rfl, HQ1.out, HQ2.out, HV.out, HSL.out, HKK.out⟩

end Go.Proofs.Ytledbpiaipmgkaa
