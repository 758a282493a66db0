/-
  Contracts of the laws' helpers over stores: marking and holding a store. Conditions: the store lies in blocks of its own; the marks are no great numbers.
-/
import Derived.Deep.RegionHeld3
import Derived.Deep.DrawnRows
import Derived.Deep.DeepCutAuto
import Derived.Test.YtklecaojkngjmadStoK
namespace Go.Proofs.Ytklecaojkngjmad
open Go.RowKit

set_option maxHeartbeats 1000000 in
theorem markStore_any (g : Nat) (gs cs : Nat → Nat) (n c : Nat) (L : List Sh) (k : Int) (w : World) (h : StB w g gs cs n L) (hk : 1 ≤ k ∧ k ≤ 1099511627) (hn : n + szAt L n ≤ 2000000) :
    Calls Try.prog 13 #[.agg #[.slice (some ⟨g, 0, none⟩) n c], .int .i64 k] w fun e w' => e = .returned (.int .i64 (kAt L k n)) ∧ StB w' g gs cs n (markL L k n) ∧ Kept (blksS g gs n) w w' := by
  have HH := Lib.hid h
  have HK := Lib.hid hk
  have HN := Lib.hid hn
  clear h hk hn
  obtain ⟨V, hV⟩ : ∃ V : Int, kAt L k n = V := ⟨_, rfl⟩
  have HV := Lib.hid hV
  rw [hV]
  clear hV
  go_enter Try.func13, Try.ntmps13
  go_wp2_with fail
  refine (markNamedS_any _ _ _ _ _ _ _ _ (HH.out.kept0 ((Kept.refl [] w).alloc _)) HK.out HN.out).mono ?_
  rintro e w1 ⟨rfl, hs, h1⟩
  rw [HV.out]
  have HS := Lib.hid hs
  have H1 := Lib.hid h1.peel
  clear hs h1
  go_wp2_with fail
  go_ret
  exact ⟨rfl, HS.out, H1.out⟩

set_option maxHeartbeats 1000000 in
theorem markStoreResult_any (v : Int) (g : Nat) (gs cs : Nat → Nat) (n c : Nat) (L : List Sh) (k : Int) (w : World) (h : StB w g gs cs n L) (hk : 1 ≤ k ∧ k ≤ 1099511627) (hn : n + szAt L n ≤ 2000000) :
    Calls Try.prog 15 #[.agg #[.int .i64 v, .slice (some ⟨g, 0, none⟩) n c], .int .i64 k] w fun e w' => e = .returned (.int .i64 (kAt L k n)) ∧ StB w' g gs cs n (markL L k n) ∧ Kept (blksS g gs n) w w' := by
  have HH := Lib.hid h
  have HK := Lib.hid hk
  have HN := Lib.hid hn
  clear h hk hn
  obtain ⟨V, hV⟩ : ∃ V : Int, kAt L k n = V := ⟨_, rfl⟩
  have HV := Lib.hid hV
  rw [hV]
  clear hV
  go_enter Try.func15, Try.ntmps15
  go_wp2_with fail
  refine (markStore_any _ _ _ _ _ _ _ _ (HH.out.kept0 ((Kept.refl [] w).alloc _)) HK.out HN.out).mono ?_
  rintro e w1 ⟨rfl, hs, h1⟩
  rw [HV.out]
  have HS := Lib.hid hs
  have H1 := Lib.hid h1.peel
  clear hs h1
  go_wp2_with fail
  go_ret
  exact ⟨rfl, HS.out, H1.out⟩

set_option maxHeartbeats 1000000 in
theorem heldNamedS_any (g : Nat) (gs cs : Nat → Nat) (n c : Nat) (L : List Sh) (k : Int) (w : World) (hl : L.length = n) (h : StB w g gs cs n (markL L k n)) (hk : 1 ≤ k ∧ k ≤ 1099511627) (hn : n + szAt L n ≤ 2000000) :
    Calls Try.prog 49 #[.slice (some ⟨g, 0, none⟩) n c, .int .i64 k] w (Ans w (.int .i64 (kAt L k n))) := by
  have hmax := h.2.1
  have HN := Lib.hid hn
  have HKK := Lib.hid hk
  have HS := Lib.hid h
  have HL := Lib.hid hl
  clear hn h hl
  go_enter Try.func49, Try.ntmps49
  go_wp2
  go_loopw [1, 5] (fun q i wr => ∃ (j : Nat), j ≤ n ∧ q = .int .i64 (kAt L k j) ∧ i = .int .i64 j ∧ Hid (Kept [] w wr)) (fun _ i _ => n - (intOf i).toNat)
  case atStart => exact ⟨0, Nat.zero_le _, rfl, rfl, Kept.refl _ _⟩
  case round =>
    obtain ⟨j, hj, rfl, rfl, hK⟩ := hrel
    by_cases hlt : j < n
    · have hS := HS.out.kept0 hK.out
      obtain ⟨q1, q2, q3, q4, q5, q6⟩ := hS.2.2.2 j hlt
      have hMj : (markL L k n).getD j sh0 = mrk L k j := by rw [markL_at _ _ (by rw [HL.out]; exact hlt), if_pos hlt]
      have c0 := hS.2.2.1.cell (j := j * 3) (by omega)
      have c1 := hS.2.2.1.cell (j := j * 3 + 1) (by omega)
      have c2 := hS.2.2.1.cell (j := j * 3 + 2) (by omega)
      rw [stF_0, hMj] at c0
      rw [stF_1, hMj] at c1
      rw [stF_2, hMj] at c2
      rw [hMj] at q1 q2 q3
      have hkb := kAt_le L k j
      have hkc := kAt_le L k (j + 1)
      have hsz := szAt_mono L (show j ≤ n by omega)
      have hsz2 := szAt_mono L (show j + 1 ≤ n by omega)
      have hnn := HN.out
      have hk2 := HKK.out
      obtain ⟨u, hu⟩ : ∃ u : Nat, kAt L k j = u := ⟨(kAt L k j).toNat, by omega⟩
      obtain ⟨m, hm⟩ : ∃ m, (L.getD j sh0).n = m := ⟨_, rfl⟩
      have hz : kAt L k (j + 1) = (u : Int) + 1 + 1 + ((m * 2 : Nat) : Int) := by simp only [kAt]; rw [hu, hm]; omega
      have e0 : (mrk L k j).nm = mkT u := by show mkT (kAt L k j).toNat = _; rw [hu]; rfl
      have e1 : (mrk L k j).k = (u : Int) + 1 := by show kAt L k j + 1 = _; rw [hu]
      have e2 : (mrk L k j).n = m := hm
      have e3 : (mrk L k j).xs = cnt ((u : Int) + 1 + 1) (m * 2) := by
        show cnt (kAt L k j + 2) ((L.getD j sh0).n * 2) = _
        rw [hu, hm, show (u : Int) + 2 = (u : Int) + 1 + 1 by omega]
      rw [e0] at c0
      rw [e1] at c1
      rw [e2] at c2 q2 q3
      rw [e3] at q1 q2
      rw [hu] at hkb ⊢
      have HU0 := Lib.hid (show 0 < u ∧ u ≤ 1099511627776 by omega)
      have hu1 : IntKind.i64.wrap ((u : Int) + 1) = (u : Int) + 1 := IntWalk.i64_in _ (by omega)
      have hu2 : IntKind.i64.wrap ((u : Int) + 1 + 1) = (u : Int) + 1 + 1 := IntWalk.i64_in _ (by omega)
      have hui : (u : Int) ≤ 1099511627776 := by omega
      obtain ⟨T, hT⟩ : ∃ T, strB (mkT u) = T := ⟨_, rfl⟩
      rw [hT] at c0
      have HT := Lib.hid hT
      have SP : Hid (SlP wr (some ⟨gs j, 0, none⟩) m (cnt ((u : Int) + 1 + 1) (m * 2))) := ⟨q3, by rw [cnt_length], .inr ⟨gs j, rfl, q1⟩⟩
      have hb2 : Hid (0 ≤ (u : Int) + 1 + 1 ∧ (u : Int) + 1 + 1 ≤ 1099511627776) := by show _ ∧ _; omega
      have C := Lib.hid (And.intro c0 (And.intro c1 c2))
      obtain ⟨z, hzz⟩ : ∃ z : Int, (u : Int) + 1 + 1 + ((m * 2 : Nat) : Int) = z := ⟨_, rfl⟩
      have hz0 : ¬ z < 0 := by omega
      rw [hzz] at hz
      have HZ := Lib.hid (And.intro hzz hz)
      clear hS q1 q2 q3 q4 q5 q6 hMj hkb hkc hsz hsz2 hnn hk2 hu hm e0 e1 e2 e3 hT hzz hz
      go_wp2_with fail
      go_region_held3 (fun w' => w'.cell? ⟨g, j * 3, none⟩ = some (.string T) ∧ Hid (Kept [] wr w'))
        ((go_split_ands; (try refine ⟨?_, ?_⟩) <;> with_reducible first | exact Lib.hid ((Kept.refl _ _).drew) | exact drew_pt (by assumption) | exact Kept.allocH (by assumption) | exact alloc_cell (by assumption) | exact Lib.hid (Kept.trans0 (Hid.out (by assumption)) (by assumption)) | exact Kept.cell (by assumption) (by assumption) (by simp)))
        (first | (go_at_call 48; go_split_ands; refine (markText_any u _ HU0.out.1 HU0.out.2).mono ?_; rw [HT.out]; rintro e v1 ⟨rfl, hk1⟩))
      have k1 := (Kept.refl [] wr).drew.trans0 hk1
      have d1 := k1.cell C.out.2.1 (by simp)
      have d2 := k1.cell C.out.2.2 (by simp)
      have SP1 := Lib.hid (SP.out.kept k1 (by simp))
      have hK1 := Lib.hid (hK.out.trans0 k1)
      clear hk1 k1 hK c0 c1 c2
      have htt : (T.toList == T.toList) = true := by simp
      go_wp2_with fail
      refine (heldPointS_any _ _ _ _ _ SP1.out hb2.out).mono ?_
      rintro e w2 ⟨rfl, hk2⟩
      rw [HZ.out.1]
      have hK2 := Lib.hid (hK1.out.trans0 hk2)
      clear hk2 hK1
      go_wp2_with fail
      go_roundw
      case rel => exact ⟨j + 1, by omega, by rw [HZ.out.2], by go_num, hK2⟩
      case measure => simp [intOf]; omega
    · obtain rfl : j = n := by omega
      go_wp2
      go_ret
      exact ⟨rfl, hK.out⟩

set_option maxHeartbeats 1000000 in
theorem heldNamedS_none (k : Int) (w : World) : Calls Try.prog 49 #[.slice none 0 0, .int .i64 k] w (Ans w (.int .i64 k)) := by
  go_enter Try.func49, Try.ntmps49
  go_wp2
  go_loopw [1, 5] (fun q i wr => q = .int .i64 k ∧ i = .int .i64 0 ∧ wr = w) (fun _ i _ => 0 - (intOf i).toNat)
  case atStart => exact ⟨rfl, rfl, rfl⟩
  case round =>
    obtain ⟨rfl, rfl, rfl⟩ := hrel
    go_wp2
    go_ret
    exact ⟨rfl, Kept.refl _ _⟩
set_option maxHeartbeats 1000000 in
theorem markNamedS_none (k : Int) (w : World) : Calls Try.prog 32 #[.slice none 0 0, .int .i64 k] w (Ans w (.int .i64 k)) := by
  go_enter Try.func32, Try.ntmps32
  go_wp2
  go_loopw [1, 5] (fun q i wr => q = .int .i64 k ∧ i = .int .i64 0 ∧ wr = w) (fun _ i _ => 0 - (intOf i).toNat)
  case atStart => exact ⟨rfl, rfl, rfl⟩
  case round =>
    obtain ⟨rfl, rfl, rfl⟩ := hrel
    go_wp2
    go_ret
    exact ⟨rfl, Kept.refl _ _⟩

end Go.Proofs.Ytklecaojkngjmad
