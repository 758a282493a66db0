/-
  Contracts of the model's l8Coord and CoordText. No condition.
-/
import Derived.Test.YtlhiahhpmjiioadGreatDoorCooA
namespace Go.Proofs.YtlhiahhpmjiioadGreatDoor
open Go.RowKit

set_option maxHeartbeats 1000000 in
theorem l8CoordP_any (u : Nat) (w : World) (hu : u ≤ 999999999999999) :
    Calls Tryz.prog 51 #[.int .i64 (u : Int)] w (Ans w (.string (strB (coordP u)))) := by
  obtain ⟨q, hq⟩ : ∃ q : Nat, q = u / 1000000000 := ⟨_, rfl⟩
  obtain ⟨r, hr⟩ : ∃ r : Nat, r = u % 1000000000 := ⟨_, rfl⟩
  have e1 : (u : Int).tdiv 1000000000 = (q : Int) := by
    rw [Int.tdiv_eq_ediv_of_nonneg (by omega)]; omega
  have e2 : (u : Int).tmod 1000000000 = (r : Int) := by
    rw [Int.tmod_eq_emod_of_nonneg (by omega)]; omega
  have e5 : (u : Int) / 1000000000 = (q : Int) := by omega
  have e6 : (u : Int) % 1000000000 = (r : Int) := by omega
  have hq1 : q ≤ 999999 := by omega
  have hr1 : r < 1000000000 := by omega
  have e7 : IntKind.i64.wrap (q : Int) = q := IntWalk.i64_in _ (by omega)
  have e8 : IntKind.i64.wrap (1000000000 + (r : Int)) = ((1000000000 + r : Nat) : Int) := by rw [IntWalk.i64_in _ (by omega)]; omega
  have hnn : ¬ (u : Int) < 0 := by omega
  have z1 : (strB (Lib.decDigits q)).size ≤ 6 := by rw [strB_size]; exact decD_len (k := 6) (by omega) (by omega)
  by_cases hz : r = 0
  · have hv : Hid (strB (coordP u) = strB (Lib.decDigits q)) := by
      show _ = _
      rw [coordP_zero (by omega), ← hq]
    subst hz
    clear hq hr
    go_enter Tryz.func51, Tryz.ntmps51
    go_wp2_with fail
    refine (l1Digits_any q q _ (Nat.le_refl _) (by omega)).mono ?_
    rintro e w1 ⟨rfl, h1⟩
    go_wp2_with fail
    go_ret
    exact ⟨by rw [hv.out]; rfl, h1⟩
  · have hv : Hid (strB (coordP u) = strB (Lib.decDigits q) ++ ⟨#[46]⟩ ++ strB (Lib.trimRightB (nine r) 48)) := by
      show _ = _
      rw [coordP_part (by omega), ← hq, ← hr]
      show _ = strB _ ++ strB [46] ++ strB _
      rw [strB_append, strB_append, List.append_assoc]; rfl
    obtain ⟨S, hS⟩ : ∃ S, strB (49 :: nine r) = S := ⟨_, rfl⟩
    obtain ⟨D, hD⟩ : ∃ D, strB (nine r) = D := ⟨_, rfl⟩
    obtain ⟨Q, hQ⟩ : ∃ D, strB (Lib.decDigits q) = D := ⟨_, rfl⟩
    have hd : Hid (strB (Lib.decDigits (1000000000 + r)) = S) := by show _ = _; rw [dec_nine hr1, hS]
    have hs : S.size = 10 := by rw [← hS, strB_size]; rfl
    have hx : S.extract 1 10 = D := by rw [← hs, Lib.extract_from, ← hS, ← hD]; rfl
    have hds : D.size = 9 := by rw [← hD, strB_size]; rfl
    have hdl : Hid (D.data.toList = nine r) := by show _ = _; rw [← hD]; rfl
    have HQ := Lib.hid hQ
    rw [hQ] at z1 hv
    have hz' : ¬ (r : Int) = 0 := by omega
    clear hq hr hS hD hQ
    go_enter Tryz.func51, Tryz.ntmps51
    go_wp2_with fail
    refine (l1Digits_any q q _ (Nat.le_refl _) (by omega)).mono ?_
    rintro e w1 ⟨rfl, h1⟩
    rw [HQ.out]
    have K1 := Lib.hid h1
    clear h1
    go_wp2_with fail
    refine (l1Digits_any (1000000000 + r) _ _ (Nat.le_refl _) (by omega)).mono ?_
    rintro e w2 ⟨rfl, h2⟩
    rw [hd.out]
    have K2 := Lib.hid (K1.out.trans0 h2)
    clear h2 K1
    go_wp2_with fail
    go_loopw [6] (fun i wr => ∃ k : Nat, k ≤ 9 ∧ i = .int .i64 k ∧ Hid (∀ j, k ≤ j → j < 9 → (nine r)[j]? = some 48) ∧ Hid (Kept [] w wr)) (fun i _ => (intOf i).toNat)
    case atStart => exact ⟨9, by omega, rfl, fun j h1 h2 => by omega, K2.out⟩
    case round =>
      obtain ⟨k, hk, rfl, hO, hK⟩ := hrel
      have hk1 : 1 ≤ k := by
        rcases Nat.eq_zero_or_pos k with h0 | h0
        · exact absurd (fun i hi => hO.out i (by omega) hi) (nine_some hr1 (by omega))
        · exact h0
      have e9 : IntKind.i64.wrap ((k : Int) - 1) = (k : Int) - 1 := IntWalk.i64_in _ (by omega)
      have hi1 : (0 : Int) ≤ (k : Int) - 1 := by omega
      have hi2 : (k : Int) - 1 < 9 := by omega
      have hi3 : k - 1 < 9 := by omega
      have hi4 : k - 1 < D.size := by omega
      have hb := byte_at hdl.out hi4
      generalize hB : D[k - 1] = b at hb
      have HB := Lib.hid hb
      clear hb
      by_cases h48 : ((b.toNat : Int) == 48) = true
      · have hO2 : Hid (∀ j, k - 1 ≤ j → j < 9 → (nine r)[j]? = some 48) := fun j h1 h2 => by
          rcases Nat.eq_or_lt_of_le h1 with h3 | h3
          · subst h3; rw [HB.out, byte_48 h48]
          · exact hO.out j (by omega) h2
        go_wp2_with fail
        go_roundw
        case rel => exact ⟨k - 1, by omega, by go_num, hO2, hK⟩
        case measure => simp [intOf]; omega
      · have h48' : ((b.toNat : Int) == 48) = false := by simpa using h48
        have ht := Lib.hid (trim_nine hdl.out hk1 hk hO.out HB.out (byte_not48 h48'))
        clear h48
        go_wp2_with fail
        go_ret
        exact ⟨by rw [hv.out, ← ht.out]; rfl, hK.out⟩

set_option maxHeartbeats 1000000 in
theorem l8Coord_any (n : Int) (w : World) (h0 : -999999999999999 ≤ n) (h1 : n ≤ 999999999999999) :
    Calls Tryz.prog 51 #[.int .i64 n] w (Ans w (.string (strB (coordT n)))) := by
  by_cases hn : n < 0
  · obtain ⟨u, hu⟩ : ∃ u : Nat, u = n.natAbs := ⟨_, rfl⟩
    have e1 : -n = (u : Int) := by omega
    have hu1 : u ≤ 999999999999999 := by omega
    have hv : Hid (strB (coordT n) = ⟨#[45]⟩ ++ strB (coordP u)) := by
      show _ = strB [45] ++ strB _
      rw [strB_append]; unfold coordT; rw [if_pos hn, ← hu]; rfl
    have z1 : (strB (coordP u)).size ≤ 16 := by
      rw [strB_size]; unfold coordP
      rw [List.length_append]
      have h2 := decD_len (u := u / 1000000000) (k := 6) (by omega) (by omega)
      have h3 := trim_len (nine (u % 1000000000)) 48
      rw [nine_len] at h3
      split
      · simp; omega
      · simp; omega
    obtain ⟨T, hT⟩ : ∃ D, strB (coordP u) = D := ⟨_, rfl⟩
    rw [hT] at hv z1
    have HT := Lib.hid hT
    have e7 : IntKind.i64.wrap (u : Int) = u := IntWalk.i64_in _ (by omega)
    have e8 : IntKind.i64.wrap (-n) = (u : Int) := by rw [e1, e7]
    clear hu hT
    go_enter Tryz.func51, Tryz.ntmps51
    go_wp2_with fail
    refine (l8CoordP_any u _ hu1).mono ?_
    rintro e w1 ⟨rfl, h2⟩
    rw [HT.out]
    go_wp2_with fail
    go_ret
    exact ⟨by rw [hv.out]; rfl, h2⟩
  · obtain ⟨u, rfl⟩ : ∃ u : Nat, n = (u : Int) := ⟨n.toNat, by omega⟩
    have : coordT (u : Int) = coordP u := by unfold coordT; rw [if_neg hn]; rfl
    rw [this]
    exact l8CoordP_any u w (by omega)

/-- That a coordinate has a text. -/
def inCoord (n : Int) : Bool := decide (-999999999999999 ≤ n ∧ n ≤ 999999999999999)
def coordC (n : Int) : Int := if inCoord n = true then 0 else 3
def coordS (n : Int) : ByteArray := if inCoord n = true then strB (coordT n) else ⟨#[]⟩
theorem coord_no {n : Int} (h : inCoord n = false) : coordC n = 3 ∧ coordS n = ⟨#[]⟩ := by unfold coordC coordS; rw [h]; exact ⟨rfl, rfl⟩
theorem coord_yes {n : Int} (h : inCoord n = true) : coordC n = 0 ∧ coordS n = strB (coordT n) := by unfold coordC coordS; rw [h]; exact ⟨rfl, rfl⟩

set_option maxHeartbeats 1000000 in
theorem l1InC_any (x : Int) (w : World) : Calls Tryz.prog 38 #[.int .i64 x, .int .i64 (-999999999999999), .int .i64 999999999999999] w (Ans w (.bool (inCoord x))) := by
  by_cases h1 : -999999999999999 ≤ x
  · by_cases h2 : x ≤ 999999999999999
    · have hv : Hid (inCoord x = true) := decide_eq_true ⟨h1, h2⟩
      go_enter Tryz.func38, Tryz.ntmps38
      go_wp2
      go_ret
      exact ⟨by rw [hv.out]; rfl, Kept.refl _ _⟩
    · have hv : Hid (inCoord x = false) := decide_eq_false (fun h => h2 h.2)
      go_enter Tryz.func38, Tryz.ntmps38
      go_wp2
      go_ret
      exact ⟨by rw [hv.out]; rfl, Kept.refl _ _⟩
  · have hv : Hid (inCoord x = false) := decide_eq_false (fun h => h1 h.1)
    go_enter Tryz.func38, Tryz.ntmps38
    go_wp2
    go_ret
    exact ⟨by rw [hv.out]; rfl, Kept.refl _ _⟩

theorem textBox {w w1 : World} {T : TypeId} (hk : Kept [] (w.alloc (.cells #[.int .i64 0, .string ⟨#[]⟩] T)) w1) :
    (w1.cell? ⟨w.heap.size, 0, none⟩ = some (.int .i64 0) ∧ w1.cell? ⟨w.heap.size, 1, none⟩ = some (.string ⟨#[]⟩)) ∧ w1.frozen? ⟨w.heap.size, 0, none⟩ = false ∧ w1.frozen? ⟨w.heap.size, 1, none⟩ = false :=
  ⟨⟨(hk.top rfl (by simp) 0 (v := .int .i64 0) rfl).1, (hk.top rfl (by simp) 1 (v := .string ⟨#[]⟩) rfl).1⟩, (hk.top rfl (by simp) 0 (v := .int .i64 0) rfl).2.1, (hk.top rfl (by simp) 1 (v := .string ⟨#[]⟩) rfl).2.1⟩

end Go.Proofs.YtlhiahhpmjiioadGreatDoor
