/-
  Contracts of the model's l11Metres and MetreText. No condition.
-/
import Derived.Test.YtbkfjebmpccbladDoorCooA
import Derived.Test.YtbkfjebmpccbladDoorDecP
namespace Go.Proofs.YtbkfjebmpccbladDoor
open Go.RowKit

set_option maxHeartbeats 1000000 in
theorem l11MetresP_any (u : Nat) (w : World) (hu : u ≤ 9223372036854775807) :
    Calls Tryd.prog 26 #[.int .i64 (u : Int)] w (Ans w (.string (strB (decPt 1000000 six u)))) := by
  obtain ⟨q, hq⟩ : ∃ q : Nat, q = u / 1000000 := ⟨_, rfl⟩
  obtain ⟨r, hr⟩ : ∃ r : Nat, r = u % 1000000 := ⟨_, rfl⟩
  have e1 : (u : Int).tdiv 1000000 = (q : Int) := by
    rw [Int.tdiv_eq_ediv_of_nonneg (by omega)]; omega
  have e2 : (u : Int).tmod 1000000 = (r : Int) := by
    rw [Int.tmod_eq_emod_of_nonneg (by omega)]; omega
  have e5 : (u : Int) / 1000000 = (q : Int) := by omega
  have e6 : (u : Int) % 1000000 = (r : Int) := by omega
  have hr1 : r < 1000000 := by omega
  have hqb : q ≤ 9223372036855 := by omega
  have e7 : IntKind.i64.wrap (q : Int) = q := IntWalk.i64_in _ (by omega)
  have e8 : IntKind.i64.wrap (1000000 + (r : Int)) = ((1000000 + r : Nat) : Int) := by rw [IntWalk.i64_in _ (by omega)]; omega
  have hnn : ¬ (u : Int) < 0 := by omega
  have z1 : (strB (Lib.decDigits q)).size ≤ 19 := by rw [strB_size]; exact decD_len (k := 19) (by omega) (by omega)
  obtain ⟨Q, hQ⟩ : ∃ D, strB (Lib.decDigits q) = D := ⟨_, rfl⟩
  obtain ⟨S, hS⟩ : ∃ S, strB (49 :: six r) = S := ⟨_, rfl⟩
  obtain ⟨D, hD⟩ : ∃ D, strB (six r) = D := ⟨_, rfl⟩
  have hd : Hid (strB (Lib.decDigits (1000000 + r)) = S) := by show _ = _; rw [dec_six hr1, hS]
  have hs : S.size = 7 := by rw [← hS, strB_size]; rfl
  have hx : S.extract 1 7 = D := by rw [← hs, Lib.extract_from, ← hS, ← hD]; rfl
  have hds : D.size = 6 := by rw [← hD, strB_size]; rfl
  have hp0 : strB (decPt 1000000 six u) = Q ++ ⟨#[46]⟩ ++ D := by
    rw [← hQ, ← hD]
    show strB (Lib.decDigits (u / 1000000) ++ 46 :: six (u % 1000000)) = strB _ ++ strB [46] ++ strB _
    rw [strB_append, strB_append, ← hq, ← hr, List.append_assoc]; rfl
  have hvs := Lib.hid hp0
  rw [hQ] at z1
  have HQ := Lib.hid hQ
  clear hp0 hq hr hQ hS hD
  go_enter Tryd.func26, Tryd.ntmps26
  go_wp2_with fail
  refine (l1Digits_any q q _ (Nat.le_refl _) (by omega)).mono ?_
  rintro e w1 ⟨rfl, h1⟩
  rw [HQ.out]
  have K1 := Lib.hid h1
  clear h1
  go_wp2_with fail
  refine (l1Digits_any (1000000 + r) _ _ (Nat.le_refl _) (by omega)).mono ?_
  rintro e w2 ⟨rfl, h2⟩
  rw [hd.out]
  have K2 := Lib.hid (K1.out.trans0 h2)
  clear h2 K1
  go_wp2_with fail
  go_ret
  exact ⟨by rw [hvs.out]; rfl, K2.out⟩

theorem decPt_len {u : Nat} (hu : u ≤ 9223372036854775807) : (decPt 1000000 six u).length ≤ 30 := by
  have := decTx_len ten_six (u : Int) (by omega) (by omega)
  rw [decTx_pos (by omega)] at this
  exact this

set_option maxHeartbeats 1000000 in
theorem l11Metres_any (n : Int) (w : World) (h0 : -9223372036854775807 ≤ n) (h1 : n ≤ 9223372036854775807) :
    Calls Tryd.prog 26 #[.int .i64 n] w (Ans w (.string (strB (decTx 1000000 six n)))) := by
  by_cases hn : n < 0
  · obtain ⟨u, hu⟩ : ∃ u : Nat, u = n.natAbs := ⟨_, rfl⟩
    have e1 : -n = (u : Int) := by omega
    have hu1 : u ≤ 9223372036854775807 := by omega
    have hv : Hid (strB (decTx 1000000 six n) = ⟨#[45]⟩ ++ strB (decPt 1000000 six u)) := by
      show _ = strB [45] ++ strB _
      rw [strB_append, decTx_neg hn, ← hu]; rfl
    have z1 : (strB (decPt 1000000 six u)).size ≤ 30 := by rw [strB_size]; exact decPt_len hu1
    obtain ⟨T, hT⟩ : ∃ D, strB (decPt 1000000 six u) = D := ⟨_, rfl⟩
    rw [hT] at hv z1
    have HT := Lib.hid hT
    have e7 : IntKind.i64.wrap (u : Int) = u := IntWalk.i64_in _ (by omega)
    have e8 : IntKind.i64.wrap (-n) = (u : Int) := by rw [e1, e7]
    clear hu hT
    go_enter Tryd.func26, Tryd.ntmps26
    go_wp2_with fail
    refine (l11MetresP_any u _ hu1).mono ?_
    rintro e w1 ⟨rfl, h2⟩
    rw [HT.out]
    go_wp2_with fail
    go_ret
    exact ⟨by rw [hv.out]; rfl, h2⟩
  · obtain ⟨u, rfl⟩ : ∃ u : Nat, n = (u : Int) := ⟨n.toNat, by omega⟩
    rw [decTx_pos hn]
    exact l11MetresP_any u w (by omega)

/-- That metres have a text. -/
def inTold (n : Int) : Bool := decide (-9000000000000000 ≤ n ∧ n ≤ 9000000000000000)
def metreC (n : Int) : Int := if inTold n = true then 0 else 3
def metreS (n : Int) : ByteArray := if inTold n = true then strB (decTx 1000000 six n) else ⟨#[]⟩
theorem metre_no {n : Int} (h : inTold n = false) : metreC n = 3 ∧ metreS n = ⟨#[]⟩ := by unfold metreC metreS; rw [h]; exact ⟨rfl, rfl⟩
theorem metre_yes {n : Int} (h : inTold n = true) : metreC n = 0 ∧ metreS n = strB (decTx 1000000 six n) := by unfold metreC metreS; rw [h]; exact ⟨rfl, rfl⟩

set_option maxHeartbeats 1000000 in
theorem l1InT_any (x : Int) (w : World) : Calls Tryd.prog 25 #[.int .i64 x, .int .i64 (-9000000000000000), .int .i64 9000000000000000] w (Ans w (.bool (inTold x))) := by
  by_cases h1 : -9000000000000000 ≤ x
  · by_cases h2 : x ≤ 9000000000000000
    · have hv : Hid (inTold x = true) := decide_eq_true ⟨h1, h2⟩
      go_enter Tryd.func25, Tryd.ntmps25
      go_wp2
      go_ret
      exact ⟨by rw [hv.out]; rfl, Kept.refl _ _⟩
    · have hv : Hid (inTold x = false) := decide_eq_false (fun h => h2 h.2)
      go_enter Tryd.func25, Tryd.ntmps25
      go_wp2
      go_ret
      exact ⟨by rw [hv.out]; rfl, Kept.refl _ _⟩
  · have hv : Hid (inTold x = false) := decide_eq_false (fun h => h1 h.1)
    go_enter Tryd.func25, Tryd.ntmps25
    go_wp2
    go_ret
    exact ⟨by rw [hv.out]; rfl, Kept.refl _ _⟩

theorem textBoxM {w w1 : World} {T : TypeId} (hk : Kept [] (w.alloc (.cells #[.int .i64 0, .string ⟨#[]⟩] T)) w1) :
    (w1.cell? ⟨w.heap.size, 0, none⟩ = some (.int .i64 0) ∧ w1.cell? ⟨w.heap.size, 1, none⟩ = some (.string ⟨#[]⟩)) ∧ w1.frozen? ⟨w.heap.size, 0, none⟩ = false ∧ w1.frozen? ⟨w.heap.size, 1, none⟩ = false :=
  ⟨⟨(hk.top rfl (by simp) 0 (v := .int .i64 0) rfl).1, (hk.top rfl (by simp) 1 (v := .string ⟨#[]⟩) rfl).1⟩, (hk.top rfl (by simp) 0 (v := .int .i64 0) rfl).2.1, (hk.top rfl (by simp) 1 (v := .string ⟨#[]⟩) rfl).2.1⟩

set_option maxHeartbeats 2000000 in
theorem sMetreText_any (n : Int) (w : World) : Calls Tryd.prog 11 #[.int .i64 n] w (Ans w (.agg #[.int .i64 (metreC n), .string (metreS n)])) := by
  obtain ⟨b, hb⟩ : ∃ b, inTold n = b := ⟨_, rfl⟩
  have HB := Lib.hid hb
  cases b
  · have hv := Lib.hid (metre_no hb)
    clear hb
    go_enter Tryd.func11, Tryd.ntmps11
    go_wp2_with fail
    refine (l1InT_any _ _).mono ?_
    rintro e w1 ⟨rfl, h1⟩
    rw [HB.out]
    obtain ⟨⟨c0, c1⟩, f0, f1⟩ := textBoxM h1
    have K1 := Lib.hid h1
    clear h1
    go_wp2_with fail
    obtain ⟨_, s0, s1⟩ := cells2 (.int .i64 3) (.string ⟨#[]⟩) c0 c1
    refine bodyPost_ret (v := .agg #[.int .i64 3, .string ⟨#[]⟩]) (by simp [results, Tryd.results11, go_sem, s0, s1]) rfl ⟨by rw [hv.out.1, hv.out.2], ?_⟩
    exact (K1.out.peel.setCell _ _ (by simp)).setCell _ _ (by simp)
  · have hv := Lib.hid (metre_yes hb)
    have hn : -9000000000000000 ≤ n ∧ n ≤ 9000000000000000 := of_decide_eq_true hb
    have hn0 : -9223372036854775807 ≤ n := by omega
    have hn1 : n ≤ 9223372036854775807 := by omega
    clear hb
    obtain ⟨T, hT⟩ : ∃ D, strB (decTx 1000000 six n) = D := ⟨_, rfl⟩
    have HT := Lib.hid hT
    rw [hT] at hv
    clear hT
    go_enter Tryd.func11, Tryd.ntmps11
    go_wp2_with fail
    refine (l1InT_any _ _).mono ?_
    rintro e w1 ⟨rfl, h1⟩
    rw [HB.out]
    have K1 := Lib.hid h1
    clear h1
    go_wp2_with fail
    refine (l11Metres_any _ _ hn0 hn1).mono ?_
    rintro e w2 ⟨rfl, h2⟩
    rw [HT.out]
    have K2 := Lib.hid (K1.out.trans0 h2)
    obtain ⟨⟨c0, c1⟩, f0, f1⟩ := textBoxM K2.out
    clear h2
    go_wp2_with fail
    obtain ⟨_, s0, s1⟩ := cells2 (.int .i64 0) (.string T) c0 c1
    refine bodyPost_ret (v := .agg #[.int .i64 0, .string T]) (by simp [results, Tryd.results11, go_sem, s0, s1]) rfl ⟨by rw [hv.out.1, hv.out.2], ?_⟩
    exact (K2.out.peel.setCell _ _ (by simp)).setCell _ _ (by simp)

end Go.Proofs.YtbkfjebmpccbladDoor
