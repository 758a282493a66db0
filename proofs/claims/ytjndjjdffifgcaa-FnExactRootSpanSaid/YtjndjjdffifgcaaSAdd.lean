/-
  Contracts of the model's l1At, l1Add, l1Whole, AddNats. Conditions: the slices read as lists of numbers; for l1Add they are naturals.
-/
import Derived.Test.YtjndjjdffifgcaaAdd
namespace Go.Proofs.Ytjndjjdffifgcaa
open Go.RowKit

set_option maxHeartbeats 400000 in
theorem l1At_at (a : Option Addr) (n c : Nat) (xs : List Int) (k : Nat) (y : Int) (w : World) (h : Rd w a n xs) (_hk : k ≤ 9223372036854775807) (hv : xs.getD k 0 = y) :
    Calls Try.prog 142 #[.slice a n c, .int .i64 k] w fun e w' => e = .returned (.int .i64 y) ∧ w = w' := by
  have HR := Lib.hid h
  have hmax := h.2.1
  have HL := Lib.hid h.1
  have HV := Lib.hid hv
  clear h hv
  by_cases hlt : k < n
  · obtain ⟨g, off, rfl, hc⟩ := HR.out.2.2 k hlt
    rw [HV.out] at hc
    go_enter Try.func142, Try.ntmps142
    go_wp2
    go_ret
    exact ⟨rfl, rfl⟩
  · have h0 : Hid (y = 0) := by show y = 0; rw [← HV.out]; exact getD_past (by rw [HL.out]; omega)
    go_enter Try.func142, Try.ntmps142
    go_wp2
    go_ret
    exact ⟨by rw [h0.out]; rfl, rfl⟩

set_option maxHeartbeats 2000000 in
theorem l1Add_any (a b : Option Addr) (n c m c' : Nat) (xs ys : List Int) (w : World) (h : Rd w a n xs) (h' : Rd w b m ys) (hx : Canon xs) (hy : Canon ys) (hn : n ≤ 1000000) (hm : m ≤ 1000000) :
    Calls Try.prog 122 #[.slice a n c, .slice b m c'] w (SlR w (digits (val xs + val ys))) := by
  have HR := Lib.hid h
  have HR' := Lib.hid h'
  have HL := Lib.hid h.1
  have HL' := Lib.hid h'.1
  have HXL := Lib.hid (canon_limbs hx)
  have HYL := Lib.hid (canon_limbs hy)
  have HCX := Lib.hid hx
  have HCY := Lib.hid hy
  obtain ⟨T, hT⟩ : ∃ T, T = val xs + val ys := ⟨_, rfl⟩
  rw [← hT]
  have HT := Lib.hid hT
  clear h h' hx hy hT
  go_enter Try.func122, Try.ntmps122
  go_wp2
  go_loopw [5, 6, 7] (fun v q i wr => ∃ (k : Nat) (out : List Int) (cy : Int), k ≤ 1000001 ∧ q = .int .i64 cy ∧ i = .int .i64 k ∧ 0 ≤ cy ∧ cy ≤ 1 ∧ Hid (out.length = k) ∧ Hid (AllLimbs out) ∧ Hid (ap out (cy + (val (xs.drop k) + val (ys.drop k))) = T) ∧ Hid (n < k → m < k → cy = 0) ∧ Hid (n ≤ k → m ≤ k → 0 < cy ∨ (0 < k → out.getD (out.length - 1) 0 ≠ 0)) ∧ Hid (Ow w.heap.size wr v out) ∧ Hid (Kept [] w wr)) (fun _ q i _ => 1000002 - (intOf i).toNat)
  case atStart => exact ⟨0, [], 0, by omega, rfl, rfl, by omega, by omega, rfl, fun i hi => by simp at hi, by show ap _ _ = T; rw [HT.out]; simp [ap], fun _ _ => rfl, fun _ _ => Or.inr (fun h => by omega), Ow.empty _ w (Nat.le_refl _), (Kept.refl [] w).alloc _⟩
  case round =>
    obtain ⟨k, out, cy, hk, rfl, rfl, hc1, hc2, hOL, hO, hAp, hCZ, hT, hW, hK⟩ := hrel
    have hcz : n < k → m < k → cy = 0 := hCZ.out
    have hgo : (k < n) ∨ (¬ k < n ∧ k < m) ∨ (¬ k < n ∧ ¬ k < m ∧ 0 < cy) ∨ (¬ k < n ∧ ¬ k < m ∧ ¬ 0 < cy) := by omega
    rcases hgo with h1 | ⟨h1, h2⟩ | ⟨h1, h2, h3⟩ | ⟨h1, h2, h3⟩
    · have hd1 : decide ((k : Int) < (n : Int)) = true := decide_eq_true (by omega)
      have hav := HR.out.kept0 hK.out
      have hbv := HR'.out.kept0 hK.out
      have HAV := Lib.hid hav
      have HBV := Lib.hid hbv
      have ha0 := getD_limb HXL.out k
      have hb0 := getD_limb HYL.out k
      have hst := val_drop xs k
      have hst' := val_drop ys k
      have htx : k + 1 = xs.length → 0 < xs.getD k 0 := canon_top HCX.out k
      have hty : k + 1 = ys.length → 0 < ys.getD k 0 := canon_top HCY.out k
      have hpx : xs.length ≤ k → xs.getD k 0 = 0 := getD_past
      have hpy : ys.length ≤ k → ys.getD k 0 = 0 := getD_past
      rw [HL.out] at htx hpx
      rw [HL'.out] at hty hpy
      generalize hx0 : xs.getD k 0 = x0 at *
      generalize hy0 : ys.getD k 0 = y0 at *
      have HX0 := Lib.hid hx0
      have HY0 := Lib.hid hy0
      obtain ⟨s, hs⟩ : ∃ s, s = x0 + y0 + cy := ⟨_, rfl⟩
      have hs1 : 0 ≤ s := by omega
      have hs2 : s ≤ 131071 := by omega
      have hO2 : Hid (AllLimbs (out ++ [s % 65536])) := hO.out.snoc (by omega)
      have hAp2 : Hid (ap (out ++ [s % 65536]) (s / 65536 + (val (xs.drop (k + 1)) + val (ys.drop (k + 1)))) = T) := by
        show ap _ _ = T
        rw [ap_snoc, ← hAp.out]
        congr 1
        omega
      have hOL2 : Hid ((out ++ [s % 65536]).length = k + 1) := by show _ = _; rw [List.length_append, hOL.out]; rfl
      have hT2 : Hid (n ≤ k + 1 → m ≤ k + 1 → 0 < s / 65536 ∨ (0 < k + 1 → (out ++ [s % 65536]).getD ((out ++ [s % 65536]).length - 1) 0 ≠ 0)) := fun q1 q2 => by
        rw [getD_last]
        by_cases q3 : 0 < s / 65536
        · exact Or.inl q3
        · exact Or.inr (fun _ => by omega)
      have hk2 : k + 1 ≤ 1000001 := by omega
      have hCZ2 : Hid (n < k + 1 → m < k + 1 → s / 65536 = 0) := fun q1 q2 => by
        have := hpx (by omega); have := hpy (by omega); omega
      have hol : out.length ≤ 1000001 := by rw [hOL.out]; omega
      have hszr : w.heap.size ≤ wr.heap.size := hK.out.size
      have HS := Lib.hid hs
      have e1 : IntKind.i64.wrap (x0 + y0) = x0 + y0 := IntWalk.i64_in _ (by omega)
      have e2 : IntKind.i64.wrap (x0 + y0 + cy) = s := by rw [← hs]; exact IntWalk.i64_in _ (by omega)
      obtain ⟨ha1, ha2⟩ := ha0
      obtain ⟨hb1, hb2⟩ := hb0
      have HTX := Lib.hid htx
      have HTY := Lib.hid hty
      clear hcz hst hst' htx hty hpx hpy hx0 hy0 hs hO hAp hOL hav hbv hT
      go_wp2_with fail
      refine (l1At_at _ _ _ _ k x0 _ HAV.out (by omega) HX0.out).mono ?_
      rintro e w2 ⟨rfl, rfl⟩
      go_wp2_with fail
      refine (l1At_at _ _ _ _ k y0 _ HBV.out (by omega) HY0.out).mono ?_
      rintro e w2 ⟨rfl, rfl⟩
      go_wp2_with (at_builtin; refine app1 rfl _ _ rfl w.heap.size u5 out rfl (hW.out.alloc _) wr.heap.size (s % 65536) rfl (by simp) (by omega) (by simp; omega) ?_)
      intro v' w1 hW2 hG
      have HW2 := Lib.hid hW2
      have HK2 : Hid (Kept [] w w1) := kept_grown (hK.out.alloc _) (hW.out.alloc _) hG (Nat.le_refl _)
      clear hW2 hG
      go_wp2
      go_roundw
      case rel => exact ⟨k + 1, out ++ [s % 65536], s / 65536, by omega, rfl, by go_num, by omega, by omega, hOL2, hO2, hAp2, hCZ2, hT2, HW2.out, HK2⟩
      case measure => simp [intOf]; omega
    · have hd1 : decide ((k : Int) < (n : Int)) = false := decide_eq_false (by omega)
      have hd2 : decide ((k : Int) < (m : Int)) = true := decide_eq_true (by omega)
      have hav := HR.out.kept0 hK.out
      have hbv := HR'.out.kept0 hK.out
      have HAV := Lib.hid hav
      have HBV := Lib.hid hbv
      have ha0 := getD_limb HXL.out k
      have hb0 := getD_limb HYL.out k
      have hst := val_drop xs k
      have hst' := val_drop ys k
      have htx : k + 1 = xs.length → 0 < xs.getD k 0 := canon_top HCX.out k
      have hty : k + 1 = ys.length → 0 < ys.getD k 0 := canon_top HCY.out k
      have hpx : xs.length ≤ k → xs.getD k 0 = 0 := getD_past
      have hpy : ys.length ≤ k → ys.getD k 0 = 0 := getD_past
      rw [HL.out] at htx hpx
      rw [HL'.out] at hty hpy
      generalize hx0 : xs.getD k 0 = x0 at *
      generalize hy0 : ys.getD k 0 = y0 at *
      have HX0 := Lib.hid hx0
      have HY0 := Lib.hid hy0
      obtain ⟨s, hs⟩ : ∃ s, s = x0 + y0 + cy := ⟨_, rfl⟩
      have hs1 : 0 ≤ s := by omega
      have hs2 : s ≤ 131071 := by omega
      have hO2 : Hid (AllLimbs (out ++ [s % 65536])) := hO.out.snoc (by omega)
      have hAp2 : Hid (ap (out ++ [s % 65536]) (s / 65536 + (val (xs.drop (k + 1)) + val (ys.drop (k + 1)))) = T) := by
        show ap _ _ = T
        rw [ap_snoc, ← hAp.out]
        congr 1
        omega
      have hOL2 : Hid ((out ++ [s % 65536]).length = k + 1) := by show _ = _; rw [List.length_append, hOL.out]; rfl
      have hT2 : Hid (n ≤ k + 1 → m ≤ k + 1 → 0 < s / 65536 ∨ (0 < k + 1 → (out ++ [s % 65536]).getD ((out ++ [s % 65536]).length - 1) 0 ≠ 0)) := fun q1 q2 => by
        rw [getD_last]
        by_cases q3 : 0 < s / 65536
        · exact Or.inl q3
        · exact Or.inr (fun _ => by omega)
      have hk2 : k + 1 ≤ 1000001 := by omega
      have hCZ2 : Hid (n < k + 1 → m < k + 1 → s / 65536 = 0) := fun q1 q2 => by
        have := hpx (by omega); have := hpy (by omega); omega
      have hol : out.length ≤ 1000001 := by rw [hOL.out]; omega
      have hszr : w.heap.size ≤ wr.heap.size := hK.out.size
      have HS := Lib.hid hs
      have e1 : IntKind.i64.wrap (x0 + y0) = x0 + y0 := IntWalk.i64_in _ (by omega)
      have e2 : IntKind.i64.wrap (x0 + y0 + cy) = s := by rw [← hs]; exact IntWalk.i64_in _ (by omega)
      obtain ⟨ha1, ha2⟩ := ha0
      obtain ⟨hb1, hb2⟩ := hb0
      have HTX := Lib.hid htx
      have HTY := Lib.hid hty
      clear hcz hst hst' htx hty hpx hpy hx0 hy0 hs hO hAp hOL hav hbv hT
      go_wp2_with fail
      refine (l1At_at _ _ _ _ k x0 _ HAV.out (by omega) HX0.out).mono ?_
      rintro e w2 ⟨rfl, rfl⟩
      go_wp2_with fail
      refine (l1At_at _ _ _ _ k y0 _ HBV.out (by omega) HY0.out).mono ?_
      rintro e w2 ⟨rfl, rfl⟩
      go_wp2_with (at_builtin; refine app1 rfl _ _ rfl w.heap.size u5 out rfl (hW.out.alloc _) wr.heap.size (s % 65536) rfl (by simp) (by omega) (by simp; omega) ?_)
      intro v' w1 hW2 hG
      have HW2 := Lib.hid hW2
      have HK2 : Hid (Kept [] w w1) := kept_grown (hK.out.alloc _) (hW.out.alloc _) hG (Nat.le_refl _)
      clear hW2 hG
      go_wp2
      go_roundw
      case rel => exact ⟨k + 1, out ++ [s % 65536], s / 65536, by omega, rfl, by go_num, by omega, by omega, hOL2, hO2, hAp2, hCZ2, hT2, HW2.out, HK2⟩
      case measure => simp [intOf]; omega
    · have hd1 : decide ((k : Int) < (n : Int)) = false := decide_eq_false (by omega)
      have hd2 : decide ((k : Int) < (m : Int)) = false := decide_eq_false (by omega)
      have hd3 : decide (0 < cy) = true := decide_eq_true h3
      have hav := HR.out.kept0 hK.out
      have hbv := HR'.out.kept0 hK.out
      have HAV := Lib.hid hav
      have HBV := Lib.hid hbv
      have ha0 := getD_limb HXL.out k
      have hb0 := getD_limb HYL.out k
      have hst := val_drop xs k
      have hst' := val_drop ys k
      have htx : k + 1 = xs.length → 0 < xs.getD k 0 := canon_top HCX.out k
      have hty : k + 1 = ys.length → 0 < ys.getD k 0 := canon_top HCY.out k
      have hpx : xs.length ≤ k → xs.getD k 0 = 0 := getD_past
      have hpy : ys.length ≤ k → ys.getD k 0 = 0 := getD_past
      rw [HL.out] at htx hpx
      rw [HL'.out] at hty hpy
      generalize hx0 : xs.getD k 0 = x0 at *
      generalize hy0 : ys.getD k 0 = y0 at *
      have HX0 := Lib.hid hx0
      have HY0 := Lib.hid hy0
      obtain ⟨s, hs⟩ : ∃ s, s = x0 + y0 + cy := ⟨_, rfl⟩
      have hs1 : 0 ≤ s := by omega
      have hs2 : s ≤ 131071 := by omega
      have hO2 : Hid (AllLimbs (out ++ [s % 65536])) := hO.out.snoc (by omega)
      have hAp2 : Hid (ap (out ++ [s % 65536]) (s / 65536 + (val (xs.drop (k + 1)) + val (ys.drop (k + 1)))) = T) := by
        show ap _ _ = T
        rw [ap_snoc, ← hAp.out]
        congr 1
        omega
      have hOL2 : Hid ((out ++ [s % 65536]).length = k + 1) := by show _ = _; rw [List.length_append, hOL.out]; rfl
      have hT2 : Hid (n ≤ k + 1 → m ≤ k + 1 → 0 < s / 65536 ∨ (0 < k + 1 → (out ++ [s % 65536]).getD ((out ++ [s % 65536]).length - 1) 0 ≠ 0)) := fun q1 q2 => by
        rw [getD_last]
        by_cases q3 : 0 < s / 65536
        · exact Or.inl q3
        · exact Or.inr (fun _ => by omega)
      have hk2 : k + 1 ≤ 1000001 := by omega
      have hCZ2 : Hid (n < k + 1 → m < k + 1 → s / 65536 = 0) := fun q1 q2 => by
        have := hpx (by omega); have := hpy (by omega); omega
      have hol : out.length ≤ 1000001 := by rw [hOL.out]; omega
      have hszr : w.heap.size ≤ wr.heap.size := hK.out.size
      have HS := Lib.hid hs
      have e1 : IntKind.i64.wrap (x0 + y0) = x0 + y0 := IntWalk.i64_in _ (by omega)
      have e2 : IntKind.i64.wrap (x0 + y0 + cy) = s := by rw [← hs]; exact IntWalk.i64_in _ (by omega)
      obtain ⟨ha1, ha2⟩ := ha0
      obtain ⟨hb1, hb2⟩ := hb0
      have HTX := Lib.hid htx
      have HTY := Lib.hid hty
      clear hcz hst hst' htx hty hpx hpy hx0 hy0 hs hO hAp hOL hav hbv hT
      go_wp2_with fail
      refine (l1At_at _ _ _ _ k x0 _ HAV.out (by omega) HX0.out).mono ?_
      rintro e w2 ⟨rfl, rfl⟩
      go_wp2_with fail
      refine (l1At_at _ _ _ _ k y0 _ HBV.out (by omega) HY0.out).mono ?_
      rintro e w2 ⟨rfl, rfl⟩
      go_wp2_with (at_builtin; refine app1 rfl _ _ rfl w.heap.size u5 out rfl (hW.out.alloc _) wr.heap.size (s % 65536) rfl (by simp) (by omega) (by simp; omega) ?_)
      intro v' w1 hW2 hG
      have HW2 := Lib.hid hW2
      have HK2 : Hid (Kept [] w w1) := kept_grown (hK.out.alloc _) (hW.out.alloc _) hG (Nat.le_refl _)
      clear hW2 hG
      go_wp2
      go_roundw
      case rel => exact ⟨k + 1, out ++ [s % 65536], s / 65536, by omega, rfl, by go_num, by omega, by omega, hOL2, hO2, hAp2, hCZ2, hT2, HW2.out, HK2⟩
      case measure => simp [intOf]; omega
    · have hd1 : decide ((k : Int) < (n : Int)) = false := decide_eq_false (by omega)
      have hd2 : decide ((k : Int) < (m : Int)) = false := decide_eq_false (by omega)
      have hd3 : decide (0 < cy) = false := decide_eq_false h3
      obtain rfl : cy = 0 := by omega
      clear hcz
      have hx2 : Hid (out = digits T) := by
        have h5 := hAp.out
        rw [List.drop_of_length_le (by rw [HL.out]; omega), List.drop_of_length_le (by rw [HL'.out]; omega)] at h5
        simp only [val, Int.add_zero] at h5
        rw [ap_zero] at h5
        show out = digits T
        rw [← h5]
        refine digits_of_limbs hO.out (fun hp => ?_)
        rcases hT.out (by omega) (by omega) with h6 | h6
        · omega
        · exact h6 (by rw [← hOL.out]; exact hp)
      go_wp2
      go_ret
      exact ⟨u5, rfl, by rw [← hx2.out]; exact hW.out, hK.out⟩

theorem fit_len (v : Int) (c : Prop) [Decidable c] : (if c then fitList v else []).length ≤ 4000000 := by
  split
  · unfold fitList
    split
    · simp
    · omega
  · simp

end Go.Proofs.Ytjndjjdffifgcaa
