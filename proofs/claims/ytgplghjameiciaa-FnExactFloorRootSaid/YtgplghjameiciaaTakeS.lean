/-
  Contracts of the model's l1Compare at canonical lists and of l1Take. Conditions: the slices read as lists of limbs.
-/
import Derived.Test.YtgplghjameiciaaShort
namespace Go.Proofs.Ytgplghjameiciaa
open Go.RowKit

theorem val_lt_lenC {xs ys : List Int} (hx : Canon xs) (hy : Canon ys) (h : xs.length < ys.length) : val xs < val ys := by
  refine val_lt_at (canon_get hx).1 (canon_get hy).1 ys.length (ys.length - 1) (by omega) (by omega) (Nat.le_refl _) (fun j h1 h2 => by omega) ?_
  have h1 := (canon_get hy).2 (by omega)
  have h2 := limb_getD (canon_get hy).1 (ys.length - 1)
  have h3 : xs.getD (ys.length - 1) 0 = 0 := getD_past (by omega)
  omega

set_option maxHeartbeats 400000 in
theorem l1Compare_canon (a b : Option Addr) (n c m c' : Nat) (xs ys : List Int) (w : World) (h : Rd w a n xs) (h' : Rd w b m ys) (hx : Canon xs) (hy : Canon ys) :
    Calls Try.prog 66 #[.slice a n c, .slice b m c'] w (Ans w (.int .i64 (cmpV (val xs) (val ys)))) := by
  have HR := Lib.hid h
  have HR' := Lib.hid h'
  have HL := Lib.hid h.1
  have HL' := Lib.hid h'.1
  have hm := h.2.1
  have hm' := h'.2.1
  have HX := Lib.hid hx
  have HY := Lib.hid hy
  clear h h' hx hy
  by_cases hne : n = m
  · subst hne
    go_enter Try.func66, Try.ntmps66
    go_wp2
    go_loopw [5] (fun i wr => ∃ k : Nat, k ≤ n ∧ i = .int .i64 ((k : Int) - 1) ∧ Hid (∀ j, k ≤ j → j < n → xs.getD j 0 = ys.getD j 0) ∧ Hid (Kept [] w wr)) (fun i _ => (intOf i + 1).toNat)
    case atStart => exact ⟨n, Nat.le_refl _, rfl, fun j h1 h2 => by omega, Kept.refl [] w⟩
    case round =>
      obtain ⟨k, hk, rfl, hE, hK⟩ := hrel
      by_cases hlt : 0 < k
      · obtain ⟨g, off, rfl, hc0⟩ := HR.out.2.2 (k - 1) (by omega)
        obtain ⟨g', off', rfl, hc0'⟩ := HR'.out.2.2 (k - 1) (by omega)
        have hc := hK.out.cell hc0 (by simp)
        have hc' := hK.out.cell hc0' (by simp)
        have h0 : (0 : Int) ≤ (k : Int) - 1 := by omega
        have h1 : (1 : Int) ≤ (k : Int) := by omega
        have h2 : (k : Int) - 1 < (n : Int) := by omega
        have e1 : IntKind.i64.wrap ((k : Int) - 1 - 1) = (k : Int) - 1 - 1 := IntWalk.i64_in _ (by omega)
        clear hc0 hc0'
        rcases Int.lt_trichotomy (xs.getD (k - 1) 0) (ys.getD (k - 1) 0) with hl | hl | hl
        · have hv : Hid (cmpV (val xs) (val ys) = -1) := cmpV_lt (val_lt_at (canon_get HX.out).1 (canon_get HY.out).1 n (k - 1) (by omega) (Nat.le_of_eq HL.out) (Nat.le_of_eq HL'.out) (fun j h1 h2 => hE.out j (by omega) h2) hl)
          generalize hy : xs.getD (k - 1) 0 = y at *
          generalize hz : ys.getD (k - 1) 0 = z at *
          clear hy hz
          go_wp2
          go_quiet (fail)
          have hK2 : Hid (Kept [] w (wr.drewN nq)) := hK.out.drewN _
          clear hK
          go_wp2
          go_ret
          exact ⟨by rw [hv.out]; rfl, hK2.out⟩
        · have hE2 : Hid (∀ j, k - 1 ≤ j → j < n → xs.getD j 0 = ys.getD j 0) := fun j h1 h2 => by
            by_cases e : j = k - 1
            · subst e; exact hl
            · exact hE.out j (by omega) h2
          rw [← hl] at hc'
          clear hl
          generalize hy : xs.getD (k - 1) 0 = y at *
          clear hy
          go_wp2
          go_quiet (fail)
          go_wp2
          go_quiet (fail)
          go_wp2
          go_roundw
          case rel => exact ⟨k - 1, by omega, by congr 1; omega, hE2, by first | exact (hK.out.drewN _).drewN _ | exact hK.out.drewN _⟩
          case measure => simp [intOf]; omega
        · have hv : Hid (cmpV (val xs) (val ys) = 1) := cmpV_gt (val_lt_at (canon_get HY.out).1 (canon_get HX.out).1 n (k - 1) (by omega) (Nat.le_of_eq HL'.out) (Nat.le_of_eq HL.out) (fun j h1 h2 => (hE.out j (by omega) h2).symm) hl)
          have hnl : ¬ xs.getD (k - 1) 0 < ys.getD (k - 1) 0 := by omega
          generalize hy : xs.getD (k - 1) 0 = y at *
          generalize hz : ys.getD (k - 1) 0 = z at *
          clear hy hz
          go_wp2
          go_quiet (fail)
          go_wp2
          go_quiet (fail)
          go_wp2
          go_ret
          exact ⟨by rw [hv.out]; rfl, by first | exact (hK.out.drewN _).drewN _ | exact hK.out.drewN _⟩
      · obtain rfl : k = 0 := by omega
        have hv : Hid (cmpV (val xs) (val ys) = 0) := cmpV_eq (val_eq_at n (Nat.le_of_eq HL.out) (Nat.le_of_eq HL'.out) (fun j hj => hE.out j (Nat.zero_le _) hj))
        go_wp2
        go_ret
        exact ⟨by rw [hv.out]; rfl, hK.out⟩
  · have hne' : ((n : Int) == (m : Int)) = false := by rw [beq_eq_false_iff_ne]; omega
    by_cases hl : n < m
    · have hv : Hid (cmpV (val xs) (val ys) = -1) := cmpV_lt (val_lt_lenC HX.out HY.out (by rw [HL.out, HL'.out]; exact hl))
      go_enter Try.func66, Try.ntmps66
      go_wp2
      go_ret
      exact ⟨by rw [hv.out]; rfl, Kept.refl _ _⟩
    · have hv : Hid (cmpV (val xs) (val ys) = 1) := cmpV_gt (val_lt_lenC HY.out HX.out (by rw [HL.out, HL'.out]; omega))
      go_enter Try.func66, Try.ntmps66
      go_wp2
      go_ret
      exact ⟨by rw [hv.out]; rfl, Kept.refl _ _⟩


/-- What a try to take a limb's multiple off answers. -/
def TryR (w : World) (g j : Nat) (us : List Int) (n : Nat) (X Y : Int) (e : Ending) (w' : World) : Prop :=
  (X < Y ∧ e = .returned (.bool false) ∧ Kept [] w w') ∨
  (¬ X < Y ∧ ∃ (out ds : List Int), e = .returned (.bool true) ∧ out.length = n ∧ AllLimbs out ∧ val out = X - Y ∧ Upd us j out ds ∧ Blk w' g ds ∧ Kept [g] w w')

theorem getD_pad (xs : List Int) (k i : Nat) : (xs ++ List.replicate k 0).getD i 0 = xs.getD i 0 := by
  simp only [List.getD_eq_getElem?_getD]
  by_cases e : i < xs.length
  · rw [List.getElem?_append_left e]
  · rw [List.getElem?_append_right (by omega), List.getElem?_eq_none (show xs.length ≤ i by omega)]
    by_cases e2 : i - xs.length < k
    · simp [e2]
    · rw [List.getElem?_eq_none (by simp; omega)]

set_option maxHeartbeats 4000000 in
set_option maxRecDepth 100000 in
theorem l1Take_any (g c : Nat) (us ss : List Int) (L j : Nat) (b : Option Addr) (m d : Nat) (ys : List Int) (q : Int) (w : World) (hB : Blk w g us) (hL : us.length = L) (hj : j + (m + 1) ≤ L) (_hLb : L ≤ 1000000) (hLc : L ≤ c) (hcm : c ≤ 9223372036854775807) (hs : ss.length = m + 1) (hss : ∀ i, i < m + 1 → us.getD (j + i) 0 = ss.getD i 0) (hsl : AllLimbs ss)
    (hy : Rd w b m ys) (hyl : AllLimbs ys) (hm : m ≤ 1000) (hq : 0 ≤ q ∧ q ≤ 65535) :
    Calls Try.prog 104 #[.slice (some ⟨g, 0, none⟩) L c, .int .i64 j, .slice b m d, .int .i64 q] w (TryR w g j us (m + 1) (val ss) (q * val ys)) := by
  have HB := Lib.hid hB
  have HL := Lib.hid hL
  have HS := Lib.hid hs
  have HSS := Lib.hid hss
  have HSL := Lib.hid hsl
  have HY := Lib.hid hy
  have HYL := Lib.hid hyl
  have hglt := hB.lt
  obtain ⟨hq1, hq2⟩ := hq
  obtain ⟨X, hX⟩ : ∃ X, X = val ss := ⟨_, rfl⟩
  obtain ⟨Y, hY⟩ : ∃ Y, Y = q * val ys := ⟨_, rfl⟩
  have hX2 : 0 ≤ X ∧ X < pw (m + 1) := by have := hsl.val; rw [hs] at this; rw [hX]; exact this
  have hY2 : 0 ≤ Y := by rw [hY]; exact Int.mul_nonneg hq1 hyl.val.1
  rw [← hX, ← hY]
  have HX := Lib.hid hX
  have HYV := Lib.hid hY
  have HX2 := Lib.hid hX2
  have HY2 := Lib.hid hY2
  obtain ⟨i0, hi, hz0, hz1, hz2⟩ := info_parts Try.info64
  have hmk := fun (w : World) => run_make_row (P := Try.prog) 22 2 i0 (.int .i64 0) Try.underlying22 hi hz0 hz1 rfl .i64 .i64 (m + 1) (by rw [hz2]; omega) (by omega) w
  have ec : ((m + 1 : Nat) : Int) = (m : Int) + 1 := by omega
  rw [ec, made_zeros] at hmk
  clear ec hi hz0 hz1 hz2 hB hL hs hss hsl hy hyl hX hY hX2 hY2
  go_enter Try.func104, Try.ntmps104
  go_wp2_with fail
  have HB1 := Lib.hid (Blk.new w (List.replicate (m + 1) 0))
  clear hmk
  go_loopw [10, 11, 12] (fun cv i s0 wr => ∃ (k : Nat) (out P : List Int) (cy : Int), k ≤ m ∧ cv = .int .i64 cy ∧ i = .int .i64 k ∧ 0 ≤ cy ∧ cy ≤ 65535 ∧ Hid (out.length = k) ∧ Hid (AllLimbs out) ∧ Hid (ap out (cy + q * val (ys.drop k)) = Y) ∧ Hid (Upd (List.replicate (m + 1) 0) 0 out P) ∧ Hid (Blk wr w.heap.size P) ∧ Hid (Kept [] w wr)) (fun _ i _ _ => m - (intOf i).toNat)
  case atStart => exact ⟨0, [], _, 0, Nat.zero_le _, rfl, rfl, by omega, by omega, rfl, fun i hi => by simp at hi, by show ap _ _ = Y; rw [HYV.out]; simp [ap], Upd.refl _ _, HB1.out, (Kept.refl [] w).alloc _⟩
  case round =>
    obtain ⟨k, out, P, cy, hk, rfl, rfl, hc1, hc2, hOL, hO, hAp, hU, hBP, hK⟩ := hrel
    by_cases hlt : k < m
    · obtain ⟨gb, ob, rfl, hc0⟩ := HY.out.2.2 k hlt
      have hc := hK.out.cell hc0 (by simp)
      have hyk := HYL.out k (by rw [HY.out.1]; exact hlt)
      have hst := val_drop ys k
      generalize hy0 : ys.getD k 0 = y at *
      obtain ⟨p, hp⟩ : ∃ p, p = y * q := ⟨_, rfl⟩
      have hp1 : 0 ≤ p := by rw [hp]; exact Int.mul_nonneg hyk.1 hq1
      have hp2 : p ≤ 4294836225 := by
        have h8 : y * q ≤ 65535 * q := Int.mul_le_mul_of_nonneg_right hyk.2 hq1
        omega
      obtain ⟨u, hu⟩ : ∃ u, u = p + cy := ⟨_, rfl⟩
      have hu1 : 0 ≤ u := by omega
      have hu2 : u ≤ 4294901760 := by omega
      have hO2 : Hid (AllLimbs (out ++ [u % 65536])) := hO.out.snoc (by omega)
      have hAp2 : Hid (ap (out ++ [u % 65536]) (u / 65536 + q * val (ys.drop (k + 1))) = Y) := by
        show ap _ _ = Y
        have e9 : q * val (ys.drop k) = p + 65536 * (q * val (ys.drop (k + 1))) := by
          rw [hst, Int.mul_add, Int.mul_left_comm q 65536, Int.mul_comm q y, ← hp]
        rw [ap_snoc, ← hAp.out, e9]
        congr 1
        omega
      have hU2 : Hid (Upd (List.replicate (m + 1) 0) 0 (out ++ [u % 65536]) (P.set k (u % 65536))) := by
        have := hU.out.snoc (u % 65536) (by rw [hOL.out]; simp; omega)
        rw [hOL.out, Nat.zero_add] at this; exact this
      have hOL2 : Hid ((out ++ [u % 65536]).length = k + 1) := by show _ = _; rw [List.length_append, hOL.out]; rfl
      have hcell := hBP.out.cell (j := k) (by rw [hU.out.len]; simp; omega)
      have hfr := hBP.out.frozen k
      have HB2 := Lib.hid (hBP.out.set k (u % 65536))
      have HK2 := Lib.hid (hK.out.setCell ⟨w.heap.size, k, none⟩ (.int .i64 (u % 65536)) (by simp))
      have e1 : IntKind.i64.wrap (y * q) = p := by rw [← hp]; exact IntWalk.i64_in _ (by omega)
      have e2 : IntKind.i64.wrap (p + cy) = u := by rw [← hu]; exact IntWalk.i64_in _ (by omega)
      have hkk : k ≤ 1000 := by omega
      clear hc0 hst hy0 hyk hp hu hU hO hAp hBP hK hOL
      go_wp2
      go_roundw
      case rel => exact ⟨k + 1, _, _, u / 65536, by omega, rfl, by go_num, by omega, by omega, hOL2, hO2, hAp2, hU2, HB2.out, HK2.out⟩
      case measure => simp [intOf]; omega
    · obtain rfl : k = m := by omega
      have hAp2 := hAp.out
      rw [List.drop_of_length_le (Nat.le_of_eq HY.out.1)] at hAp2
      have hcell := hBP.out.cell (j := k) (by rw [hU.out.len]; simp)
      have hfr := hBP.out.frozen k
      obtain ⟨PP, hPP⟩ : ∃ PP, PP = out ++ [cy] := ⟨_, rfl⟩
      have hPl : PP.length = k + 1 := by rw [hPP, List.length_append, hOL.out]; rfl
      have hPset : P.set k cy = PP := by
        have h1 := hU.out.snoc cy (by rw [hOL.out]; simp)
        rw [hOL.out, Nat.zero_add] at h1
        rw [hPP]
        exact h1.whole (by rw [List.length_append, hOL.out]; simp)
      have hPa : AllLimbs PP := by rw [hPP]; exact hO.out.snoc ⟨hc1, hc2⟩
      have hPv : val PP = Y := by
        rw [hPP, val_append, ← hAp2]
        simp [val]
      have hbp := hBP.out.set k cy
      rw [hPset] at hbp
      have HBP := Lib.hid hbp
      have HPL := Lib.hid hPl
      have HPA := Lib.hid hPa
      have HPV := Lib.hid hPv
      have HK2 := Lib.hid (hK.out.setCell ⟨w.heap.size, k, none⟩ (.int .i64 cy) (by simp))
      obtain ⟨w2, hw2⟩ : ∃ w2, w2 = wr.setCell ⟨w.heap.size, k, none⟩ (.int .i64 cy) := ⟨_, rfl⟩
      rw [← hw2] at HBP HK2
      have HW2 := Lib.hid hw2
      have hsub : Sl w2 (some ⟨g, j, none⟩) (k + 1) (c - j) ss := ⟨HS.out, by omega, by omega, by simp, Or.inr ⟨g, j, us, rfl, HK2.out.blk HB.out (by simp), by rw [HL.out]; exact hj, HSS.out⟩⟩
      have HSUB := Lib.hid hsub
      clear hAp2 hPP hPl hPset hPa hPv hbp hU hO hAp hBP hK hOL hw2 hsub
      go_wp2_with fail
      rw [← HW2.out]
      rw [show j + k + 1 - j = k + 1 by omega]
      refine (l1Ints_any _ _ _ _ _ HSUB.out (by omega)).mono ?_
      rintro e w3 ⟨v3, rfl, hO3, hk3⟩
      obtain ⟨a3, c3, rfl, hS3, hF3⟩ := hO3.sl
      rw [HS.out] at hS3 ⊢
      have HS3 := Lib.hid hS3
      have HBP3 := Lib.hid (hk3.blk HBP.out (by simp))
      have HK3 := Lib.hid (HK2.out.trans0 hk3)
      clear hO3 hk3 hS3 hF3
      go_wp2_with fail
      refine (l1Trim_any _ _ _ _ _ HS3.out HSL.out (by omega)).mono ?_
      rintro e w4 ⟨v4, rfl, hO4, hk4⟩
      obtain ⟨a4, c4, rfl, hS4, hF4⟩ := hO4.sl
      rw [← HX.out] at hS4 ⊢
      have HS4 := Lib.hid hS4
      have HS34 := Lib.hid (HS3.out.kept0 hk4)
      have HBP4 := Lib.hid (hk4.blk HBP3.out (by simp))
      have HK4 := Lib.hid (HK3.out.trans0 hk4)
      clear hO4 hk4 hS4 hF4
      go_wp2_with fail
      refine (l1Trim_any _ _ _ PP _ (sl_blk HBP4.out HPL.out (by omega)) HPA.out (by omega)).mono ?_
      rintro e w5 ⟨v5, rfl, hO5, hk5⟩
      obtain ⟨a5, c5, rfl, hS5, hF5⟩ := hO5.sl
      rw [HPV.out] at hS5 ⊢
      have HS5 := Lib.hid hS5
      have HS45 := Lib.hid (HS4.out.kept0 hk5)
      have HS35 := Lib.hid (HS34.out.kept0 hk5)
      have HBP5 := Lib.hid (hk5.blk HBP4.out (by simp))
      have HK5 := Lib.hid (HK4.out.trans0 hk5)
      clear hO5 hk5 hS5 hF5
      go_wp2_with fail
      refine (l1Compare_canon _ _ _ _ _ _ _ _ _ HS45.out.rd HS5.out.rd (canon_digits' _) (canon_digits' _)).mono ?_
      rintro e w6 ⟨rfl, hk6⟩
      rw [val_digits' HX2.out.1, val_digits' HY2.out]
      have HS36 := Lib.hid (HS35.out.kept0 hk6)
      have HBP6 := Lib.hid (hk6.blk HBP5.out (by simp))
      have HK6 := Lib.hid (HK5.out.trans0 hk6)
      clear hk6
      by_cases hXY : X < Y
      · rw [cmpV_lt hXY]
        have HXY := Lib.hid hXY
        clear hXY
        go_wp2_with fail
        go_ret
        exact Or.inl ⟨HXY.out, rfl, HK6.out⟩
      · obtain ⟨cv, hcv⟩ : ∃ cv, cv = cmpV X Y := ⟨_, rfl⟩
        have hcv0 : 0 ≤ cv := by rw [hcv]; unfold cmpV; rw [if_neg hXY]; split <;> omega
        have hcd : decide (cv < 0) = false := decide_eq_false (by omega)
        rw [← hcv]
        have HXY := Lib.hid hXY
        have HLE : Hid (val PP ≤ val ss) := by show val PP ≤ val ss; rw [HPV.out, ← HX.out]; omega
        clear hXY hcv
        go_wp2_with fail
        refine (l1Sub_any _ _ _ _ _ _ ss PP _ HS36.out.rd (sl_blk HBP6.out HPL.out (by omega)).rd HSL.out HPA.out (by omega) (Nat.le_refl _) HLE.out).mono ?_
        rintro e w7 ⟨v7, rfl, hO7, hk7⟩
        obtain ⟨a7, c7, rfl, hS7, hF7⟩ := hO7.sl
        rw [HPV.out, ← HX.out] at hS7 hF7 ⊢
        obtain ⟨D, hD⟩ : ∃ D, D = X - Y := ⟨_, rfl⟩
        rw [← hD] at hS7 hF7 ⊢
        have hDb : 0 ≤ D ∧ D < pw (k + 1) := by
          have h1 := HX2.out
          have h2 := HY2.out
          have h3 := HXY.out
          omega
        have hdl : (digits D).length ≤ k + 1 := digits_len (k + 1) D hDb.2
        obtain ⟨pad, hpad⟩ : ∃ pad, pad = digits D ++ List.replicate (k + 1 - (digits D).length) 0 := ⟨_, rfl⟩
        have hpl : pad.length = k + 1 := by rw [hpad]; simp; omega
        have hpv : val pad = D := by rw [hpad, val_pad, val_digits' hDb.1]
        have hpa : AllLimbs pad := by rw [hpad]; exact allLimbs_pad (canon_limbs (canon_digits' _)) _
        have hpg : ∀ i, pad.getD i 0 = (digits D).getD i 0 := fun i => by rw [hpad]; exact getD_pad _ _ _
        have HD := Lib.hid hD
        have HPADL := Lib.hid hpl
        have HPADV := Lib.hid hpv
        have HPADA := Lib.hid hpa
        have HPADG := Lib.hid hpg
        have HS7 := Lib.hid hS7
        have HF7 := Lib.hid hF7
        have HK7 := Lib.hid (HK6.out.trans0 hk7)
        have hw6s : w.heap.size ≤ w6.heap.size := HK6.out.size
        clear hO7 hk7 hS7 hF7 hD hDb hdl hpad hpl hpv hpa hpg
        go_wp2_with fail
        go_loopw [15, 66] (fun s0 i wr => ∃ (t : Nat) (ds : List Int), t ≤ k + 1 ∧ i = .int .i64 t ∧ Hid (Upd us j (pad.take t) ds) ∧ Hid (Blk wr g ds) ∧ Hid (Kept [g] w7 wr)) (fun _ i _ => k + 1 - (intOf i).toNat)
        case atStart => exact ⟨0, us, Nat.zero_le _, rfl, Upd.refl _ _, HK7.out.blk HB.out (by simp), Kept.refl _ _⟩
        case round =>
          obtain ⟨t, ds, ht, rfl, hU, hBd, hK⟩ := hrel
          by_cases hlt2 : t < k + 1
          · have htl : (pad.take t).length = t := by rw [List.length_take, HPADL.out]; omega
            have hU2 : Hid (Upd us j (pad.take (t + 1)) (ds.set (j + t) (pad.getD t 0))) := by
              have h1 := hU.out.snoc (pad.getD t 0) (by rw [htl, HL.out]; omega)
              rw [htl] at h1
              show Upd us j (pad.take (t + 1)) _
              rw [List.take_succ_eq_append_getElem (by rw [HPADL.out]; exact hlt2)]
              have h2 : pad.getD t 0 = pad[t]'(by rw [HPADL.out]; exact hlt2) := by simp [List.getD_eq_getElem?_getD, show t < pad.length by rw [HPADL.out]; exact hlt2]
              rw [h2] at h1 ⊢
              exact h1
            have hrd7 := Lib.hid ((HS7.out.kept hK.out (fun hn x hx => by have := HF7.out hn x hx; simp; omega)).rd)
            have HG2 := Lib.hid (HPADG.out t).symm
            have hcell := hBd.out.cell (j := j + t) (by rw [hU.out.len, HL.out]; omega)
            have hfr := hBd.out.frozen (j + t)
            have HB2 := Lib.hid (hBd.out.set (j + t) (pad.getD t 0))
            have HK2' := Lib.hid (hK.out.setCell ⟨g, j + t, none⟩ (.int .i64 (pad.getD t 0)) (by simp))
            have el : (j : Int) + (t : Int) < (L : Int) := by omega
            clear htl hU hBd hK
            generalize pad.getD t 0 = pv at *
            go_wp2_with fail
            refine (l1At_at _ _ _ (digits D) t pv _ hrd7.out (by omega) HG2.out).mono ?_
            rintro e w8 ⟨rfl, rfl⟩
            go_wp2
            go_roundw
            case rel => exact ⟨t + 1, _, by omega, by go_num, hU2, HB2.out, HK2'.out⟩
            case measure => simp [intOf]; omega
          · obtain rfl : t = k + 1 := by omega
            have hU2 := hU.out
            rw [List.take_of_length_le (Nat.le_of_eq HPADL.out)] at hU2
            have HU2 := Lib.hid hU2
            have HKF : Hid (Kept [g] w wr) := (HK7.out.mono (by simp)).trans hK.out (fun x hx _ => hx)
            clear hU2
            go_wp2
            go_ret
            exact Or.inr ⟨by have := HXY.out; omega, pad, ds, rfl, HPADL.out, HPADA.out, by rw [HPADV.out, HD.out], HU2.out, hBd.out, HKF.out⟩

end Go.Proofs.Ytgplghjameiciaa
