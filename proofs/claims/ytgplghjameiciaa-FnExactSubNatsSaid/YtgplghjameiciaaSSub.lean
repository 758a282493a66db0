/-
  Contracts of the model's l1Sub, SubNats. Conditions: the slices read as lists of numbers; for l1Sub of limbs, the second not the greater.
-/
import Derived.Test.YtgplghjameiciaaJ2
import Derived.Test.YtgplghjameiciaaTrim
namespace Go.Proofs.Ytgplghjameiciaa
open Go.RowKit

theorem l1At_quiet (a : Option Addr) (n c : Nat) (xs : List Int) (k : Nat) (y : Int) (w : World) (h : Rd w a n xs) (hk : k ≤ 9223372036854775807) (hv : xs.getD k 0 = y) :
    Calls Try.prog 97 #[.slice a n c, .int .i64 k] w fun e w' => e = .returned (.int .i64 y) ∧ w' = w :=
  (l1At_at a n c xs k y w h hk hv).mono fun _ _ ⟨h1, h2⟩ => ⟨h1, h2.symm⟩

set_option maxHeartbeats 2000000 in
theorem l1Sub_any (a b : Option Addr) (n c m c' : Nat) (xs ys : List Int) (w : World) (h : Rd w a n xs) (h' : Rd w b m ys) (hx : AllLimbs xs) (hy : AllLimbs ys) (hn : n ≤ 1000000) (hmn : m ≤ n) (hle : val ys ≤ val xs) :
    Calls Try.prog 67 #[.slice a n c, .slice b m c'] w (SlR w (digits (val xs - val ys))) := by
  have HR := Lib.hid h
  have HR' := Lib.hid h'
  have HL := Lib.hid h.1
  have HL' := Lib.hid h'.1
  have HXL := Lib.hid hx
  have HYL := Lib.hid hy
  obtain ⟨T, hT⟩ : ∃ T, T = val xs - val ys := ⟨_, rfl⟩
  have hTr : rest xs (fun i => ys.getD i 0) (-1) 0 = T := by
    rw [rest_start, vf_val ys xs.length (by rw [h'.1, h.1]; exact hmn)]; omega
  have hTb : 0 ≤ T ∧ T < pw n := by
    have h1 := hx.val
    have h2 := hy.val
    rw [h.1] at h1
    omega
  rw [← hT]
  have HT := Lib.hid hTr
  have HTB := Lib.hid hTb
  clear h h' hx hy hT hTr hTb hle
  go_enter Try.func67, Try.ntmps67
  go_wp2
  go_loopw [5, 6, 7, 8] (fun v q i s0 wr => ∃ (k : Nat) (out : List Int) (bw : Int), k ≤ n ∧ q = .int .i64 bw ∧ i = .int .i64 k ∧ 0 ≤ bw ∧ bw ≤ 1 ∧ Hid (out.length = k) ∧ Hid (AllLimbs out) ∧ Hid (ap out (-bw + rest xs (fun i => ys.getD i 0) (-1) k) = T) ∧ Hid (Ow w.heap.size wr v out) ∧ Hid (Kept [] w wr)) (fun _ _ i _ _ => n - (intOf i).toNat)
  case atStart => exact ⟨0, [], 0, by omega, rfl, rfl, by omega, by omega, rfl, fun i hi => by simp at hi, by show ap _ _ = T; rw [HT.out]; simp [ap], Ow.empty _ w (Nat.le_refl _), (Kept.refl [] w).alloc _⟩
  case round =>
    obtain ⟨k, out, bw, hk, rfl, rfl, hc1, hc2, hOL, hO, hAp, hW, hK⟩ := hrel
    by_cases hlt : k < n
    · obtain ⟨g, off, rfl, hc0⟩ := HR.out.2.2 k hlt
      have hc := hK.out.cell hc0 (by simp)
      have HAV := Lib.hid (HR'.out.kept0 hK.out)
      have ha0 := getD_limb HXL.out k
      have hb0 := getD_limb HYL.out k
      have hst := rest_step xs (fun i => ys.getD i 0) (-1) k (by rw [HL.out]; exact hlt)
      have hy00 : ys.getD k 0 = ys.getD k 0 := rfl
      generalize hx0 : xs.getD k 0 = x0 at *
      generalize hy0 : ys.getD k 0 = y0 at *
      have HY0 := Lib.hid hy0
      obtain ⟨s, hs⟩ : ∃ s, s = x0 - y0 - bw := ⟨_, rfl⟩
      obtain ⟨ha1, ha2⟩ := ha0
      obtain ⟨hb1, hb2⟩ := hb0
      have hs1 : -65536 ≤ s := by omega
      have hs2 : s ≤ 65535 := by omega
      have hkk : k ≤ 1000000 := by omega
      have hol : out.length ≤ 1000000 := by rw [hOL.out]; omega
      have hszr : w.heap.size ≤ wr.heap.size := hK.out.size
      have e1 : IntKind.i64.wrap (x0 - y0) = x0 - y0 := IntWalk.i64_in _ (by omega)
      have e2 : IntKind.i64.wrap (x0 - y0 - bw) = s := by rw [← hs]; exact IntWalk.i64_in _ (by omega)
      by_cases hneg : s < 0
      · have hO2 : Hid (AllLimbs (out ++ [s + 65536])) := hO.out.snoc (by omega)
        have hAp2 : Hid (ap (out ++ [s + 65536]) (-1 + rest xs (fun i => ys.getD i 0) (-1) (k + 1)) = T) := by
          show ap _ _ = T
          rw [ap_snoc, ← hAp.out]
          congr 1
          omega
        have hOL2 : Hid ((out ++ [s + 65536]).length = k + 1) := by show _ = _; rw [List.length_append, hOL.out]; rfl
        have hK0 := Lib.hid hK.out
        have hW0 := Lib.hid hW.out
        clear hs hst hO hAp hOL hc0 hx0 hy0 hK hW hy00
        go_wp2_with fail
        go_quiet ((go_at_call 97; exact Calls.quiet_of_same (l1At_quiet _ _ _ ys k y0 _ (HAV.out.kept0 ((Kept.refl [] wr).drewN _)) (by omega) HY0.out)))
        clear e1 e2
        have HK1 := Lib.hid (hK0.out.drewN nq)
        have HW1 : Hid (Ow w.heap.size (wr.drewN nq) u5 out) := hW0.out
        have hszd : w.heap.size ≤ (wr.drewN nq).heap.size := hszr
        generalize hwq : wr.drewN nq = wq at *
        clear hwq
        go_wp2_with (at_builtin; refine app1 rfl _ _ rfl w.heap.size u5 out rfl (HW1.out.alloc _) wq.heap.size (s + 65536) rfl (by simp) (by omega) (by simp; omega) ?_)
        intro v' w1 hW2 hG
        have HW2 := Lib.hid hW2
        have HK2 : Hid (Kept [] w w1) := kept_grown (HK1.out.alloc _) (HW1.out.alloc _) hG (Nat.le_refl _)
        clear hW2 hG
        go_wp2
        go_roundw
        case rel => exact ⟨k + 1, out ++ [s + 65536], 1, by omega, rfl, by go_num, by omega, by omega, hOL2, hO2, hAp2, HW2.out, HK2⟩
        case measure => simp [intOf]; omega
      · have hO2 : Hid (AllLimbs (out ++ [s])) := hO.out.snoc (by omega)
        have hAp2 : Hid (ap (out ++ [s]) (-0 + rest xs (fun i => ys.getD i 0) (-1) (k + 1)) = T) := by
          show ap _ _ = T
          rw [ap_snoc, ← hAp.out]
          congr 1
          omega
        have hOL2 : Hid ((out ++ [s]).length = k + 1) := by show _ = _; rw [List.length_append, hOL.out]; rfl
        have hK0 := Lib.hid hK.out
        have hW0 := Lib.hid hW.out
        clear hs hst hO hAp hOL hc0 hx0 hy0 hK hW hy00
        go_wp2_with fail
        go_quiet ((go_at_call 97; exact Calls.quiet_of_same (l1At_quiet _ _ _ ys k y0 _ (HAV.out.kept0 ((Kept.refl [] wr).drewN _)) (by omega) HY0.out)))
        clear e1 e2
        have HK1 := Lib.hid (hK0.out.drewN nq)
        have HW1 : Hid (Ow w.heap.size (wr.drewN nq) u5 out) := hW0.out
        have hszd : w.heap.size ≤ (wr.drewN nq).heap.size := hszr
        generalize hwq : wr.drewN nq = wq at *
        clear hwq
        go_wp2_with (at_builtin; refine app1 rfl _ _ rfl w.heap.size u5 out rfl (HW1.out.alloc _) wq.heap.size s rfl (by simp) (by omega) (by simp; omega) ?_)
        intro v' w1 hW2 hG
        have HW2 := Lib.hid hW2
        have HK2 : Hid (Kept [] w w1) := kept_grown (HK1.out.alloc _) (HW1.out.alloc _) hG (Nat.le_refl _)
        clear hW2 hG
        go_wp2
        go_roundw
        case rel => exact ⟨k + 1, out ++ [s], 0, by omega, rfl, by go_num, by omega, by omega, hOL2, hO2, hAp2, HW2.out, HK2⟩
        case measure => simp [intOf]; omega
    · obtain rfl : k = n := by omega
      have hend : ap out (-bw) = T := by
        have := hAp.out
        rw [← HL.out, rest_end, Int.add_zero] at this; exact this
      have hv := no_carryN hO.out hOL.out HTB.out hend
      obtain ⟨a2, c2, rfl, hS, hF⟩ := hW.out.sl
      rw [hOL.out] at hS hF ⊢
      have HS := Lib.hid hS
      have HV := Lib.hid hv.2
      have HKE := Lib.hid hK.out
      have HOE := Lib.hid hO.out
      have hszr : w.heap.size ≤ wr.heap.size := hK.out.size
      clear hend hv hS hF
      go_wp2_with fail
      refine (l1Trim_any _ _ _ _ _ HS.out HOE.out (by omega)).mono ?_
      rintro e w2 ⟨v, rfl, hO3, hq⟩
      rw [HV.out] at hO3
      have HO3 := Lib.hid (hO3.mono hszr)
      have HQ := Lib.hid (HKE.out.trans0 hq)
      clear hO3 hq
      go_wp2_with fail
      go_ret
      exact ⟨v, rfl, HO3.out, HQ.out⟩

set_option maxHeartbeats 1000000 in
theorem sSubNats_any (a b : Option Addr) (n c m c' : Nat) (xs ys : List Int) (w : World) (h : Rd w a n xs) (h' : Rd w b m ys) :
    Calls Try.prog 24 #[.slice a n c, .slice b m c'] w (NatR w (subCode xs ys) (subList xs ys)) := by
  have k0 : Kept [] w (w.alloc (.cells #[.int .i64 0, .slice none 0 0] 24)) := (Kept.refl [] w).alloc _
  have HK0 := Lib.hid k0
  have HR := Lib.hid h
  have HR' := Lib.hid h'
  have HL := Lib.hid h.1
  have HL' := Lib.hid h'.1
  clear h h' k0
  by_cases hz : fault2 xs ys = 0
  · have hz' := Lib.hid hz
    have hx := Lib.hid (natFault_zero (fault2_zero hz).1)
    have hy := Lib.hid (natFault_zero (fault2_zero hz).2)
    have hn40 : n ≤ 40 := by have := hx.out.len; rw [HL.out] at this; exact this
    by_cases hlt : val xs < val ys
    · have hsc : subCode xs ys = 3 := by unfold subCode; rw [if_pos hz, if_pos hlt]
      have hsl : subList xs ys = [] := by unfold subList; rw [if_pos hz, if_pos hlt]
      rw [hsc, hsl]
      have hcmp : Hid (cmpV (val xs) (val ys) = -1) := cmpV_lt hlt
      clear hsc hsl hz hlt
      go_enter Try.func24, Try.ntmps24
      go_wp2_with fail
      refine (l1Two_any _ _ _ _ _ _ _ _ _ (HR.out.kept0 HK0.out) (HR'.out.kept0 HK0.out)).mono ?_
      rintro e w1 ⟨rfl, hq⟩
      rw [hz'.out]
      have HQ := Lib.hid (HK0.out.trans0 hq)
      have HQ1 := Lib.hid hq
      clear hq
      go_wp2_with fail
      refine (l1Compare_any _ _ _ _ _ _ _ _ _ (HR.out.kept0 HQ.out) (HR'.out.kept0 HQ.out) hx.out hy.out).mono ?_
      rintro e w2 ⟨rfl, hq⟩
      have HQ2 := Lib.hid (HQ.out.trans0 hq)
      have HQ12 := Lib.hid (HQ1.out.trans0 hq)
      clear hq
      rw [hcmp.out]
      obtain ⟨hc0, hc1, hf0, hf1, hsz⟩ := resCells HQ12.out (by simp)
      obtain ⟨ea, eb, ec⟩ := cells2 (.int .i64 3) (.slice none 0 0) hc0 hc1
      go_wp2_with fail
      exact bodyPost_ret (v := .agg #[.int .i64 3, .slice none 0 0]) (by simp [results, Try.results24, go_sem, eb, ec]) rfl (natR_fin (xs := []) 3 HQ12.out (Sl.nil _) (fun h => by simp at h))
    · have hsc : subCode xs ys = 0 := by unfold subCode; rw [if_pos hz, if_neg hlt]
      have hsl : subList xs ys = digits (val xs - val ys) := by unfold subList; rw [if_pos hz, if_neg hlt]
      rw [hsc, hsl]
      obtain ⟨cv, hcv⟩ : ∃ cv, cv = cmpV (val xs) (val ys) := ⟨_, rfl⟩
      have hcv0 : 0 ≤ cv := by rw [hcv]; unfold cmpV; rw [if_neg hlt]; split <;> omega
      have hcd : decide (cv < 0) = false := decide_eq_false (by omega)
      have hmn : m ≤ n := by rw [← HL.out, ← HL'.out]; exact len_of_le hx.out hy.out (by omega)
      have HCV := Lib.hid hcv
      have HLE := Lib.hid (Int.not_lt.1 hlt)
      clear hcv hlt hz hsc hsl
      go_enter Try.func24, Try.ntmps24
      go_wp2_with fail
      refine (l1Two_any _ _ _ _ _ _ _ _ _ (HR.out.kept0 HK0.out) (HR'.out.kept0 HK0.out)).mono ?_
      rintro e w1 ⟨rfl, hq⟩
      rw [hz'.out]
      have HQ := Lib.hid (HK0.out.trans0 hq)
      have HQ1 := Lib.hid hq
      clear hq
      go_wp2_with fail
      refine (l1Compare_any _ _ _ _ _ _ _ _ _ (HR.out.kept0 HQ.out) (HR'.out.kept0 HQ.out) hx.out hy.out).mono ?_
      rintro e w2 ⟨rfl, hq⟩
      have HQ2 := Lib.hid (HQ.out.trans0 hq)
      have HQ12 := Lib.hid (HQ1.out.trans0 hq)
      clear hq
      rw [← HCV.out]
      go_wp2_with fail
      refine (l1Sub_any _ _ _ _ _ _ _ _ _ (HR.out.kept0 HQ2.out) (HR'.out.kept0 HQ2.out) hx.out.limb hy.out.limb (by omega) hmn HLE.out).mono ?_
      rintro e w4 ⟨v, rfl, hO, hk4⟩
      obtain ⟨b4, c4, rfl, hs4, hf4⟩ := hO.sl
      have hk4' := HQ12.out.trans0 hk4
      obtain ⟨hc0, hc1, hf0, hf1, hsz⟩ := resCells hk4' (by simp)
      obtain ⟨ea, eb, ec⟩ := cells2 (.int .i64 0) (.slice b4 (digits (val xs - val ys)).length c4) hc0 hc1
      have HF := Lib.hid (hf4.mono (show w.heap.size + 1 ≤ w2.heap.size by have := HQ12.out.size; simpa using this))
      have HS4 := Lib.hid hs4
      have HK5 := Lib.hid hk4'
      clear hO hs4 hf4 hk4 hk4'
      go_wp2_with fail
      exact bodyPost_ret (v := .agg #[.int .i64 0, .slice b4 (digits (val xs - val ys)).length c4]) (by simp [results, Try.results24, go_sem, eb, ec]) rfl (natR_fin _ HK5.out HS4.out HF.out)
  · have hsc : subCode xs ys = fault2 xs ys := if_neg hz
    have hsl : subList xs ys = [] := if_neg hz
    rw [hsc, hsl]
    clear hsc hsl
    go_enter Try.func24, Try.ntmps24
    go_wp2_with fail
    refine (l1Two_any _ _ _ _ _ _ _ _ _ (HR.out.kept0 HK0.out) (HR'.out.kept0 HK0.out)).mono ?_
    rintro e w1 ⟨rfl, hq⟩
    generalize hf : fault2 xs ys = f at *
    have hne : (f == 0) = false := by rw [beq_eq_false_iff_ne]; exact hz
    obtain ⟨hc0, hc1, hf0, hf1, hsz⟩ := resCells hq (by simp)
    obtain ⟨ea, eb, ec⟩ := cells2 (.int .i64 f) (.slice none 0 0) hc0 hc1
    have HQ := Lib.hid hq
    have HF := Lib.hid hf
    clear hf hz hq
    go_wp2_with fail
    exact bodyPost_ret (v := .agg #[.int .i64 f, .slice none 0 0]) (by simp [results, Try.results24, go_sem, eb, ec]) rfl (natR_fin (xs := []) f HQ.out (Sl.nil _) (fun h => by simp at h))

theorem sub_len (xs ys : List Int) : (subList xs ys).length ≤ 4000000 := by
  unfold subList
  split
  · rename_i hz
    have hx := natFault_zero (fault2_zero hz).1
    have hy := natFault_zero (fault2_zero hz).2
    split
    · simp
    · have h1 := (show AllLimbs xs from hx.limb).val
      have h2 := val_nonneg hy
      have := digits_len xs.length (val xs - val ys) (by omega)
      have := hx.len
      omega
  · simp

end Go.Proofs.Ytgplghjameiciaa
