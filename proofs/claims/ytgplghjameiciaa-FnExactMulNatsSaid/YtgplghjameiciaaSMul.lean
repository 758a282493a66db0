/-
  Contracts of the model's l1Mul, MulNats. Condition: the slices read as lists of limbs.
-/
import Derived.Test.YtgplghjameiciaaMul
namespace Go.Proofs.Ytgplghjameiciaa
open Go.RowKit

set_option maxHeartbeats 4000000 in
theorem l1Mul_any (a b : Option Addr) (n c m c' : Nat) (xs ys : List Int) (w : World) (h : Rd w a n xs) (h' : Rd w b m ys) (hx : AllLimbs xs) (hy : AllLimbs ys) (hn : n ≤ 100000) (hm : m ≤ 100000) :
    Calls Try.prog 69 #[.slice a n c, .slice b m c'] w (SlR w (digits (val xs * val ys))) := by
  have HR := Lib.hid h
  have HR' := Lib.hid h'
  have HL := Lib.hid h.1
  have HL' := Lib.hid h'.1
  have hxl := Lib.hid hx
  have hyl := Lib.hid hy
  clear h h' hx hy
  obtain ⟨i0, hi, hz0, hz1, hz2⟩ := info_parts Try.info64
  have hmk := fun (w : World) => run_make_row (P := Try.prog) 22 2 i0 (.int .i64 0) Try.underlying22 hi hz0 hz1 rfl .i64 .i64 (n + m) (by rw [hz2]; omega) (by omega) w
  have ec : ((n + m : Nat) : Int) = (n : Int) + (m : Int) := by omega
  rw [ec, made_zeros] at hmk
  clear ec hi hz0 hz1 hz2
  go_enter Try.func69, Try.ntmps69
  go_wp2_with fail
  have HB1 := Lib.hid (Blk.new w (List.replicate (n + m) 0))
  clear hmk
  go_loopw [6] (fun i wr => ∃ (k : Nat) (P : List Int), k ≤ n ∧ i = .int .i64 k ∧ Hid (MulAt xs ys k P) ∧ Hid (Blk wr w.heap.size P) ∧ Hid (Kept [] w wr)) (fun i _ => n - (intOf i).toNat)
  case atStart => exact ⟨0, _, Nat.zero_le _, rfl, by have := MulAt.start xs ys; rw [HL.out, HL'.out] at this; exact this, HB1.out, (Kept.refl [] w).alloc _⟩
  case round =>
    obtain ⟨k, P, hk, rfl, hM, hB, hK⟩ := hrel
    obtain ⟨wo, rfl⟩ : ∃ wo : World, wo = wr := ⟨_, rfl⟩
    by_cases hlt : k < n
    · obtain ⟨g, off, rfl, hc0⟩ := HR.out.2.2 k hlt
      have hxk := hxl.out k (by rw [HL.out]; exact hlt)
      obtain ⟨x, hx0⟩ : ∃ x, x = xs.getD k 0 := ⟨_, rfl⟩
      rw [← hx0] at hc0 hxk
      obtain ⟨hx1, hx2⟩ := hxk
      obtain ⟨W, hW1, hW2, hW3, hW4, hW5, hW6⟩ := hM.out.window (by rw [HL.out]; exact hlt)
      have hPl := hM.out.length (by rw [HL.out]; exact hk)
      rw [HL.out, HL'.out] at hPl
      rw [HL'.out] at hW1 hW3 hW5 hW6
      have HPl := Lib.hid hPl
      have HW1 := Lib.hid hW1
      have HW2 := Lib.hid hW2
      have HW3 := Lib.hid hW3
      have HW45 := Lib.hid (And.intro hW4 hW5)
      have HW6 := Lib.hid hW6
      have HX := Lib.hid hx0
      have HC0 := Lib.hid hc0
      have HPB := Lib.hid hB.out
      have HK0 := Lib.hid hK.out
      obtain ⟨ss, hss⟩ : ∃ ss, ss = W ++ [0] := ⟨_, rfl⟩
      have hsl : ss.length = m + 1 := by rw [hss, List.length_append, hW1]; rfl
      have HSL := Lib.hid hsl
      obtain ⟨T, hT⟩ : ∃ T, T = val W + x * val ys := ⟨_, rfl⟩
      have hTb : 0 ≤ T ∧ T < pw (m + 1) := by rw [hT]; exact mul_fits ⟨hW4, hW5⟩ (val_pw_le hyl.out (Nat.le_of_eq HL'.out)) ⟨hx1, hx2⟩
      have HTB := Lib.hid hTb
      have hstart : rest ss (fun i => ys.getD i 0) x 0 = T := by
        rw [rest_start, vf_val ys ss.length (by rw [HL'.out, hsl]; omega), hT, hss, show W ++ [0] = W ++ List.replicate 1 0 from rfl, val_pad]
      have HST := Lib.hid hstart
      have HTE := Lib.hid hT
      rw [← hss] at HW2 HW3
      have HSS := Lib.hid hss
      clear hc0 hx0 hW1 hW2 hW3 hW4 hW5 hW6 hPl hM hB hK hss hsl hT hTb hstart
      go_wp2_with fail
      go_loopw [7, 8, 9] (fun q i s0 wr => ∃ (j : Nat) (out ds : List Int) (cy : Int), j ≤ m + 1 ∧ q = .int .i64 cy ∧ i = .int .i64 j ∧ 0 ≤ cy ∧ cy ≤ 65535 ∧ Hid (out.length = j) ∧ Hid (AllLimbs out) ∧ Hid (ap out (cy + rest ss (fun i => ys.getD i 0) x j) = T) ∧ Hid (Upd P k out ds) ∧ Hid (Blk wr w.heap.size ds) ∧ Hid (Kept [] w wr)) (fun _ i _ _ => m + 2 - (intOf i).toNat)
      case atStart => exact ⟨0, [], P, 0, by omega, rfl, rfl, by omega, by omega, rfl, fun i hi => by simp at hi, by show ap _ _ = T; rw [HST.out]; simp [ap], Upd.refl _ _, HPB.out, HK0.out⟩
      case round =>
        obtain ⟨j, out, ds, cy, hj, rfl, rfl, hc1, hc2, hOL, hO, hAp, hU, hB, hK⟩ := hrel
        have hend : j = m + 1 → cy = 0 := fun e => by
          have h1 := hAp.out
          have h2 := rest_end ss (fun i => ys.getD i 0) x
          rw [HSL.out] at h2
          rw [e, h2, Int.add_zero] at h1
          exact (no_carryP hO.out (by rw [hOL.out, e]) HTB.out h1).1
        have hgo : (j < m) ∨ (¬ j < m ∧ 0 < cy) ∨ (¬ j < m ∧ ¬ 0 < cy) := by omega
        rcases hgo with h1 | ⟨h1, h2⟩ | ⟨h1, h2⟩
        · have hd1 : decide ((j : Int) < (m : Int)) = true := decide_eq_true (by omega)
          have hjm : j < m + 1 := by omega
          have hsk := HW2.out j (by rw [HSL.out]; exact hjm)
          have hyk := getD_limb hyl.out j
          have hstep := rest_step ss (fun i => ys.getD i 0) x j (by rw [HSL.out]; exact hjm)
          have hcell0 := hB.out.cell (j := k + j) (by rw [hU.out.len, HPl.out]; omega)
          have hval : ds.getD (k + j) 0 = ss.getD j 0 := by
            rw [hU.out.old (k + j) (Or.inr (by rw [hOL.out]; exact Nat.le_refl _)), HW3.out j hjm]
          rw [hval] at hcell0
          have hcx := hK.out.cell HC0.out (by simp)
          have HRD := Lib.hid (HR'.out.kept0 hK.out)
          obtain ⟨s, hs⟩ : ∃ s, s = ss.getD j 0 := ⟨_, rfl⟩
          obtain ⟨y, hy⟩ : ∃ y, y = ys.getD j 0 := ⟨_, rfl⟩
          simp only [← hs, ← hy] at hsk hyk hstep hcell0
          have HY := Lib.hid hy.symm
          obtain ⟨p, hp⟩ : ∃ p, p = x * y := ⟨_, rfl⟩
          have hp1 : 0 ≤ p := by rw [hp]; exact Int.mul_nonneg hx1 hyk.1
          have hp2 : p ≤ 4294836225 := by
            have h8 : x * y ≤ 65535 * y := Int.mul_le_mul_of_nonneg_right hx2 hyk.1
            omega
          rw [← hp] at hstep
          obtain ⟨u, hu⟩ : ∃ u, u = s + p + cy := ⟨_, rfl⟩
          obtain ⟨hs1, hs2⟩ := hsk
          obtain ⟨hy1, hy2⟩ := hyk
          have hu1 : 0 ≤ u := by omega
          have hu2 : u ≤ 4294967295 := by omega
          have hO2 : Hid (AllLimbs (out ++ [u % 65536])) := hO.out.snoc (by omega)
          have hAp2 : Hid (ap (out ++ [u % 65536]) (u / 65536 + rest ss (fun i => ys.getD i 0) x (j + 1)) = T) := by
            show ap _ _ = T
            rw [ap_snoc, ← hAp.out, hstep]
            congr 1
            omega
          have hU2 : Hid (Upd P k (out ++ [u % 65536]) (ds.set (k + j) (u % 65536))) := by
            have := hU.out.snoc (u % 65536) (by rw [hOL.out, HPl.out]; omega)
            rw [hOL.out] at this; exact this
          have hOL2 : Hid ((out ++ [u % 65536]).length = j + 1) := by show _ = _; rw [List.length_append, hOL.out]; rfl
          have hB2 : Hid (Blk (wr.setCell ⟨w.heap.size, k + j, none⟩ (.int .i64 (u % 65536))) w.heap.size (ds.set (k + j) (u % 65536))) := hB.out.set _ _
          have hf2 := Lib.hid (hB.out.frozen (k + j))
          have HKc := Lib.hid hK.out
          have e0 : IntKind.i64.wrap ((k : Int) + (j : Int)) = (k : Int) + (j : Int) := IntWalk.i64_in _ (by omega)
          have e1 : IntKind.i64.wrap (x * y) = p := by rw [← hp]; exact IntWalk.i64_in _ (by omega)
          have e2 : IntKind.i64.wrap (s + p) = s + p := IntWalk.i64_in _ (by omega)
          have e3 : IntKind.i64.wrap (s + p + cy) = u := by rw [← hu]; exact IntWalk.i64_in _ (by omega)
          have en : ((k : Int) + (j : Int)).toNat = k + j := by omega
          have el : (k : Int) + (j : Int) < (n : Int) + (m : Int) := by omega
          have eg : (0 : Int) ≤ (k : Int) + (j : Int) := by omega
          clear hend hs hy hstep hval hU hO hAp hB hK hu hp hOL
          go_wp2_with fail
          go_quiet ((go_at_call 97; exact Calls.quiet_of_same (l1At_quiet _ _ _ ys j y _ (HRD.out.kept0 ((Kept.refl [] wr).drewN _)) (by omega) HY.out)))
          clear e1 e2 e3
          have hfz : wr.frozen? ⟨w.heap.size, k + j, none⟩ = false := hf2.out
          go_wp2
          go_roundw
          case rel => exact ⟨j + 1, _, _, u / 65536, by omega, rfl, by go_num, by omega, by omega, hOL2, hO2, hAp2, hU2, hB2, (HKc.out.drewN nq).setCell _ _ (by simp)⟩
          case measure => simp [intOf]; omega
        · have hd1 : decide ((j : Int) < (m : Int)) = false := decide_eq_false (by omega)
          have hd2 : decide (0 < cy) = true := decide_eq_true h2
          have hjm : j < m + 1 := by omega
          have hsk := HW2.out j (by rw [HSL.out]; exact hjm)
          have hyk := getD_limb hyl.out j
          have hstep := rest_step ss (fun i => ys.getD i 0) x j (by rw [HSL.out]; exact hjm)
          have hcell0 := hB.out.cell (j := k + j) (by rw [hU.out.len, HPl.out]; omega)
          have hval : ds.getD (k + j) 0 = ss.getD j 0 := by
            rw [hU.out.old (k + j) (Or.inr (by rw [hOL.out]; exact Nat.le_refl _)), HW3.out j hjm]
          rw [hval] at hcell0
          have hcx := hK.out.cell HC0.out (by simp)
          have HRD := Lib.hid (HR'.out.kept0 hK.out)
          obtain ⟨s, hs⟩ : ∃ s, s = ss.getD j 0 := ⟨_, rfl⟩
          obtain ⟨y, hy⟩ : ∃ y, y = ys.getD j 0 := ⟨_, rfl⟩
          simp only [← hs, ← hy] at hsk hyk hstep hcell0
          have HY := Lib.hid hy.symm
          obtain ⟨p, hp⟩ : ∃ p, p = x * y := ⟨_, rfl⟩
          have hp1 : 0 ≤ p := by rw [hp]; exact Int.mul_nonneg hx1 hyk.1
          have hp2 : p ≤ 4294836225 := by
            have h8 : x * y ≤ 65535 * y := Int.mul_le_mul_of_nonneg_right hx2 hyk.1
            omega
          rw [← hp] at hstep
          obtain ⟨u, hu⟩ : ∃ u, u = s + p + cy := ⟨_, rfl⟩
          obtain ⟨hs1, hs2⟩ := hsk
          obtain ⟨hy1, hy2⟩ := hyk
          have hu1 : 0 ≤ u := by omega
          have hu2 : u ≤ 4294967295 := by omega
          have hO2 : Hid (AllLimbs (out ++ [u % 65536])) := hO.out.snoc (by omega)
          have hAp2 : Hid (ap (out ++ [u % 65536]) (u / 65536 + rest ss (fun i => ys.getD i 0) x (j + 1)) = T) := by
            show ap _ _ = T
            rw [ap_snoc, ← hAp.out, hstep]
            congr 1
            omega
          have hU2 : Hid (Upd P k (out ++ [u % 65536]) (ds.set (k + j) (u % 65536))) := by
            have := hU.out.snoc (u % 65536) (by rw [hOL.out, HPl.out]; omega)
            rw [hOL.out] at this; exact this
          have hOL2 : Hid ((out ++ [u % 65536]).length = j + 1) := by show _ = _; rw [List.length_append, hOL.out]; rfl
          have hB2 : Hid (Blk (wr.setCell ⟨w.heap.size, k + j, none⟩ (.int .i64 (u % 65536))) w.heap.size (ds.set (k + j) (u % 65536))) := hB.out.set _ _
          have hf2 := Lib.hid (hB.out.frozen (k + j))
          have HKc := Lib.hid hK.out
          have e0 : IntKind.i64.wrap ((k : Int) + (j : Int)) = (k : Int) + (j : Int) := IntWalk.i64_in _ (by omega)
          have e1 : IntKind.i64.wrap (x * y) = p := by rw [← hp]; exact IntWalk.i64_in _ (by omega)
          have e2 : IntKind.i64.wrap (s + p) = s + p := IntWalk.i64_in _ (by omega)
          have e3 : IntKind.i64.wrap (s + p + cy) = u := by rw [← hu]; exact IntWalk.i64_in _ (by omega)
          have en : ((k : Int) + (j : Int)).toNat = k + j := by omega
          have el : (k : Int) + (j : Int) < (n : Int) + (m : Int) := by omega
          have eg : (0 : Int) ≤ (k : Int) + (j : Int) := by omega
          clear hend hs hy hstep hval hU hO hAp hB hK hu hp hOL
          go_wp2_with fail
          go_quiet ((go_at_call 97; exact Calls.quiet_of_same (l1At_quiet _ _ _ ys j y _ (HRD.out.kept0 ((Kept.refl [] wr).drewN _)) (by omega) HY.out)))
          clear e1 e2 e3
          have hfz : wr.frozen? ⟨w.heap.size, k + j, none⟩ = false := hf2.out
          go_wp2
          go_roundw
          case rel => exact ⟨j + 1, _, _, u / 65536, by omega, rfl, by go_num, by omega, by omega, hOL2, hO2, hAp2, hU2, hB2, (HKc.out.drewN nq).setCell _ _ (by simp)⟩
          case measure => simp [intOf]; omega
        · have hd1 : decide ((j : Int) < (m : Int)) = false := decide_eq_false (by omega)
          have hd2 : decide (0 < cy) = false := decide_eq_false h2
          obtain rfl : cy = 0 := by omega
          have hM2 : Hid (MulAt xs ys (k + 1) ds) := by
            show MulAt xs ys (k + 1) ds
            have h3 := hAp.out
            by_cases e : j = m + 1
            · subst e
              have h4 := rest_end ss (fun i => ys.getD i 0) x
              rw [HSL.out] at h4
              rw [h4, Int.add_zero, ap_zero] at h3
              exact HW6.out x out ds hx1 hx2 hyl.out HX.out hO.out hOL.out (by rw [h3, HTE.out]) hU.out
            · obtain rfl : j = m := by omega
              have h5 := rest_step ss (fun i => ys.getD i 0) x j (by rw [HSL.out]; omega)
              have h6 := rest_end ss (fun i => ys.getD i 0) x
              rw [HSL.out] at h6
              have h7 : ss.getD j 0 = 0 := by rw [HSS.out, ← HW1.out]; simp [List.getD_eq_getElem?_getD]
              have h8 : ys.getD j 0 = 0 := getD_past (Nat.le_of_eq HL'.out)
              rw [h6, h7] at h5
              simp only [h8] at h5
              rw [show rest ss (fun i => ys.getD i 0) x j = 0 by rw [h5]; simp, Int.add_zero, ap_zero] at h3
              have h9 : val (out ++ [0]) = val W + x * val ys := by rw [show out ++ [0] = out ++ List.replicate 1 0 from rfl, val_pad, h3, HTE.out]
              refine HW6.out x (out ++ [0]) ds hx1 hx2 hyl.out HX.out (hO.out.snoc (by omega)) (by rw [List.length_append, hOL.out]; rfl) h9 (hU.out.pad (by rw [hOL.out, HPl.out]; omega) ?_)
              rw [hOL.out, HW3.out j (by omega), h7]
          have HB := Lib.hid hB.out
          have HK := Lib.hid hK.out
          clear hend hO hOL hAp hU hB hK
          go_wp2
          go_roundw
          case rel => exact ⟨k + 1, ds, by omega, by go_num, hM2, HB.out, HK.out⟩
          case measure => simp [intOf]; omega
    · obtain rfl : k = n := by omega
      have hPl := hM.out.length (by rw [HL.out]; exact hk)
      rw [HL.out, HL'.out] at hPl
      have hv : val P = val xs * val ys := by have := hM.out; rw [← HL.out] at this; exact this.done
      have hsl : Sl wo (some ⟨w.heap.size, 0, none⟩) (k + m) (k + m) P := by
        have := Sl.ofBlk hB.out (by omega); rw [hPl] at this; exact this
      have HSL := Lib.hid hsl
      have HV := Lib.hid hv
      have HLM := Lib.hid hM.out.limbs
      have HK3 := Lib.hid hK.out
      have hszr : w.heap.size ≤ wo.heap.size := hK.out.size
      clear hPl hv hsl hM hB hK
      go_wp2_with fail
      refine (l1Trim_any _ _ _ _ _ HSL.out HLM.out (by omega)).mono ?_
      rintro e w2 ⟨v, rfl, hO3, hq⟩
      rw [HV.out] at hO3
      have HO3 := Lib.hid (hO3.mono hszr)
      have HQ := Lib.hid (HK3.out.trans0 hq)
      clear hO3 hq
      go_wp2_with fail
      go_ret
      exact ⟨v, rfl, HO3.out, HQ.out⟩

set_option maxHeartbeats 1000000 in
theorem sMulNats_any (a b : Option Addr) (n c m c' : Nat) (xs ys : List Int) (w : World) (h : Rd w a n xs) (h' : Rd w b m ys) :
    Calls Try.prog 26 #[.slice a n c, .slice b m c'] w (NatR w (if fault2 xs ys = 0 then fitCode (val xs * val ys) else fault2 xs ys) (if fault2 xs ys = 0 then fitList (val xs * val ys) else [])) := by
  have k0 : Kept [] w (w.alloc (.cells #[.int .i64 0, .slice none 0 0] 24)) := (Kept.refl [] w).alloc _
  have HK0 := Lib.hid k0
  have HR := Lib.hid h
  have HR' := Lib.hid h'
  have HL := Lib.hid h.1
  have HL' := Lib.hid h'.1
  clear h h' k0
  by_cases hz : fault2 xs ys = 0
  · have hz' := Lib.hid hz
    have hx := Lib.hid (natFault_zero (fault2_zero hz).1)
    have hy := Lib.hid (natFault_zero (fault2_zero hz).2)
    have hn40 : n ≤ 40 := by have := hx.out.len; rw [HL.out] at this; exact this
    have hm40 : m ≤ 40 := by have := hy.out.len; rw [HL'.out] at this; exact this
    rw [if_pos hz, if_pos hz]
    clear hz
    go_enter Try.func26, Try.ntmps26
    go_wp2_with fail
    refine (l1Two_any _ _ _ _ _ _ _ _ _ (HR.out.kept0 HK0.out) (HR'.out.kept0 HK0.out)).mono ?_
    rintro e w1 ⟨rfl, hq⟩
    rw [hz'.out]
    have HQ := Lib.hid (HK0.out.trans0 hq)
    have HQ1 := Lib.hid hq
    clear hq
    go_wp2_with fail
    refine (l1Mul_any _ _ _ _ _ _ _ _ _ (HR.out.kept0 HQ.out) (HR'.out.kept0 HQ.out) hx.out.limb hy.out.limb (by omega) (by omega)).mono ?_
    rintro e w2 ⟨v, rfl, hO, hk2⟩
    obtain ⟨a2, c2, rfl, hS2, hF2⟩ := hO.sl
    have HS2 := Lib.hid hS2
    have HF2 := Lib.hid hF2
    have HK2 := Lib.hid (HQ1.out.trans0 hk2)
    have hsz1 : w.heap.size + 1 ≤ w1.heap.size := by have := HQ1.out.size; simpa using this
    clear hO hk2 hS2 hF2
    go_wp2_with fail
    refine (l1Whole_any _ _ _ _ HS2.out).mono ?_
    rintro e w4 ⟨b4, c4, rfl, hs4, hb4, hk4⟩
    have hk4' := HK2.out.trans0 hk4
    obtain ⟨hc0, hc1, hf0, hf1, hsz⟩ := resCells hk4' (by simp)
    obtain ⟨ea, eb, ec⟩ := cells2 (.int .i64 (fitCode (val xs * val ys))) (.slice b4 (fitList (val xs * val ys)).length c4) hc0 hc1
    have hF : Fr (w.heap.size + 1) b4 (fitList (val xs * val ys)).length := fun hn x hx => by
      rw [hb4 hn] at hx
      have hfl : fitList (val xs * val ys) = digits (val xs * val ys) := by
        unfold fitList at hn ⊢
        split at hn
        · simp at hn
        · rw [if_neg (by assumption)]
      rw [hfl] at hn
      have := HF2.out hn x hx
      omega
    have HF := Lib.hid hF
    have HS4 := Lib.hid hs4
    have HK4 := Lib.hid hk4'
    clear hF hs4 hb4 hk4 hk4'
    go_wp2_with fail
    exact bodyPost_ret (v := .agg #[.int .i64 (fitCode (val xs * val ys)), .slice b4 (fitList (val xs * val ys)).length c4]) (by simp [results, Try.results26, go_sem, eb, ec]) rfl (natR_fin _ HK4.out HS4.out HF.out)
  · rw [if_neg hz, if_neg hz]
    go_enter Try.func26, Try.ntmps26
    go_wp2_with fail
    refine (l1Two_any _ _ _ _ _ _ _ _ _ (HR.out.kept0 HK0.out) (HR'.out.kept0 HK0.out)).mono ?_
    rintro e w1 ⟨rfl, hq⟩
    generalize hf : fault2 xs ys = f at *
    have hne : (f == 0) = false := by rw [beq_eq_false_iff_ne]; exact hz
    obtain ⟨hc0, hc1, hf0, hf1, hsz⟩ := resCells hq (by simp)
    obtain ⟨ea, eb, ec⟩ := cells2 (.int .i64 f) (.slice none 0 0) hc0 hc1
    have HQ := Lib.hid hq
    have HF := Lib.hid hf
    clear hf hz hq
    go_wp2_with fail
    exact bodyPost_ret (v := .agg #[.int .i64 f, .slice none 0 0]) (by simp [results, Try.results26, go_sem, eb, ec]) rfl (natR_fin (xs := []) f HQ.out (Sl.nil _) (fun h => by simp at h))


end Go.Proofs.Ytgplghjameiciaa
