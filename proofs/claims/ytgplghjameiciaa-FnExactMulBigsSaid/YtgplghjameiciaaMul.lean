/-
  Contract of MulNats, the program's. Condition: the slices read as lists of numbers.
-/
import Derived.Test.YtgplghjameiciaaSSub
import Derived.Test.YtgplghjameiciaaJ1
namespace Go.Proofs.Ytgplghjameiciaa
open Go.RowKit

set_option maxHeartbeats 1000000 in
set_option maxRecDepth 100000 in
theorem MulNats_any (a b : Option Addr) (n c m c' : Nat) (xs ys : List Int) (w : World) (h : Rd w a n xs) (h' : Rd w b m ys) :
    Calls Try.prog 27 #[.slice a n c, .slice b m c'] w (NatR w (if fault2 xs ys = 0 then fitCode (val xs * val ys) else fault2 xs ys) (if fault2 xs ys = 0 then fitList (val xs * val ys) else [])) := by
  have k0 : Kept [] w (w.alloc (.cells #[.int .i64 0, .slice none 0 0] 24)) := (Kept.refl [] w).alloc _
  have HK0 := Lib.hid k0
  have HR := Lib.hid h
  have HR' := Lib.hid h'
  have HL := Lib.hid h.1
  have HL' := Lib.hid h'.1
  clear h h' k0
  by_cases hz : fault2 xs ys = 0
  · have hz' := Lib.hid hz
    have hx := Lib.hid (natFault_zero (fault2_zero hz).1)
    have hy := Lib.hid (natFault_zero (fault2_zero hz).2)
    have hn40 : n ≤ 40 := by have := hx.out.len; rw [HL.out] at this; exact this
    have hm40 : m ≤ 40 := by have := hy.out.len; rw [HL'.out] at this; exact this
    have hxl : Hid (AllLimbs xs) := hx.out.limb
    have hyl : Hid (AllLimbs ys) := hy.out.limb
    rw [if_pos hz, if_pos hz]
    clear hz
    obtain ⟨i0, hi, hz0, hz1, hz2⟩ := info_parts Try.info64
    have hmk := fun (w : World) => run_make_row (P := Try.prog) 22 2 i0 (.int .i64 0) Try.underlying22 hi hz0 hz1 rfl .i64 .i64 (n + m) (by rw [hz2]; omega) (by omega) w
    have ec : ((n + m : Nat) : Int) = (n : Int) + (m : Int) := by omega
    rw [ec, made_zeros] at hmk
    clear ec hi hz0 hz1 hz2
    go_enter Try.func27, Try.ntmps27
    go_wp2_with fail
    refine (firstNatFault_at _ _ _ _ _ _ _ _ _ _ (by simp) (HR.out.kept0 HK0.out) (HR'.out.kept0 HK0.out)).mono ?_
    rintro e w1 ⟨rfl, hq⟩
    rw [hz'.out]
    have HQ := Lib.hid (HK0.out.trans0 hq)
    have HQ1 := Lib.hid hq
    have hsz1 : w.heap.size + 1 ≤ w1.heap.size := by have := hq.size; simpa using this
    clear hq
    go_wp2_with fail
    have HB1 := Lib.hid (Blk.new w1 (List.replicate (n + m) 0))
    clear hmk
    go_loopw [25] (fun i wr => ∃ (k : Nat) (P : List Int), k ≤ n ∧ i = .int .i64 k ∧ Hid (MulAt xs ys k P) ∧ Hid (Blk wr w1.heap.size P) ∧ Hid (Kept [] w1 wr)) (fun i _ => n - (intOf i).toNat)
    case atStart => exact ⟨0, _, Nat.zero_le _, rfl, by have := MulAt.start xs ys; rw [HL.out, HL'.out] at this; exact this, HB1.out, (Kept.refl [] w1).alloc _⟩
    case round =>
      obtain ⟨k, P, hk, rfl, hM, hB, hK⟩ := hrel
      by_cases hlt : k < n
      · obtain ⟨g, off, rfl, hc0⟩ := HR.out.2.2 k hlt
        have hc1 := HQ.out.cell hc0 (by simp)
        have hc := hK.out.cell hc1 (by simp)
        have hxk := hxl.out k (by rw [HL.out]; exact hlt)
        obtain ⟨x, hx0⟩ : ∃ x, x = xs.getD k 0 := ⟨_, rfl⟩
        rw [← hx0] at hc hxk
        obtain ⟨hx1, hx2⟩ := hxk
        obtain ⟨W, hW1, hW2, hW3, hW4, hW5, hW6⟩ := hM.out.window (by rw [HL.out]; exact hlt)
        have hPl := hM.out.length (by rw [HL.out]; exact hk)
        rw [HL.out, HL'.out] at hPl
        rw [HL'.out] at hW1 hW3 hW5 hW6
        have HPl := Lib.hid hPl
        have HW1 := Lib.hid hW1
        have HW2 := Lib.hid hW2
        have HW3 := Lib.hid hW3
        have HW45 := Lib.hid (And.intro hW4 hW5)
        have HW6 := Lib.hid hW6
        have HX := Lib.hid hx0
        have HB := Lib.hid hB.out
        have HK := Lib.hid hK.out
        have HRy := Lib.hid ((HR'.out.kept0 HQ.out).kept0 hK.out)
        clear hc0 hc1 hx0 hW1 hW2 hW3 hW4 hW5 hW6 hPl hM hB hK
        go_wp2_with fail
        rw [show k + m + 1 - k = m + 1 by omega]
        refine (addTimes_any w1.heap.size k (m + 1) (n + m - k) P (W ++ [0]) _ _ _ ys x _ HB.out (by rw [HPl.out]; omega) (by rw [List.length_append, HW1.out]; rfl) HW3.out HW2.out (by omega) (by omega) HRy.out hyl.out (by omega) (fun hp y hy => by obtain ⟨g9, off9, he, hc⟩ := (HR'.out.kept0 HQ.out).2.2 0 hp; rw [hy] at he; cases he; have := World.block_lt_of_cell? _ _ hc; simp at this ⊢; omega) (by omega)).mono ?_
        rintro e w3 ⟨out, ds, cy, rfl, ho1, ho2, ho3, ho4, ho5, ho6, _, _⟩
        have hT := mul_fits HW45.out (val_pw_le hyl.out (Nat.le_of_eq HL'.out)) (x := x) (by omega)
        have hv := no_carryP ho2 ho1 hT (by rw [ho3, show W ++ [0] = W ++ List.replicate 1 0 from rfl, val_pad])
        have hM2 : Hid (MulAt xs ys (k + 1) ds) := HW6.out x out ds hx1 hx2 hyl.out HX.out ho2 ho1 hv.2 ho4
        have HB3 := Lib.hid ho5
        have HK3 : Hid (Kept [] w1 w3) := HK.out.trans1 ho6 (fun h9 => by omega)
        clear ho1 ho2 ho3 ho4 ho5 ho6 hT hv
        go_wp2
        go_roundw
        case rel => exact ⟨k + 1, ds, by omega, by go_num, hM2, HB3.out, HK3⟩
        case measure => simp [intOf]; omega
      · obtain rfl : k = n := by omega
        have hPl := hM.out.length (by rw [HL.out]; exact hk)
        rw [HL.out, HL'.out] at hPl
        have hv : val P = val xs * val ys := by have := hM.out; rw [← HL.out] at this; exact this.done
        have hsl : Sl wr (some ⟨w1.heap.size, 0, none⟩) (k + m) (k + m) P := by
          have := Sl.ofBlk hB.out (by omega); rw [hPl] at this; exact this
        have HSL := Lib.hid hsl
        have HV := Lib.hid hv
        have HLM := Lib.hid hM.out.limbs
        have HK3 := Lib.hid (HQ1.out.trans0 hK.out)
        clear hPl hv hsl hM hB hK
        go_wp2_with fail
        refine (natResult_any _ _ _ _ _ HSL.out HLM.out).mono ?_
        rintro e w4 ⟨b4, c4, rfl, hs4, hb4, hk4⟩
        rw [HV.out] at hs4 hb4 ⊢
        have hk4' := HK3.out.trans0 hk4
        obtain ⟨hc0, hc1, hf0, hf1, hsz⟩ := resCells hk4' (by simp)
        obtain ⟨ea, eb, ec⟩ := cells2 (.int .i64 (fitCode (val xs * val ys))) (.slice b4 (fitList (val xs * val ys)).length c4) hc0 hc1
        have hF : Fr (w.heap.size + 1) b4 (fitList (val xs * val ys)).length := fun hn x hx => by
          rw [hb4 hn] at hx; cases hx; exact hsz1
        have HF := Lib.hid hF
        have HS4 := Lib.hid hs4
        have HK4 := Lib.hid hk4'
        clear hF hs4 hb4 hk4 hk4'
        go_wp2_with fail
        exact bodyPost_ret (v := .agg #[.int .i64 (fitCode (val xs * val ys)), .slice b4 (fitList (val xs * val ys)).length c4]) (by simp [results, Try.results27, go_sem, eb, ec]) rfl (natR_fin _ HK4.out HS4.out HF.out)
  · rw [if_neg hz, if_neg hz]
    go_enter Try.func27, Try.ntmps27
    go_wp2_with fail
    refine (firstNatFault_at _ _ _ _ _ _ _ _ _ _ (by simp) (HR.out.kept0 HK0.out) (HR'.out.kept0 HK0.out)).mono ?_
    rintro e w1 ⟨rfl, hq⟩
    generalize hf : fault2 xs ys = f at *
    have hne : (f == 0) = false := by rw [beq_eq_false_iff_ne]; exact hz
    obtain ⟨hc0, hc1, hf0, hf1, hsz⟩ := resCells hq (by simp)
    obtain ⟨ea, eb, ec⟩ := cells2 (.int .i64 f) (.slice none 0 0) hc0 hc1
    have HQ := Lib.hid hq
    have HF := Lib.hid hf
    clear hf hz hq
    go_wp2_with fail
    exact bodyPost_ret (v := .agg #[.int .i64 f, .slice none 0 0]) (by simp [results, Try.results27, go_sem, eb, ec]) rfl (natR_fin (xs := []) f HQ.out (Sl.nil _) (fun h => by simp at h))

end Go.Proofs.Ytgplghjameiciaa
