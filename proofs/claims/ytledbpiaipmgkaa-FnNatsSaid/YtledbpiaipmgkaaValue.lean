/-
  Contracts of NatValue, the program's and the model's, and of l1Value. Condition: the slice reads as a list of numbers.
-/
import Derived.Test.YtledbpiaipmgkaaSSub
import Derived.Test.YtledbpiaipmgkaaNatOf
import Derived.Test.YtledbpiaipmgkaaJ1
namespace Go.Proofs.Ytledbpiaipmgkaa
open Go.RowKit

/-- The greatest int64. -/
def maxI : Int := 9223372036854775807
def valCode (xs : List Int) : Int := if natFault xs = 0 then (if maxI < val xs then 7 else 0) else natFault xs
def valVal (xs : List Int) : Int := if natFault xs = 0 then (if maxI < val xs then 0 else val xs) else 0

theorem val_drop_le {xs : List Int} (h : AllLimbs xs) : ∀ k, 0 ≤ val (xs.drop k) ∧ val (xs.drop k) ≤ val xs
  | 0 => by have := h.val; simp; omega
  | k + 1 => by
    have h1 := val_drop_le h k
    have h2 := val_drop xs k
    have h3 := (h.drop (k + 1)).val
    have h4 := getD_limb h k
    omega

set_option maxHeartbeats 1000000 in
theorem l1Value_any (a : Option Addr) (n c : Nat) (xs : List Int) (w : World) (h : Rd w a n xs) (hl : AllLimbs xs) (hv : val xs ≤ maxI) :
    Calls Try.prog 63 #[.slice a n c] w (Ans w (.int .i64 (val xs))) := by
  have HR := Lib.hid h
  have HL := Lib.hid h.1
  have hmax := h.2.1
  have HLL := Lib.hid hl
  have HV := Lib.hid hv
  clear h hl hv
  go_enter Try.func63, Try.ntmps63
  go_wp2
  go_loopw [3, 4] (fun q i wr => ∃ k : Nat, k ≤ n ∧ i = .int .i64 ((k : Int) - 1) ∧ q = .int .i64 (val (xs.drop k)) ∧ Hid (Kept [] w wr)) (fun _ i _ => (intOf i + 1).toNat)
  case atStart => exact ⟨n, Nat.le_refl _, rfl, by rw [List.drop_of_length_le (Nat.le_of_eq HL.out)]; rfl, Kept.refl [] w⟩
  case round =>
    obtain ⟨k, hk, rfl, rfl, hK⟩ := hrel
    by_cases hlt : 0 < k
    · obtain ⟨g, off, rfl, hc0⟩ := HR.out.2.2 (k - 1) (by omega)
      have hc := hK.out.cell hc0 (by simp)
      have h0 : (0 : Int) ≤ (k : Int) - 1 := by omega
      have h1 : (1 : Int) ≤ (k : Int) := by omega
      have h2 : (k : Int) - 1 < (n : Int) := by omega
      have hst := val_drop xs (k - 1)
      rw [Nat.sub_add_cancel hlt] at hst
      have hb1 := val_drop_le HLL.out (k - 1)
      have hb2 := val_drop_le HLL.out k
      have hx := getD_limb HLL.out (k - 1)
      have hm := HV.out
      unfold maxI at hm
      obtain ⟨v', hv'⟩ : ∃ v', v' = val (xs.drop (k - 1)) := ⟨_, rfl⟩
      have HV' := Lib.hid hv'
      rw [← hv'] at hst hb1
      generalize hx0 : xs.getD (k - 1) 0 = x at *
      generalize hv0 : val (xs.drop k) = v at *
      have e1 : IntKind.i64.wrap (v * 65536) = v * 65536 := IntWalk.i64_in _ (by omega)
      have e2 : IntKind.i64.wrap (v * 65536 + x) = v' := by rw [show v * 65536 + x = v' by omega]; exact IntWalk.i64_in _ (by omega)
      have e3 : IntKind.i64.wrap ((k : Int) - 1 - 1) = (k : Int) - 1 - 1 := IntWalk.i64_in _ (by omega)
      clear hc0 hst hb1 hb2 hx hm hv' hx0 hv0
      go_wp2
      go_roundw
      case rel => exact ⟨k - 1, by omega, by congr 1; omega, by rw [HV'.out], hK⟩
      case measure => simp [intOf]; omega
    · obtain rfl : k = 0 := by omega
      go_wp2
      go_ret
      exact ⟨by simp, hK.out⟩

theorem resCellsI {w w1 : World} {L : List Nat} (hK : Kept L (w.alloc (.cells #[.int .i64 0, .int .i64 0] 36)) w1) (hL : w.heap.size ∉ L) :
    w1.cell? ⟨w.heap.size, 0, none⟩ = some (.int .i64 0) ∧ w1.cell? ⟨w.heap.size, 1, none⟩ = some (.int .i64 0) ∧ w1.frozen? ⟨w.heap.size, 0, none⟩ = false ∧ w1.frozen? ⟨w.heap.size, 1, none⟩ = false ∧ w.heap.size + 1 ≤ w1.heap.size :=
  ⟨hK.cell (p := ⟨w.heap.size, 0, none⟩) (by simp) hL, hK.cell (p := ⟨w.heap.size, 1, none⟩) (by simp) hL, hK.free (p := ⟨w.heap.size, 0, none⟩) (by simp) (by simp) hL, hK.free (p := ⟨w.heap.size, 1, none⟩) (by simp) (by simp) hL,
    by have := hK.size; simpa using this⟩
theorem intR_fin {w w1 : World} (u v : Int) (hK : Kept [] (w.alloc (.cells #[.int .i64 0, .int .i64 0] 36)) w1) :
    Ans w (.agg #[.int .i64 u, .int .i64 v]) (.returned (.agg #[.int .i64 u, .int .i64 v])) ((w1.setCell ⟨w.heap.size, 0, none⟩ (.int .i64 u)).setCell ⟨w.heap.size, 1, none⟩ (.int .i64 v)) :=
  ⟨rfl, ((((Kept.refl [] w).alloc _).trans0 hK).setCell _ _ (by simp)).setCell _ _ (by simp)⟩

set_option maxHeartbeats 1000000 in
theorem sNatValue_any (a : Option Addr) (n c : Nat) (xs : List Int) (w : World) (h : Rd w a n xs) :
    Calls Try.prog 22 #[.slice a n c] w (Ans w (.agg #[.int .i64 (valCode xs), .int .i64 (valVal xs)])) := by
  have k0 : Kept [] w (w.alloc (.cells #[.int .i64 0, .int .i64 0] 36)) := (Kept.refl [] w).alloc _
  have HK0 := Lib.hid k0
  have HR := Lib.hid h
  clear h k0
  by_cases hz : natFault xs = 0
  · have hz' := Lib.hid hz
    have hx := Lib.hid (natFault_zero hz)
    have hM40 : Hid (Nat40 (digits maxI)) := nat40_of_canon (canon_digits' _) (by have := digits_len 4 maxI (by unfold maxI; simp only [pw]; omega); omega)
    have hMv : Hid (val (digits maxI) = maxI) := val_digits' (by unfold maxI; omega)
    have hml : maxI ≤ 9223372036854775807 := by unfold maxI; omega
    by_cases hgt : maxI < val xs
    · have e1 : valCode xs = 7 := by unfold valCode; rw [if_pos hz, if_pos hgt]
      have e2 : valVal xs = 0 := by unfold valVal; rw [if_pos hz, if_pos hgt]
      rw [e1, e2]
      have hcmp : Hid (cmpV (val xs) (val (digits maxI)) = 1) := cmpV_gt (by rw [hMv.out]; exact hgt)
      clear e1 e2 hz hgt
      go_enter Try.func22, Try.ntmps22
      go_wp2_with fail
      refine (sNatFault_any _ _ _ _ _ (HR.out.kept0 HK0.out)).mono ?_
      rintro e w1 ⟨rfl, hq⟩
      rw [hz'.out]
      have HQ := Lib.hid (HK0.out.trans0 hq)
      have HQ1 := Lib.hid hq
      clear hq hml
      go_wp2_with fail
      refine (l1Nat_any maxI _ (by unfold maxI; omega)).mono ?_
      rintro e w2 ⟨v, rfl, hO, hq⟩
      obtain ⟨a2, c2, rfl, hS2, hF2⟩ := hO.sl
      have HS2 := Lib.hid hS2
      have HQ2 := Lib.hid (HQ.out.trans0 hq)
      have HQ12 := Lib.hid (HQ1.out.trans0 hq)
      clear hO hS2 hF2 hq
      go_wp2_with fail
      refine (l1Compare_any _ _ _ _ _ _ _ _ _ (HR.out.kept0 HQ2.out) HS2.out.rd hx.out hM40.out).mono ?_
      rintro e w3 ⟨rfl, hq⟩
      rw [hcmp.out]
      have HQ3 := Lib.hid (HQ12.out.trans0 hq)
      obtain ⟨hc0, hc1, hf0, hf1, hsz⟩ := resCellsI HQ3.out (by simp)
      obtain ⟨ea, eb, ec⟩ := cells2 (.int .i64 7) (.int .i64 0) hc0 hc1
      clear hq
      go_wp2_with fail
      exact bodyPost_ret (v := .agg #[.int .i64 7, .int .i64 0]) (by simp [results, Try.results22, go_sem, eb, ec]) rfl (intR_fin _ _ HQ3.out)
    · have e1 : valCode xs = 0 := by unfold valCode; rw [if_pos hz, if_neg hgt]
      have e2 : valVal xs = val xs := by unfold valVal; rw [if_pos hz, if_neg hgt]
      rw [e1, e2]
      obtain ⟨cv, hcv⟩ : ∃ cv, cv = cmpV (val xs) (val (digits maxI)) := ⟨_, rfl⟩
      have hcv0 : cv ≤ 0 := by rw [hcv, hMv.out]; unfold cmpV; split <;> (try split) <;> omega
      have hcd : decide (0 < cv) = false := decide_eq_false (by omega)
      have HCV := Lib.hid hcv
      have HLE := Lib.hid (Int.not_lt.1 hgt)
      clear e1 e2 hz hgt hcv
      go_enter Try.func22, Try.ntmps22
      go_wp2_with fail
      refine (sNatFault_any _ _ _ _ _ (HR.out.kept0 HK0.out)).mono ?_
      rintro e w1 ⟨rfl, hq⟩
      rw [hz'.out]
      have HQ := Lib.hid (HK0.out.trans0 hq)
      have HQ1 := Lib.hid hq
      clear hq hml
      go_wp2_with fail
      refine (l1Nat_any maxI _ (by unfold maxI; omega)).mono ?_
      rintro e w2 ⟨v, rfl, hO, hq⟩
      obtain ⟨a2, c2, rfl, hS2, hF2⟩ := hO.sl
      have HS2 := Lib.hid hS2
      have HQ2 := Lib.hid (HQ.out.trans0 hq)
      have HQ12 := Lib.hid (HQ1.out.trans0 hq)
      clear hO hS2 hF2 hq
      go_wp2_with fail
      refine (l1Compare_any _ _ _ _ _ _ _ _ _ (HR.out.kept0 HQ2.out) HS2.out.rd hx.out hM40.out).mono ?_
      rintro e w3 ⟨rfl, hq⟩
      rw [← HCV.out]
      have HQ3 := Lib.hid (HQ2.out.trans0 hq)
      have HQ13 := Lib.hid (HQ12.out.trans0 hq)
      clear hq
      go_wp2_with fail
      refine (l1Value_any _ _ _ _ _ (HR.out.kept0 HQ3.out) hx.out.limb HLE.out).mono ?_
      rintro e w4 ⟨rfl, hq⟩
      have HQ4 := Lib.hid (HQ13.out.trans0 hq)
      obtain ⟨hc0, hc1, hf0, hf1, hsz⟩ := resCellsI HQ4.out (by simp)
      obtain ⟨ea, eb, ec⟩ := cells2 (.int .i64 0) (.int .i64 (val xs)) hc0 hc1
      clear hq
      go_wp2_with fail
      exact bodyPost_ret (v := .agg #[.int .i64 0, .int .i64 (val xs)]) (by simp [results, Try.results22, go_sem, eb, ec]) rfl (intR_fin _ _ HQ4.out)
  · have e1 : valCode xs = natFault xs := if_neg hz
    have e2 : valVal xs = 0 := if_neg hz
    rw [e1, e2]
    clear e1 e2
    go_enter Try.func22, Try.ntmps22
    go_wp2_with fail
    refine (sNatFault_any _ _ _ _ _ (HR.out.kept0 HK0.out)).mono ?_
    rintro e w1 ⟨rfl, hq⟩
    generalize hf : natFault xs = f at *
    have hne : (f == 0) = false := by rw [beq_eq_false_iff_ne]; exact hz
    obtain ⟨hc0, hc1, hf0, hf1, hsz⟩ := resCellsI hq (by simp)
    obtain ⟨ea, eb, ec⟩ := cells2 (.int .i64 f) (.int .i64 0) hc0 hc1
    have HQ := Lib.hid hq
    have HF := Lib.hid hf
    clear hf hz hq
    go_wp2_with fail
    exact bodyPost_ret (v := .agg #[.int .i64 f, .int .i64 0]) (by simp [results, Try.results22, go_sem, eb, ec]) rfl (intR_fin _ _ HQ.out)

set_option maxHeartbeats 1000000 in
theorem NatValue_any (a : Option Addr) (n c : Nat) (xs : List Int) (w : World) (h : Rd w a n xs) :
    Calls Try.prog 21 #[.slice a n c] w (Ans w (.agg #[.int .i64 (valCode xs), .int .i64 (valVal xs)])) := by
  have k0 : Kept [] w (w.alloc (.cells #[.int .i64 0, .int .i64 0] 36)) := (Kept.refl [] w).alloc _
  have HK0 := Lib.hid k0
  have HR := Lib.hid h
  have HL := Lib.hid h.1
  have hmax := h.2.1
  clear h k0
  by_cases hz : natFault xs = 0
  · have hz' := Lib.hid hz
    have hx := Lib.hid (natFault_zero hz)
    have hll : Hid (AllLimbs xs) := hx.out.limb
    obtain ⟨vc, hvc⟩ : ∃ vc, vc = valCode xs := ⟨_, rfl⟩
    obtain ⟨vv, hvv⟩ : ∃ vv, vv = valVal xs := ⟨_, rfl⟩
    rw [← hvc, ← hvv]
    have e1 : Hid (maxI < val xs → vc = 7 ∧ vv = 0) := fun hgt => by rw [hvc, hvv]; unfold valCode valVal; rw [if_pos hz, if_pos hz, if_pos hgt, if_pos hgt]; exact ⟨rfl, rfl⟩
    have e2 : Hid (¬ maxI < val xs → vc = 0 ∧ vv = val xs) := fun hgt => by rw [hvc, hvv]; unfold valCode valVal; rw [if_pos hz, if_pos hz, if_neg hgt, if_neg hgt]; exact ⟨rfl, rfl⟩
    clear hz hvc hvv
    go_enter Try.func21, Try.ntmps21
    go_wp2_with fail
    refine (NatFault_any _ _ _ _ _ (HR.out.kept0 HK0.out)).mono ?_
    rintro e w1 ⟨rfl, hq⟩
    rw [hz'.out]
    have HQ := Lib.hid (HK0.out.trans0 hq)
    have HQ1 := Lib.hid hq
    clear hq
    go_wp2_with fail
    go_loopw [4, 5] (fun q i wr => ∃ k : Nat, k ≤ n ∧ i = .int .i64 ((k : Int) - 1) ∧ q = .int .i64 (val (xs.drop k)) ∧ val (xs.drop k) ≤ 9223372036854775807 ∧ wr = w1) (fun _ i _ => (intOf i + 1).toNat)
    case atStart => exact ⟨n, Nat.le_refl _, rfl, by rw [List.drop_of_length_le (Nat.le_of_eq HL.out)]; rfl, by rw [List.drop_of_length_le (Nat.le_of_eq HL.out)]; simp [val], rfl⟩
    case round =>
      obtain ⟨k, hk, rfl, rfl, hvb, rfl⟩ := hrel
      by_cases hlt : 0 < k
      · obtain ⟨g, off, rfl, hc0⟩ := HR.out.2.2 (k - 1) (by omega)
        have hc := HQ.out.cell hc0 (by simp)
        have h0 : (0 : Int) ≤ (k : Int) - 1 := by omega
        have h1 : (1 : Int) ≤ (k : Int) := by omega
        have h2 : (k : Int) - 1 < (n : Int) := by omega
        have hst := val_drop xs (k - 1)
        rw [Nat.sub_add_cancel hlt] at hst
        have hb1 := val_drop_le hll.out (k - 1)
        have hb2 := val_drop_le hll.out k
        have hx := getD_limb hll.out (k - 1)
        obtain ⟨v', hv'⟩ : ∃ v', v' = val (xs.drop (k - 1)) := ⟨_, rfl⟩
        have HV' := Lib.hid hv'
        rw [← hv'] at hst hb1
        generalize hx0 : xs.getD (k - 1) 0 = x at *
        generalize hv0 : val (xs.drop k) = v at *
        obtain ⟨hx1, hx2⟩ := hx
        have hv1 := hb2.1
        have e0 : IntKind.i64.wrap (9223372036854775807 - x) = 9223372036854775807 - x := IntWalk.i64_in _ (by omega)
        by_cases hgt : (9223372036854775807 - x) / 65536 < v
        · have hbig : maxI < val xs := by unfold maxI; omega
          have e3 := Lib.hid (e1.out hbig)
          obtain ⟨hc0', hc1', hf0, hf1, hsz⟩ := resCellsI HQ1.out (by simp)
          obtain ⟨ea, eb, ec⟩ := cells2 (.int .i64 7) (.int .i64 0) hc0' hc1'
          clear hc0 hst hb1 hb2 hv' hx0 hv0 hbig
          go_wp2
          exact bodyPost_ret (v := .agg #[.int .i64 7, .int .i64 0]) (by simp [results, Try.results21, go_sem, eb, ec]) rfl (by rw [e3.out.1, e3.out.2]; exact intR_fin _ _ HQ1.out)
        · have hv2 : v' ≤ 9223372036854775807 := by omega
          have e4 : IntKind.i64.wrap (v * 65536) = v * 65536 := IntWalk.i64_in _ (by omega)
          have e5 : IntKind.i64.wrap (v * 65536 + x) = v' := by rw [show v * 65536 + x = v' by omega]; exact IntWalk.i64_in _ (by omega)
          have e6 : IntKind.i64.wrap ((k : Int) - 1 - 1) = (k : Int) - 1 - 1 := IntWalk.i64_in _ (by omega)
          have HB2 := Lib.hid hv2
          clear hc0 hst hb1 hb2 hv' hx0 hv0
          go_wp2
          go_roundw
          case rel => exact ⟨k - 1, by omega, by congr 1; omega, by rw [HV'.out], by rw [← HV'.out]; exact HB2.out, by trivial⟩
          case measure => simp [intOf]; omega
      · obtain rfl : k = 0 := by omega
        rw [List.drop_zero] at hvb ⊢
        have e3 := Lib.hid (e2.out (by unfold maxI; omega))
        obtain ⟨hc0', hc1', hf0, hf1, hsz⟩ := resCellsI HQ1.out (by simp)
        obtain ⟨ea, eb, ec⟩ := cells2 (.int .i64 0) (.int .i64 (val xs)) hc0' hc1'
        go_wp2
        exact bodyPost_ret (v := .agg #[.int .i64 0, .int .i64 (val xs)]) (by simp [results, Try.results21, go_sem, eb, ec]) rfl (by rw [e3.out.1, e3.out.2]; exact intR_fin _ _ HQ1.out)
  · have e1 : valCode xs = natFault xs := if_neg hz
    have e2 : valVal xs = 0 := if_neg hz
    rw [e1, e2]
    clear e1 e2
    go_enter Try.func21, Try.ntmps21
    go_wp2_with fail
    refine (NatFault_any _ _ _ _ _ (HR.out.kept0 HK0.out)).mono ?_
    rintro e w1 ⟨rfl, hq⟩
    generalize hf : natFault xs = f at *
    have hne : (f == 0) = false := by rw [beq_eq_false_iff_ne]; exact hz
    obtain ⟨hc0, hc1, hf0, hf1, hsz⟩ := resCellsI hq (by simp)
    obtain ⟨ea, eb, ec⟩ := cells2 (.int .i64 f) (.int .i64 0) hc0 hc1
    have HQ := Lib.hid hq
    have HF := Lib.hid hf
    clear hf hz hq
    go_wp2_with fail
    exact bodyPost_ret (v := .agg #[.int .i64 f, .int .i64 0]) (by simp [results, Try.results21, go_sem, eb, ec]) rfl (intR_fin _ _ HQ.out)

end Go.Proofs.Ytledbpiaipmgkaa
