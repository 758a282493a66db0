/-
  Contract of the model's NatText. Condition: the slice reads as a list of numbers.
-/
import Derived.Test.YteghldihmkinfaaTextV
namespace Go.Proofs.Yteghldihmkinfaa
open Go.RowKit

set_option maxHeartbeats 1000000 in
theorem sNatText_any (a : Option Addr) (n c : Nat) (xs : List Int) (w : World) (h : Rd w a n xs) :
    Calls Try.prog 10 #[.slice a n c] w (Ans w (.agg #[.int .i64 (natFault xs), .string (textVal xs)])) := by
  have k0 : Kept [] w (w.alloc (.cells #[.int .i64 0, .string ⟨#[]⟩] 24)) := (Kept.refl [] w).alloc _
  have HK0 := Lib.hid k0
  have HR := Lib.hid h
  have HL := Lib.hid h.1
  clear h k0
  by_cases hz : natFault xs = 0
  · have hz' := Lib.hid hz
    have hx := Lib.hid (natFault_zero hz)
    have hn : Hid (n ≤ 1000) := by show _ ≤ _; have h1 := hx.out.1; have h2 := HL.out; omega
    have e2 : textVal xs = strOfNums (decText (val xs)) := by unfold textVal; rw [if_pos hz]
    rw [hz, e2]
    obtain ⟨T, hT⟩ : ∃ T, T = strOfNums (decText (val xs)) := ⟨_, rfl⟩
    rw [← hT]
    have HT := Lib.hid hT
    clear e2 hz hT
    go_enter Try.func10, Try.ntmps10
    go_wp2_with fail
    refine (sNatFault_any _ _ _ _ _ (HR.out.kept0 HK0.out)).mono ?_
    rintro e w1 ⟨rfl, hq⟩
    rw [hz'.out]
    have HQ := Lib.hid (HK0.out.trans0 hq)
    have HQ1 := Lib.hid hq
    clear hq
    go_wp2_with fail
    refine (l1Text_any _ _ _ _ _ (HR.out.kept0 HQ.out) hx.out.canon hn.out).mono ?_
    rintro e w2 ⟨rfl, hq⟩
    rw [← HT.out]
    have HQ2 := Lib.hid (HQ1.out.trans0 hq)
    obtain ⟨hc0, hc1, hf0, hf1, hsz⟩ := resCellsT HQ2.out (by simp)
    obtain ⟨ea, eb, ec⟩ := cells2 (.int .i64 0) (.string T) hc0 hc1
    clear hq
    go_wp2_with fail
    exact bodyPost_ret (v := .agg #[.int .i64 0, .string T]) (by simp [results, Try.results10, go_sem, eb, ec]) rfl (textR_fin _ _ HQ2.out)
  · have e2 : textVal xs = ⟨#[]⟩ := if_neg hz
    rw [e2]
    clear e2
    go_enter Try.func10, Try.ntmps10
    go_wp2_with fail
    refine (sNatFault_any _ _ _ _ _ (HR.out.kept0 HK0.out)).mono ?_
    rintro e w1 ⟨rfl, hq⟩
    generalize hf : natFault xs = f at *
    have hne : (f == 0) = false := by rw [beq_eq_false_iff_ne]; exact hz
    obtain ⟨hc0, hc1, hf0, hf1, hsz⟩ := resCellsT hq (by simp)
    obtain ⟨ea, eb, ec⟩ := cells2 (.int .i64 f) (.string ⟨#[]⟩) hc0 hc1
    have HQ := Lib.hid hq
    have HF := Lib.hid hf
    clear hf hz hq
    go_wp2_with fail
    exact bodyPost_ret (v := .agg #[.int .i64 f, .string ⟨#[]⟩]) (by simp [results, Try.results10, go_sem, eb, ec]) rfl (textR_fin _ _ HQ.out)

end Go.Proofs.Yteghldihmkinfaa
