/-
  Contracts of slices.Clone at []int64 and of SubNats, the program's. Conditions: the slices read as lists of numbers.
-/
import Derived.Test.YtjndjjdffifgcaaSAdd
import Derived.Lib.SliceRun
namespace Go.Proofs.Ytjndjjdffifgcaa
open Go.RowKit

set_option maxHeartbeats 400000 in
theorem Clone_any (a : Option Addr) (n c : Nat) (xs : List Int) (w : World) (h : Sl w a n c xs) (hn : n ≤ 1000000) :
    Calls Try.prog 144 #[.slice a n c] w (SlR w xs) := by
  have hnil := fun (w : World) (n c : Nat) => Lib.run_eql_slice_nil (P := Try.prog) w 22 2 a n c 0 0 Try.underlying22
  have HR := Lib.hid h.rd
  have HS := Lib.hid h
  have HN := Lib.hid h.2.2.2.1
  have HL := Lib.hid h.1
  have hnc := h.2.1
  clear h
  cases a with
  | none =>
    have hc0 : c = 0 := HN.out rfl
    subst hc0
    obtain rfl : n = 0 := by omega
    have hx : Hid (xs = []) := List.eq_nil_of_length_eq_zero HL.out
    go_enter Try.func144, Try.ntmps144
    go_wp2
    go_ret
    exact ⟨_, rfl, by rw [hx.out]; exact Ow.nil _ _, Kept.refl _ _⟩
  | some ad =>
    go_enter Try.func144, Try.ntmps144
    go_wp2_with (at_builtin; refine appS rfl _ _ rfl w.heap.size _ [] rfl (Ow.empty _ w (Nat.le_refl _)) (some ad) n c xs rfl (HR.out.kept0 ((Kept.refl [] w).alloc _)) (by simp) (by simp; omega) (by simp) ?_)
    intro v' w1 hW hG
    have hW2 : Hid (Ow w.heap.size w1 v' xs) := hW
    have HK : Hid (Kept [] w w1) := kept_grown ((Kept.refl [] w).alloc _) (Ow.empty _ w (Nat.le_refl _)) hG (Nat.le_refl _)
    clear hW hG
    go_wp2
    go_ret
    exact ⟨_, rfl, hW2.out, HK.out⟩

set_option maxHeartbeats 400000 in
theorem addTimes_none (a : Option Addr) (c : Nat) (b : Option Addr) (m d : Nat) (t : Int) (w : World) :
    Calls Try.prog 135 #[.slice a 0 c, .slice b m d, .int .i64 t] w (Ans w (.int .i64 0)) := by
  go_enter Try.func135, Try.ntmps135
  go_wp2
  go_loop [7, 11] (fun q i => q = .int .i64 0 ∧ i = .int .i64 0) (fun _ _ => 0)
  case atStart => exact ⟨rfl, rfl⟩
  case round =>
    obtain ⟨rfl, rfl⟩ := hrel
    go_wp2
    go_ret
    exact ⟨rfl, Kept.refl _ _⟩

theorem val_nonneg {xs : List Int} (h : Nat40 xs) : 0 ≤ val xs := (canon_nonneg h.canon).1
theorem len_of_le {xs ys : List Int} (hx : Nat40 xs) (hy : Nat40 ys) (h : val ys ≤ val xs) : ys.length ≤ xs.length := by
  rcases Nat.lt_or_ge xs.length ys.length with h1 | h1
  · have := val_lt_len hx hy h1; omega
  · exact h1
theorem fit_small {v : Int} {n : Nat} (h : v < pw n) (hn : n ≤ 40) : fitCode v = 0 ∧ fitList v = digits v := by
  have := digits_len n v h
  unfold fitCode fitList
  rw [if_neg (by omega), if_neg (by omega)]; exact ⟨rfl, rfl⟩

/-- The code and the limbs of a difference. -/
def subCode (xs ys : List Int) : Int := if fault2 xs ys = 0 then (if val xs < val ys then 3 else 0) else fault2 xs ys
def subList (xs ys : List Int) : List Int := if fault2 xs ys = 0 then (if val xs < val ys then [] else digits (val xs - val ys)) else []

set_option maxHeartbeats 1000000 in
set_option maxRecDepth 100000 in
theorem SubNats_any (a b : Option Addr) (n c m c' : Nat) (xs ys : List Int) (w : World) (h : Sl w a n c xs) (h' : Rd w b m ys) :
    Calls Try.prog 126 #[.slice a n c, .slice b m c'] w (NatR w (subCode xs ys) (subList xs ys)) := by
  have k0 : Kept [] w (w.alloc (.cells #[.int .i64 0, .slice none 0 0] 92)) := (Kept.refl [] w).alloc _
  have HK0 := Lib.hid k0
  have HS := Lib.hid h
  have HR := Lib.hid h.rd
  have HR' := Lib.hid h'
  have HL := Lib.hid h.1
  have HL' := Lib.hid h'.1
  clear h h' k0
  by_cases hz : fault2 xs ys = 0
  · have hz' := Lib.hid hz
    have hx := Lib.hid (natFault_zero (fault2_zero hz).1)
    have hy := Lib.hid (natFault_zero (fault2_zero hz).2)
    have hn40 : n ≤ 40 := by have := hx.out.len; rw [HL.out] at this; exact this
    have hm40 : m ≤ 40 := by have := hy.out.len; rw [HL'.out] at this; exact this
    have hxl : Hid (AllLimbs xs) := hx.out.limb
    have hyl : Hid (AllLimbs ys) := hy.out.limb
    by_cases hlt : val xs < val ys
    · have hsc : subCode xs ys = 3 := by unfold subCode; rw [if_pos hz, if_pos hlt]
      have hsl : subList xs ys = [] := by unfold subList; rw [if_pos hz, if_pos hlt]
      rw [hsc, hsl]
      have hcmp : Hid (cmpV (val xs) (val ys) = -1) := cmpV_lt hlt
      clear hsc hsl hz hlt
      go_enter Try.func126, Try.ntmps126
      go_wp2_with fail
      refine (firstNatFault_at _ _ _ _ _ _ _ _ _ _ (by simp) (HR.out.kept0 HK0.out) (HR'.out.kept0 HK0.out)).mono ?_
      rintro e w1 ⟨rfl, hq⟩
      rw [hz'.out]
      have HQ := Lib.hid (HK0.out.trans0 hq)
      have HQ1 := Lib.hid hq
      clear hq
      go_wp2_with fail
      refine (CompareNats_any _ _ _ _ _ _ _ _ _ (HR.out.kept0 HQ.out) (HR'.out.kept0 HQ.out)).mono ?_
      rintro e w2 ⟨rfl, hq⟩
      rw [if_pos hz'.out]
      have HQ2 := Lib.hid (HQ.out.trans0 hq)
      have HQ12 := Lib.hid (HQ1.out.trans0 hq)
      clear hq
      rw [hcmp.out]
      obtain ⟨hc0, hc1, hf0, hf1, hsz⟩ := resCells HQ12.out (by simp)
      obtain ⟨ea, eb, ec⟩ := cells2 (.int .i64 3) (.slice none 0 0) hc0 hc1
      go_wp2_with fail
      exact bodyPost_ret (v := .agg #[.int .i64 3, .slice none 0 0]) (by simp [results, Try.results126, go_sem, eb, ec]) rfl (natR_fin (xs := []) 3 HQ12.out (Sl.nil _) (fun h => by simp at h))
    · have hsc : subCode xs ys = 0 := by unfold subCode; rw [if_pos hz, if_neg hlt]
      have hsl : subList xs ys = digits (val xs - val ys) := by unfold subList; rw [if_pos hz, if_neg hlt]
      rw [hsc, hsl]
      obtain ⟨cv, hcv⟩ : ∃ cv, cv = cmpV (val xs) (val ys) := ⟨_, rfl⟩
      have hcv0 : 0 ≤ cv := by rw [hcv]; unfold cmpV; rw [if_neg hlt]; split <;> omega
      have hcd : decide (cv < 0) = false := decide_eq_false (by omega)
      have hcv1 : cv ≤ 1 := by rw [hcv]; unfold cmpV; rw [if_neg hlt]; split <;> omega
      have hT : Hid (0 ≤ val xs - val ys ∧ val xs - val ys < pw n) := by
        have h1 := hxl.out.val
        have h2 := val_nonneg hy.out
        rw [HL.out] at h1
        show _ ∧ _
        omega
      have hmn : m ≤ n := by rw [← HL.out, ← HL'.out]; exact len_of_le hx.out hy.out (by omega)
      have hfit := Lib.hid (fit_small hT.out.2 hn40)
      have HCV := Lib.hid hcv
      clear hcv hlt hz hsc hsl
      go_enter Try.func126, Try.ntmps126
      go_wp2_with fail
      refine (firstNatFault_at _ _ _ _ _ _ _ _ _ _ (by simp) (HR.out.kept0 HK0.out) (HR'.out.kept0 HK0.out)).mono ?_
      rintro e w1 ⟨rfl, hq⟩
      rw [hz'.out]
      have HQ := Lib.hid (HK0.out.trans0 hq)
      have HQ1 := Lib.hid hq
      clear hq
      go_wp2_with fail
      refine (CompareNats_any _ _ _ _ _ _ _ _ _ (HR.out.kept0 HQ.out) (HR'.out.kept0 HQ.out)).mono ?_
      rintro e w2 ⟨rfl, hq⟩
      rw [if_pos hz'.out]
      have HQ2 := Lib.hid (HQ.out.trans0 hq)
      have HQ12 := Lib.hid (HQ1.out.trans0 hq)
      clear hq
      rw [← HCV.out]
      go_wp2_with fail
      refine (Clone_any _ _ _ _ _ (HS.out.kept0 HQ2.out) (by omega)).mono ?_
      rintro e w3 ⟨v, rfl, hO, hk3⟩
      obtain ⟨a3, c3, rfl, hS3, hF3⟩ := hO.sl
      rw [HL.out] at hS3 hF3 ⊢
      have HO := Lib.hid hO
      have HK3 := Lib.hid (HQ2.out.trans0 hk3)
      have HK13 := Lib.hid (HQ12.out.trans0 hk3)
      have hsz2 : w.heap.size + 1 ≤ w2.heap.size := by have := HQ12.out.size; simpa using this
      have HS3 := Lib.hid hS3
      have HF3 := Lib.hid hF3
      have hk3s := hk3.size
      clear hO hk3 hS3 hF3
      by_cases hn0 : n = 0
      · subst hn0
        obtain rfl : m = 0 := by omega
        have hx0 : xs = [] := List.eq_nil_of_length_eq_zero HL.out
        have hy0 : ys = [] := List.eq_nil_of_length_eq_zero HL'.out
        subst hx0 hy0
        go_wp2_with fail
        refine (addTimes_none _ _ _ _ _ _ _).mono ?_
        rintro e w4 ⟨rfl, hk4⟩
        have HS4 := Lib.hid (HS3.out.kept0 hk4)
        have HK4 := Lib.hid (HK13.out.trans0 hk4)
        clear hk4
        go_wp2_with fail
        refine (natResult_any _ _ _ _ _ HS4.out (fun i hi => by simp at hi)).mono ?_
        rintro e w5 ⟨b5, c5, rfl, hs5, hb5, hk5⟩
        have hk5' := HK4.out.trans0 hk5
        have e1 : fitCode (val ([] : List Int)) = 0 := rfl
        have e2 : fitList (val ([] : List Int)) = [] := rfl
        rw [e1, e2]
        obtain ⟨hc0, hc1, hf0, hf1, hsz⟩ := resCells hk5' (by simp)
        obtain ⟨ea, eb, ec⟩ := cells2 (.int .i64 0) (.slice b5 0 c5) hc0 hc1
        rw [e2] at hs5
        have HS5 := Lib.hid hs5
        have HK5 := Lib.hid hk5'
        clear hs5 hb5 hk5 hk5' e1 e2
        go_wp2_with fail
        refine bodyPost_ret (v := .agg #[.int .i64 0, .slice b5 0 c5]) (by simp [results, Try.results126, go_sem, eb, ec]) rfl ?_
        rw [show digits (val [] - val []) = [] from rfl]
        exact natR_fin (xs := []) 0 HK5.out HS5.out (fun h => by simp at h)
      · obtain ⟨g, rfl⟩ : ∃ g, a3 = some ⟨g, 0, none⟩ := by
          rcases HO.out.2 with ⟨h1, h2⟩ | ⟨g, cap, cur, h1, _⟩
          · rw [HL.out] at h2; omega
          · simp only [Value.slice.injEq] at h1; exact ⟨g, h1.1⟩
        have hb3 : Blk w3 g xs := by
          have := HO.out
          unfold Ow at this
          exact (blk_of_owns this).1
        have HB3 := Lib.hid hb3
        have hg2 : w2.heap.size ≤ g := HF3.out (by omega) _ rfl
        clear hb3
        go_wp2_with fail
        refine (addTimes_any g 0 n c3 xs xs _ _ _ ys (-1) _ HB3.out (by rw [HL.out]; omega) HL.out (fun i hi => by rw [Nat.zero_add]) hxl.out (by omega) (by omega) (HR'.out.kept0 HK3.out) hyl.out hmn (fun hp x hx => by obtain ⟨g9, off, he, hc⟩ := (HR'.out.kept0 HQ2.out).2.2 0 hp; rw [hx] at he; cases he; have := World.block_lt_of_cell? _ _ hc; simp at this ⊢; omega) (by omega)).mono ?_
        rintro e w4 ⟨out, ds, cy, rfl, ho1, ho2, ho3, ho4, ho5, ho6, _, _⟩
        have hds := ho4.whole (by rw [ho1, HL.out])
        subst hds
        have hsum := no_carryN ho2 ho1 hT.out (by rw [ho3]; omega)
        have HSUM := Lib.hid hsum.2
        have HO2 := Lib.hid ho2
        have HK4 := Lib.hid (HK13.out.trans1 ho6 (fun h9 => by simp at h9; omega))
        have hsl : Sl w4 (some ⟨g, 0, none⟩) n c3 ds := by
          have := Sl.ofBlkC (c := c3) ho5 (by rw [ho1]; exact HS3.out.2.1) HS3.out.2.2.1; rw [ho1] at this; exact this
        have HSL := Lib.hid hsl
        clear hsum ho1 ho2 ho3 ho4 ho5 ho6 hsl
        go_wp2_with fail
        refine (natResult_any _ _ _ _ _ HSL.out HO2.out).mono ?_
        rintro e w5 ⟨b4, c4, rfl, hs4, hb4, hk4⟩
        rw [HSUM.out, hfit.out.2] at hs4 hb4 ⊢
        rw [hfit.out.1]
        have hk4' := HK4.out.trans0 hk4
        obtain ⟨hc0, hc1, hf0, hf1, hsz⟩ := resCells hk4' (by simp)
        obtain ⟨ea, eb, ec⟩ := cells2 (.int .i64 0) (.slice b4 (digits (val xs - val ys)).length c4) hc0 hc1
        have hF : Fr (w.heap.size + 1) b4 (digits (val xs - val ys)).length := fun hn x hx => by
          rw [hb4 hn] at hx; cases hx; simp; omega
        have HF := Lib.hid hF
        have HS4 := Lib.hid hs4
        have HK5 := Lib.hid hk4'
        clear hF hs4 hb4 hk4 hk4'
        go_wp2_with fail
        exact bodyPost_ret (v := .agg #[.int .i64 0, .slice b4 (digits (val xs - val ys)).length c4]) (by simp [results, Try.results126, go_sem, eb, ec]) rfl (natR_fin _ HK5.out HS4.out HF.out)
  · have hsc : subCode xs ys = fault2 xs ys := if_neg hz
    have hsl : subList xs ys = [] := if_neg hz
    rw [hsc, hsl]
    clear hsc hsl
    go_enter Try.func126, Try.ntmps126
    go_wp2_with fail
    refine (firstNatFault_at _ _ _ _ _ _ _ _ _ _ (by simp) (HR.out.kept0 HK0.out) (HR'.out.kept0 HK0.out)).mono ?_
    rintro e w1 ⟨rfl, hq⟩
    generalize hf : fault2 xs ys = f at *
    have hne : (f == 0) = false := by rw [beq_eq_false_iff_ne]; exact hz
    obtain ⟨hc0, hc1, hf0, hf1, hsz⟩ := resCells hq (by simp)
    obtain ⟨ea, eb, ec⟩ := cells2 (.int .i64 f) (.slice none 0 0) hc0 hc1
    have HQ := Lib.hid hq
    have HF := Lib.hid hf
    clear hf hz hq
    go_wp2_with fail
    exact bodyPost_ret (v := .agg #[.int .i64 f, .slice none 0 0]) (by simp [results, Try.results126, go_sem, eb, ec]) rfl (natR_fin (xs := []) f HQ.out (Sl.nil _) (fun h => by simp at h))

end Go.Proofs.Ytjndjjdffifgcaa
