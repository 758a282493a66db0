/-
  Contracts of natResult and AddNats. Conditions: the slices read as lists of numbers.
-/
import Derived.Test.YtjndjjdffifgcaaAddT
import Derived.Test.YtjndjjdffifgcaaCopy
namespace Go.Proofs.Ytjndjjdffifgcaa
open Go.RowKit

/-- The code and the limbs of an answer: none where there are too many. -/
def fitCode (v : Int) : Int := if 40 < (digits v).length then 7 else 0
def fitList (v : Int) : List Int := if 40 < (digits v).length then [] else digits v

/-- What natResult answers: the limbs lie where they lay. -/
def FitR (w : World) (a : Option Addr) (v : Int) (e : Ending) (w' : World) : Prop :=
  ∃ b c, e = .returned (.agg #[.int .i64 (fitCode v), .slice b (fitList v).length c]) ∧ Sl w' b (fitList v).length c (fitList v) ∧ (0 < (fitList v).length → b = a) ∧ Kept [] w w'

theorem Sl.front {w : World} {a : Option Addr} {n c : Nat} {xs : List Int} (h : Sl w a n c xs) (k : Nat) (hk : k ≤ n) : Sl w a k c (xs.take k) := by
  obtain ⟨h1, h2, h3, h5, h4⟩ := h
  refine ⟨by rw [List.length_take]; omega, by omega, h3, h5, ?_⟩
  by_cases h0 : k = 0
  · exact Or.inl h0
  · rcases h4 with h4 | ⟨g, off, cs, ha, hb, hl, he⟩
    · omega
    · exact Or.inr ⟨g, off, cs, ha, hb, by omega, fun i hi => by
        rw [he i (by omega)]
        simp only [List.getD_eq_getElem?_getD, List.getElem?_take, hi, if_true]⟩

set_option maxHeartbeats 400000 in
theorem natResult_any (a : Option Addr) (n c : Nat) (xs : List Int) (w : World) (h : Sl w a n c xs) (hl : AllLimbs xs) :
    Calls Try.prog 136 #[.slice a n c] w (FitR w a (val xs)) := by
  have k0 : Kept [] w (w.alloc (.cells #[.int .i64 0, .slice none 0 0] 92)) := (Kept.refl [] w).alloc _
  have HS := Lib.hid (h.kept0 k0)
  have HS0 := Lib.hid h
  have HL := Lib.hid hl
  have hc := Lib.hid h.2.1
  have hcm := Lib.hid h.2.2.1
  clear h hl k0
  obtain ⟨L, hL⟩ : ∃ L, L = (digits (val xs)).length := ⟨_, rfl⟩
  have HLL := Lib.hid hL
  clear hL
  go_enter Try.func136, Try.ntmps136
  go_wp2_with fail
  refine (trimLimbs_any _ _ _ _ _ HS.out.rd hc.out hcm.out HL.out).mono ?_
  rintro e w1 ⟨rfl, ht, hle, rfl⟩
  rw [← HLL.out] at ht hle ⊢
  have HT := Lib.hid ht
  have HLE := Lib.hid hle
  clear ht hle
  by_cases h40 : 40 < L
  · have e1 : Hid (fitCode (val xs) = 7) := by show fitCode _ = _; unfold fitCode; rw [← HLL.out, if_pos h40]
    have e2 : Hid (fitList (val xs) = []) := by show fitList _ = _; unfold fitList; rw [← HLL.out, if_pos h40]
    go_wp2_with fail
    go_returns
    exact ⟨none, 0, by rw [e1.out, e2.out]; rfl, by rw [e2.out]; exact Sl.nil _, fun h => by rw [e2.out] at h; simp at h, (Kept.refl [] w).alloc _⟩
  · have e1 : Hid (fitCode (val xs) = 0) := by show fitCode _ = _; unfold fitCode; rw [← HLL.out, if_neg h40]
    have e2 : Hid (fitList (val xs) = digits (val xs)) := by show fitList _ = _; unfold fitList; rw [← HLL.out, if_neg h40]
    go_wp2_with fail
    go_returns
    refine ⟨a, c, by rw [e1.out, e2.out, ← HLL.out], ?_, fun _ => rfl, (Kept.refl [] w).alloc _⟩
    rw [e2.out, ← HLL.out, HT.out]
    exact (HS0.out.front L HLE.out).kept0 ((Kept.refl [] w).alloc _)

theorem allLimbs_replicate (n : Nat) : AllLimbs (List.replicate n 0) := fun i hi => by
  have : i < n := by simpa using hi
  simp [List.getD_eq_getElem?_getD, this]
theorem allLimbs_pad {xs : List Int} (h : AllLimbs xs) (n : Nat) : AllLimbs (xs ++ List.replicate n 0) := fun i hi => by
  by_cases e : i < xs.length
  · have := h i e
    simp only [List.getD_eq_getElem?_getD, List.getElem?_append_left e] at this ⊢; exact this
  · have h2 : i - xs.length < n := by simp at hi; omega
    simp only [List.getD_eq_getElem?_getD, List.getElem?_append_right (Nat.not_lt.1 e)]
    simp [h2]
theorem val_pad : ∀ (xs : List Int) (n : Nat), val (xs ++ List.replicate n 0) = val xs
  | [], 0 => rfl
  | [], n + 1 => by
    have := val_pad [] n
    simp only [List.nil_append, List.replicate_succ, val] at this ⊢
    omega
  | x :: xs, n => by simp only [List.cons_append, val]; rw [val_pad xs n]

/-- What fits so many limbs has nothing carried out of them. -/
theorem no_carryN {out : List Int} {cy T : Int} {n : Nat} (ho : AllLimbs out) (hl : out.length = n) (hT : 0 ≤ T ∧ T < pw n) (h : ap out cy = T) : cy = 0 ∧ val out = T := by
  have h1 := ho.val
  rw [ap_pw, hl] at h
  rw [hl] at h1
  have hp := pw_pos n
  generalize pw n = P at *
  have hc : cy = 0 := by
    rcases Int.lt_trichotomy cy 0 with hc | hc | hc
    · have : P * cy ≤ P * (-1) := Int.mul_le_mul_of_nonneg_left (by omega) (by omega)
      omega
    · exact hc
    · have : P * 1 ≤ P * cy := Int.mul_le_mul_of_nonneg_left (by omega) (by omega)
      omega
  subst hc
  simp at h; exact ⟨rfl, h⟩

/-- A sum of two numbers fits one limb more than either; nothing is carried out of it. -/
theorem no_carry {out : List Int} {cy A B : Int} {n : Nat} (ho : AllLimbs out) (hl : out.length = n + 1) (hA : 0 ≤ A ∧ A < pw n) (hB : 0 ≤ B ∧ B < pw n) (h : ap out cy = A + B) : val out = A + B := by
  have h1 := ho.val
  rw [ap_pw, hl] at h
  rw [hl] at h1
  simp only [pw] at h h1
  have hp := pw_pos n
  generalize pw n = P at *
  have hc : cy = 0 := by
    rcases Int.lt_trichotomy cy 0 with hc | hc | hc
    · have : 65536 * P * cy ≤ 65536 * P * (-1) := Int.mul_le_mul_of_nonneg_left (by omega) (by omega)
      omega
    · exact hc
    · have : 65536 * P * 1 ≤ 65536 * P * cy := Int.mul_le_mul_of_nonneg_left (by omega) (by omega)
      omega
  subst hc
  simp at h; exact h

theorem val_pw_le {xs : List Int} (h : AllLimbs xs) {n : Nat} (hn : xs.length ≤ n) : 0 ≤ val xs ∧ val xs < pw n := by
  have h1 := h.val
  have h2 := pw_mono xs.length n hn
  omega

set_option maxHeartbeats 1000000 in
set_option maxRecDepth 100000 in
theorem AddNats_any (a b : Option Addr) (n c m c' : Nat) (xs ys : List Int) (w : World) (h : Rd w a n xs) (h' : Rd w b m ys) :
    Calls Try.prog 125 #[.slice a n c, .slice b m c'] w (NatR w (if fault2 xs ys = 0 then fitCode (val xs + val ys) else fault2 xs ys) (if fault2 xs ys = 0 then fitList (val xs + val ys) else [])) := by
  have k0 : Kept [] w (w.alloc (.cells #[.int .i64 0, .slice none 0 0] 92)) := (Kept.refl [] w).alloc _
  have HK0 := Lib.hid k0
  have HR := Lib.hid h
  have HR' := Lib.hid h'
  have HL := Lib.hid h.1
  have HL' := Lib.hid h'.1
  clear h h' k0
  by_cases hz : fault2 xs ys = 0
  · have hz' := Lib.hid hz
    have hx := Lib.hid (natFault_zero (fault2_zero hz).1)
    have hy := Lib.hid (natFault_zero (fault2_zero hz).2)
    have hn40 : n ≤ 40 := by have := hx.out.len; rw [HL.out] at this; exact this
    have hm40 : m ≤ 40 := by have := hy.out.len; rw [HL'.out] at this; exact this
    have hxl : Hid (AllLimbs xs) := hx.out.limb
    have hyl : Hid (AllLimbs ys) := hy.out.limb
    rw [if_pos hz, if_pos hz]
    clear hz
    obtain ⟨i0, hi, hz0, hz1, hz2⟩ := info_parts Try.info64
    obtain ⟨t, ht⟩ : ∃ t, (n < m ∧ t = m) ∨ (¬ n < m ∧ t = n) := by
      by_cases e : n < m
      · exact ⟨m, Or.inl ⟨e, rfl⟩⟩
      · exact ⟨n, Or.inr ⟨e, rfl⟩⟩
    have hmk0 := fun (w : World) => run_make_row (P := Try.prog) 22 2 i0 (.int .i64 0) Try.underlying22 hi hz0 hz1 rfl .i64 .i64 (t + 1) (by rw [hz2]; omega) (by omega) w
    have ec : ((t + 1 : Nat) : Int) = (t : Int) + 1 := by omega
    rw [ec, made_zeros] at hmk0
    have hmk := hmk0
    have ht40 : t ≤ 40 := by omega
    clear ec hmk0 hi hz0 hz1 hz2
    rcases ht with ⟨hnm, rfl⟩ | ⟨hnm, rfl⟩
    all_goals
      go_enter Try.func125, Try.ntmps125
      go_wp2_with fail
      refine (firstNatFault_at _ _ _ _ _ _ _ _ _ _ (by simp) (HR.out.kept0 HK0.out) (HR'.out.kept0 HK0.out)).mono ?_
      rintro e w1 ⟨rfl, hq⟩
      rw [hz'.out]
      have HQ := Lib.hid (HK0.out.trans0 hq)
      have HQ1 := Lib.hid hq
      clear hq
      go_wp2_with (with_reducible refine copy1 rfl (.tmp 22) (.tmp 23) rfl w1.heap.size (t + 1) (t + 1) _ _ _ rfl rfl (List.replicate (t + 1) 0) xs ?_ ?_ ?_ ?_ ?_)
      · exact heap_alloc_new w1 _
      · exact (HR.out.kept0 HQ.out).kept0 ((Kept.refl [] w1).alloc _)
      · omega
      · simp
      intro w2 hb2 hk2
      have hxn : xs.length ≤ t := by rw [HL.out]; omega
      have hyn : ys.length ≤ t := by rw [HL'.out]; omega
      rw [over_zeros] at hb2
      have HB2 := Lib.hid hb2
      have HK2 := Lib.hid ((HQ.out.alloc (.cells (ints (List.replicate (t + 1) 0)) 2)).trans1 hk2 (fun h9 => by have := HQ.out.size; omega))
      have HK21 := Lib.hid ((HQ1.out.alloc (.cells (ints (List.replicate (t + 1) 0)) 2)).trans1 hk2 (fun h9 => by have := HQ1.out.size; omega))
      have hlen2 : Hid ((xs ++ List.replicate (t + 1 - xs.length) 0).length = t + 1) := by show _ = _; simp; omega
      have hlt1 := Lib.hid hb2.lt
      clear hb2 hk2 hmk
      go_wp2_with fail
      refine (addTimes_any w1.heap.size 0 (t + 1) (t + 1) _ _ _ _ _ _ 1 _ HB2.out (by rw [hlen2.out]; omega) hlen2.out (fun i hi => by rw [Nat.zero_add]) (allLimbs_pad hxl.out _) (by omega) (by omega) (HR'.out.kept0 HK2.out) hyl.out (by omega) (fun hp x hx => by obtain ⟨g, off, he, hc⟩ := (HR'.out.kept0 HQ.out).2.2 0 hp; rw [hx] at he; cases he; have := World.block_lt_of_cell? _ _ hc; simp at this ⊢; omega) (by omega)).mono ?_
      rintro e w3 ⟨out, ds, cy, rfl, ho1, ho2, ho3, ho4, ho5, ho6, _, _⟩
      have hds := ho4.whole (by rw [ho1, hlen2.out])
      subst hds
      have hsum : val ds = val xs + val ys := no_carry (n := t) ho2 ho1 (val_pw_le hxl.out hxn) (val_pw_le hyl.out hyn) (by rw [ho3, val_pad]; omega)
      have HSUM := Lib.hid hsum
      have HO1 := Lib.hid ho1
      have HO2 := Lib.hid ho2
      have HB3 := Lib.hid ho5
      have hsz1 : w.heap.size + 1 ≤ w1.heap.size := by have := HQ1.out.size; simpa using this
      have HK3 := Lib.hid (HK21.out.trans1 ho6 (fun h9 => by simp at h9; omega))
      have hsl : Sl w3 (some ⟨w1.heap.size, 0, none⟩) (t + 1) (t + 1) ds := by
        have := Sl.ofBlk ho5 (by omega); rw [ho1] at this; exact this
      have HSL := Lib.hid hsl
      clear hsum ho1 ho2 ho3 ho4 ho5 ho6 hsl
      go_wp2_with fail
      refine (natResult_any _ _ _ _ _ HSL.out HO2.out).mono ?_
      rintro e w4 ⟨b4, c4, rfl, hs4, hb4, hk4⟩
      rw [HSUM.out] at hs4 hb4 ⊢
      have hk4' := HK3.out.trans0 hk4
      obtain ⟨hc0, hc1, hf0, hf1, hsz⟩ := resCells hk4' (by simp)
      obtain ⟨ea, eb, ec⟩ := cells2 (.int .i64 (fitCode (val xs + val ys))) (.slice b4 (fitList (val xs + val ys)).length c4) hc0 hc1
      have hF : Fr (w.heap.size + 1) b4 (fitList (val xs + val ys)).length := fun hn x hx => by
        rw [hb4 hn] at hx; cases hx; exact hsz1
      have HF := Lib.hid hF
      have HS4 := Lib.hid hs4
      have HK4 := Lib.hid hk4'
      clear hF hs4 hb4 hk4 hk4'
      go_wp2_with fail
      exact bodyPost_ret (v := .agg #[.int .i64 (fitCode (val xs + val ys)), .slice b4 (fitList (val xs + val ys)).length c4]) (by simp [results, Try.results125, go_sem, eb, ec]) rfl (natR_fin _ HK4.out HS4.out HF.out)
  · rw [if_neg hz, if_neg hz]
    go_enter Try.func125, Try.ntmps125
    go_wp2_with fail
    refine (firstNatFault_at _ _ _ _ _ _ _ _ _ _ (by simp) (HR.out.kept0 HK0.out) (HR'.out.kept0 HK0.out)).mono ?_
    rintro e w1 ⟨rfl, hq⟩
    generalize hf : fault2 xs ys = f at *
    have hne : (f == 0) = false := by rw [beq_eq_false_iff_ne]; exact hz
    obtain ⟨hc0, hc1, hf0, hf1, hsz⟩ := resCells hq (by simp)
    obtain ⟨ea, eb, ec⟩ := cells2 (.int .i64 f) (.slice none 0 0) hc0 hc1
    have HQ := Lib.hid hq
    have HF := Lib.hid hf
    clear hf hz hq
    go_wp2_with fail
    exact bodyPost_ret (v := .agg #[.int .i64 f, .slice none 0 0]) (by simp [results, Try.results125, go_sem, eb, ec]) rfl (natR_fin (xs := []) f HQ.out (Sl.nil _) (fun h => by simp at h))

end Go.Proofs.Ytjndjjdffifgcaa
