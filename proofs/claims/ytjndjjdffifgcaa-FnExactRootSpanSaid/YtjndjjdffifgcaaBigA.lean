/-
  Contracts of BigFault, of the first fault of two bigs, and of what makes a big out of a sign and limbs. Condition: the limbs read as lists of numbers.
-/
import Derived.Test.YtjndjjdffifgcaaLBig
import Derived.Test.YtjndjjdffifgcaaPlain7
import Derived.Test.YtjndjjdffifgcaaComp
namespace Go.Proofs.Ytjndjjdffifgcaa
open Go.RowKit

theorem Rd.len {w : World} {a : Option Addr} {n : Nat} {xs : List Int} (h : Rd w a n xs) : xs.length = n := h.1

set_option maxHeartbeats 400000 in
theorem BigFault_any (b : Bool) (a : Option Addr) (n c : Nat) (xs : List Int) (w : World) (h : Rd w a n xs) :
    Calls Try.prog 96 #[.agg #[.bool b, .slice a n c]] w (Ans w (.int .i64 (bigFault b xs))) := by
  have HR := Lib.hid h
  have HL := Lib.hid h.1
  have hmax := h.2.1
  clear h
  have k0 : Kept [] w (w.alloc (.cells #[.bool b, .slice a n c] 29)) := (Kept.refl [] w).alloc _
  have K0 := Lib.hid k0
  clear k0
  by_cases hz : natFault xs = 0
  · have hz' := Lib.hid hz
    cases b with
    | false =>
      have hv : Hid (bigFault false xs = 0) := bigFault_ok hz (fun h => by cases h)
      clear hz
      go_enter Try.func96, Try.ntmps96
      go_wp2_with fail
      refine (NatFault_any _ _ _ _ _ (HR.out.kept0 K0.out)).mono ?_
      rintro e w1 ⟨rfl, hk⟩
      rw [hz'.out]
      obtain ⟨c1, _, _⟩ := hk.top (g := w.heap.size) (by simp) (by simp) 0 rfl
      obtain ⟨c2, _, _⟩ := hk.top (g := w.heap.size) (by simp) (by simp) 1 rfl
      have HK := Lib.hid (K0.out.trans0 hk)
      clear hk
      go_wp2_with fail
      go_ret
      exact ⟨by rw [hv.out]; rfl, HK.out⟩
    | true =>
      by_cases hn : n = 0
      · subst hn
        have hv : Hid (bigFault true xs = 1) := bigFault_form hz HL.out
        clear hz
        go_enter Try.func96, Try.ntmps96
        go_wp2_with fail
        refine (NatFault_any _ _ _ _ _ (HR.out.kept0 K0.out)).mono ?_
        rintro e w1 ⟨rfl, hk⟩
        rw [hz'.out]
        obtain ⟨c1, _, _⟩ := hk.top (g := w.heap.size) (by simp) (by simp) 0 rfl
        obtain ⟨c2, _, _⟩ := hk.top (g := w.heap.size) (by simp) (by simp) 1 rfl
        have HK := Lib.hid (K0.out.trans0 hk)
        clear hk
        go_wp2_with fail
        go_ret
        exact ⟨by rw [hv.out]; rfl, HK.out⟩
      · have hv : Hid (bigFault true xs = 0) := bigFault_ok hz (fun _ => by rw [HL.out]; exact hn)
        have hn' : ((n : Int) == 0) = false := by rw [beq_eq_false_iff_ne]; omega
        clear hz
        go_enter Try.func96, Try.ntmps96
        go_wp2_with fail
        refine (NatFault_any _ _ _ _ _ (HR.out.kept0 K0.out)).mono ?_
        rintro e w1 ⟨rfl, hk⟩
        rw [hz'.out]
        obtain ⟨c1, _, _⟩ := hk.top (g := w.heap.size) (by simp) (by simp) 0 rfl
        obtain ⟨c2, _, _⟩ := hk.top (g := w.heap.size) (by simp) (by simp) 1 rfl
        have HK := Lib.hid (K0.out.trans0 hk)
        clear hk
        go_wp2_with fail
        go_ret
        exact ⟨by rw [hv.out]; rfl, HK.out⟩
  · have hv : Hid (bigFault b xs = natFault xs) := bigFault_nat hz
    generalize hf : natFault xs = f at *
    have hne : (f == 0) = false := by rw [beq_eq_false_iff_ne]; exact hz
    have HF := Lib.hid hf
    clear hf hz
    go_enter Try.func96, Try.ntmps96
    go_wp2_with fail
    refine (NatFault_any _ _ _ _ _ (HR.out.kept0 K0.out)).mono ?_
    rintro e w1 ⟨rfl, hk⟩
    rw [HF.out]
    have HK := Lib.hid (K0.out.trans0 hk)
    clear hk
    go_wp2_with fail
    go_ret
    exact ⟨by rw [hv.out]; rfl, HK.out⟩

set_option maxHeartbeats 400000 in
theorem sBigFault_any (b : Bool) (a : Option Addr) (n c : Nat) (xs : List Int) (w : World) (h : Rd w a n xs) :
    Calls Try.prog 94 #[.agg #[.bool b, .slice a n c]] w (Ans w (.int .i64 (bigFault b xs))) := by
  have HR := Lib.hid h
  have HL := Lib.hid h.1
  have hmax := h.2.1
  clear h
  have k0 : Kept [] w (w.alloc (.cells #[.bool b, .slice a n c] 29)) := (Kept.refl [] w).alloc _
  have K0 := Lib.hid k0
  clear k0
  by_cases hz : natFault xs = 0
  · have hz' := Lib.hid hz
    cases b with
    | false =>
      have hv : Hid (bigFault false xs = 0) := bigFault_ok hz (fun h => by cases h)
      clear hz
      go_enter Try.func94, Try.ntmps94
      go_wp2_with fail
      refine (sNatFault_any _ _ _ _ _ (HR.out.kept0 K0.out)).mono ?_
      rintro e w1 ⟨rfl, hk⟩
      rw [hz'.out]
      obtain ⟨c1, _, _⟩ := hk.top (g := w.heap.size) (by simp) (by simp) 0 rfl
      obtain ⟨c2, _, _⟩ := hk.top (g := w.heap.size) (by simp) (by simp) 1 rfl
      have HK := Lib.hid (K0.out.trans0 hk)
      clear hk
      go_wp2_with fail
      go_ret
      exact ⟨by rw [hv.out]; rfl, HK.out⟩
    | true =>
      by_cases hn : n = 0
      · subst hn
        have hv : Hid (bigFault true xs = 1) := bigFault_form hz HL.out
        clear hz
        go_enter Try.func94, Try.ntmps94
        go_wp2_with fail
        refine (sNatFault_any _ _ _ _ _ (HR.out.kept0 K0.out)).mono ?_
        rintro e w1 ⟨rfl, hk⟩
        rw [hz'.out]
        obtain ⟨c1, _, _⟩ := hk.top (g := w.heap.size) (by simp) (by simp) 0 rfl
        obtain ⟨c2, _, _⟩ := hk.top (g := w.heap.size) (by simp) (by simp) 1 rfl
        have HK := Lib.hid (K0.out.trans0 hk)
        clear hk
        go_wp2_with fail
        go_ret
        exact ⟨by rw [hv.out]; rfl, HK.out⟩
      · have hv : Hid (bigFault true xs = 0) := bigFault_ok hz (fun _ => by rw [HL.out]; exact hn)
        have hn' : ((n : Int) == 0) = false := by rw [beq_eq_false_iff_ne]; omega
        clear hz
        go_enter Try.func94, Try.ntmps94
        go_wp2_with fail
        refine (sNatFault_any _ _ _ _ _ (HR.out.kept0 K0.out)).mono ?_
        rintro e w1 ⟨rfl, hk⟩
        rw [hz'.out]
        obtain ⟨c1, _, _⟩ := hk.top (g := w.heap.size) (by simp) (by simp) 0 rfl
        obtain ⟨c2, _, _⟩ := hk.top (g := w.heap.size) (by simp) (by simp) 1 rfl
        have HK := Lib.hid (K0.out.trans0 hk)
        clear hk
        go_wp2_with fail
        go_ret
        exact ⟨by rw [hv.out]; rfl, HK.out⟩
  · have hv : Hid (bigFault b xs = natFault xs) := bigFault_nat hz
    generalize hf : natFault xs = f at *
    have hne : (f == 0) = false := by rw [beq_eq_false_iff_ne]; exact hz
    have HF := Lib.hid hf
    clear hf hz
    go_enter Try.func94, Try.ntmps94
    go_wp2_with fail
    refine (sNatFault_any _ _ _ _ _ (HR.out.kept0 K0.out)).mono ?_
    rintro e w1 ⟨rfl, hk⟩
    rw [HF.out]
    have HK := Lib.hid (K0.out.trans0 hk)
    clear hk
    go_wp2_with fail
    go_ret
    exact ⟨by rw [hv.out]; rfl, HK.out⟩

/-- The first fault of two is the one of the first, or else that of the second. -/
theorem bigFault2_first {na nb : Bool} {xs ys : List Int} (h : bigFault na xs ≠ 0) : bigFault2 na xs nb ys = bigFault na xs := if_neg h
theorem bigFault2_second {na nb : Bool} {xs ys : List Int} (h : bigFault na xs = 0) : bigFault2 na xs nb ys = bigFault nb ys := if_pos h

set_option maxHeartbeats 400000 in
theorem l2Two_any (p q : Bool) (a b : Option Addr) (n c m d : Nat) (xs ys : List Int) (w : World) (h : Rd w a n xs) (h' : Rd w b m ys) :
    Calls Try.prog 50 #[.agg #[.bool p, .slice a n c], .agg #[.bool q, .slice b m d]] w (Ans w (.int .i64 (bigFault2 p xs q ys))) := by
  have HR := Lib.hid h
  have HR' := Lib.hid h'
  clear h h'
  have k0 : Kept [] w ((w.alloc (.cells #[.bool p, .slice a n c] 29)).alloc (.cells #[.bool q, .slice b m d] 29)) := ((Kept.refl [] w).alloc _).alloc _
  have K0 := Lib.hid k0
  clear k0
  by_cases hz : bigFault p xs = 0
  · have hv : Hid (bigFault2 p xs q ys = bigFault q ys) := bigFault2_second hz
    have hz' := Lib.hid hz
    clear hz
    go_enter Try.func50, Try.ntmps50
    go_wp2_with fail
    refine (sBigFault_any _ _ _ _ _ _ (HR.out.kept0 K0.out)).mono ?_
    rintro e w1 ⟨rfl, hk⟩
    rw [hz'.out]
    obtain ⟨c1, _, _⟩ := hk.top (g := w.heap.size + 1) (by simp) (by simp) 0 rfl
    obtain ⟨c2, _, _⟩ := hk.top (g := w.heap.size + 1) (by simp) (by simp) 1 rfl
    have HK := Lib.hid (K0.out.trans0 hk)
    clear hk
    go_wp2_with fail
    refine (sBigFault_any _ _ _ _ _ _ (HR'.out.kept0 HK.out)).mono ?_
    rintro e w2 ⟨rfl, hk⟩
    have HK2 := Lib.hid (HK.out.trans0 hk)
    clear hk
    go_wp2_with fail
    go_ret
    exact ⟨by rw [hv.out]; rfl, HK2.out⟩
  · have hv : Hid (bigFault2 p xs q ys = bigFault p xs) := bigFault2_first hz
    generalize hf : bigFault p xs = f at *
    have hne : (f == 0) = false := by rw [beq_eq_false_iff_ne]; exact hz
    have HF := Lib.hid hf
    clear hf hz
    go_enter Try.func50, Try.ntmps50
    go_wp2_with fail
    refine (sBigFault_any _ _ _ _ _ _ (HR.out.kept0 K0.out)).mono ?_
    rintro e w1 ⟨rfl, hk⟩
    rw [HF.out]
    have HK := Lib.hid (K0.out.trans0 hk)
    clear hk
    go_wp2_with fail
    go_ret
    exact ⟨by rw [hv.out]; rfl, HK.out⟩

set_option maxHeartbeats 1000000 in
theorem firstBigFault_two (g : Nat) (p q : Bool) (a b : Option Addr) (n c m d : Nat) (xs ys : List Int) (w : World) (hg : g = w.heap.size) (h : Rd w a n xs) (h' : Rd w b m ys) :
    Calls Try.prog 52 #[.slice (some ⟨g, 0, none⟩) 2 2] (w.alloc (.cells #[.bool p, .slice a n c, .bool q, .slice b m d] 29)) (Ans w (.int .i64 (bigFault2 p xs q ys))) := by
  subst hg
  have HR := Lib.hid h
  have HR' := Lib.hid h'
  clear h h'
  have k0 : Kept [] w (w.alloc (.cells #[.bool p, .slice a n c, .bool q, .slice b m d] 29)) := (Kept.refl [] w).alloc _
  have HK0 := Lib.hid k0
  clear k0
  go_enter Try.func52, Try.ntmps52
  go_wp2
  go_loopw [8] (fun i wr => Hid (Kept [] (w.alloc (.cells #[.bool p, .slice a n c, .bool q, .slice b m d] 29)) wr) ∧ ((i = .int .i64 0) ∨ (i = .int .i64 1 ∧ Hid (bigFault p xs = 0)) ∨ (i = .int .i64 2 ∧ Hid (bigFault p xs = 0) ∧ Hid (bigFault q ys = 0)))) (fun i _ => 2 - (intOf i).toNat)
  case atStart => exact ⟨Kept.refl [] _, Or.inl rfl⟩
  case round =>
    obtain ⟨hK, hrel⟩ := hrel
    have hd : Rd wr a n xs := (HR.out.kept0 HK0.out).kept0 hK.out
    have HD := Lib.hid hd
    have hd' : Rd wr b m ys := (HR'.out.kept0 HK0.out).kept0 hK.out
    have HD' := Lib.hid hd'
    obtain ⟨c0, _, _⟩ := hK.out.top (g := w.heap.size) (by simp) (by simp) 0 rfl
    obtain ⟨c1, _, _⟩ := hK.out.top (g := w.heap.size) (by simp) (by simp) 1 rfl
    obtain ⟨c2, _, _⟩ := hK.out.top (g := w.heap.size) (by simp) (by simp) 2 rfl
    obtain ⟨c3, _, _⟩ := hK.out.top (g := w.heap.size) (by simp) (by simp) 3 rfl
    clear hd hd'
    rcases hrel with rfl | ⟨rfl, hx⟩ | ⟨rfl, hx, hy⟩
    · have hk1 : Kept [] wr (wr.alloc (.cells #[.bool p, .slice a n c] 29)) := (Kept.refl [] wr).alloc _
      have HK1 := Lib.hid hk1
      clear hk1
      by_cases hz : bigFault p xs = 0
      · have hz' := Lib.hid hz
        clear hz
        go_wp2_with (go_at_call 96; refine (BigFault_any _ _ _ _ _ _ (HD.out.kept0 HK1.out)).mono ?_; rintro e w1 ⟨rfl, hq⟩; rw [hz'.out])
        have hK2 := Lib.hid ((hK.out.trans0 HK1.out).trans0 hq)
        clear hK hq
        go_roundw
        case rel => exact ⟨hK2, Or.inr (Or.inl ⟨rfl, hz'⟩)⟩
        case measure => simp [intOf]
      · have hv : Hid (bigFault2 p xs q ys = bigFault p xs) := bigFault2_first hz
        generalize hf : bigFault p xs = f at *
        have hne : (f == 0) = false := by rw [beq_eq_false_iff_ne]; exact hz
        have HF := Lib.hid hf
        clear hf hz
        go_wp2_with (go_at_call 96; refine (BigFault_any _ _ _ _ _ _ (HD.out.kept0 HK1.out)).mono ?_; rintro e w1 ⟨rfl, hq⟩; rw [HF.out])
        have hK2 := Lib.hid ((HK0.out.trans0 hK.out).trans0 (HK1.out.trans0 hq))
        clear hK hq
        go_ret
        exact ⟨by rw [hv.out]; rfl, hK2.out⟩
    · have hk1 : Kept [] wr (wr.alloc (.cells #[.bool q, .slice b m d] 29)) := (Kept.refl [] wr).alloc _
      have HK1 := Lib.hid hk1
      clear hk1
      by_cases hz : bigFault q ys = 0
      · have hz' := Lib.hid hz
        clear hz
        go_wp2_with (go_at_call 96; refine (BigFault_any _ _ _ _ _ _ (HD'.out.kept0 HK1.out)).mono ?_; rintro e w1 ⟨rfl, hq⟩; rw [hz'.out])
        have hK2 := Lib.hid ((hK.out.trans0 HK1.out).trans0 hq)
        clear hK hq
        go_roundw
        case rel => exact ⟨hK2, Or.inr (Or.inr ⟨rfl, hx, hz'⟩)⟩
        case measure => simp [intOf]
      · have hv : Hid (bigFault2 p xs q ys = bigFault q ys) := bigFault2_second hx.out
        generalize hf : bigFault q ys = f at *
        have hne : (f == 0) = false := by rw [beq_eq_false_iff_ne]; exact hz
        have HF := Lib.hid hf
        clear hf hz
        go_wp2_with (go_at_call 96; refine (BigFault_any _ _ _ _ _ _ (HD'.out.kept0 HK1.out)).mono ?_; rintro e w1 ⟨rfl, hq⟩; rw [HF.out])
        have hK2 := Lib.hid ((HK0.out.trans0 hK.out).trans0 (HK1.out.trans0 hq))
        clear hK hq
        go_ret
        exact ⟨by rw [hv.out]; rfl, hK2.out⟩
    · have hv : Hid (bigFault2 p xs q ys = 0) := (bigFault2_second hx.out).trans hy.out
      go_wp2
      go_ret
      exact ⟨by rw [hv.out]; rfl, HK0.out.trans0 hK.out⟩

end Go.Proofs.Ytjndjjdffifgcaa
