/-
  Contracts over two spans: the first fault, OrderSpan and IsWithin, and their models. No condition but that the limbs read as lists of numbers.
-/
import Derived.Test.YtlhiahhpmjiioaaSpanB
namespace Go.Proofs.Ytlhiahhpmjiioaa
open Go.RowKit

set_option maxHeartbeats 8000000 in
theorem firstSpanFault_one (g : Nat) (p q : Bool) (a b : Option Addr) (n c m d : Nat) (xs ys : List Int) (w : World) (hg : g = w.heap.size) (h1 : Sl w a n c xs) (h2 : Sl w b m d ys) :
    Calls Try.prog 23 #[.func (.func 24) #[] #[], .slice (some ⟨g, 0, none⟩) 1 1] (w.alloc (.cells #[.bool p, .slice a n c, .bool q, .slice b m d] 28)) (Ans w (.int .i64 (spanFault p xs q ys))) := by
  subst hg
  have H1 := Lib.hid h1
  have H2 := Lib.hid h2
  clear h1 h2
  have k0 : Kept [] w (w.alloc (.cells #[.bool p, .slice a n c, .bool q, .slice b m d] 28)) := (Kept.refl [] w).alloc _
  have HK0 := Lib.hid k0
  clear k0
  go_enter Try.func23, Try.ntmps23
  go_wp2
  go_loopw [10] (fun i wr => Hid (Kept [] (w.alloc (.cells #[.bool p, .slice a n c, .bool q, .slice b m d] 28)) wr) ∧ ((i = .int .i64 0) ∨ (i = .int .i64 1 ∧ Hid (spanFault p xs q ys = 0)))) (fun i _ => 1 - (intOf i).toNat)
  case atStart => exact ⟨Kept.refl [] _, Or.inl rfl⟩
  case round =>
    obtain ⟨hK, hrel⟩ := hrel
    have hd : Sl wr a n c xs := (H1.out.kept0 HK0.out).kept0 hK.out
    have D1 := Lib.hid hd
    clear hd
    have hd : Sl wr b m d ys := (H2.out.kept0 HK0.out).kept0 hK.out
    have D2 := Lib.hid hd
    clear hd
    obtain ⟨c0, _, _⟩ := hK.out.top (g := w.heap.size) (by simp) (by simp) 0 rfl
    obtain ⟨c1, _, _⟩ := hK.out.top (g := w.heap.size) (by simp) (by simp) 1 rfl
    obtain ⟨c2, _, _⟩ := hK.out.top (g := w.heap.size) (by simp) (by simp) 2 rfl
    obtain ⟨c3, _, _⟩ := hK.out.top (g := w.heap.size) (by simp) (by simp) 3 rfl
    rcases hrel with rfl | ⟨rfl, x0⟩
    · have hk1 : Kept [] wr (wr.alloc (.cells #[.bool p, .slice a n c, .bool q, .slice b m d] 28)) := (Kept.refl [] wr).alloc _
      have HK1 := Lib.hid hk1
      clear hk1
      by_cases hz : spanFault p xs q ys = 0
      · have hz' := Lib.hid hz
        clear hz
        go_wp2_with (go_at_call 24; refine (SpanFault_any _ _ _ _ _ _ _ _ _ _ _ (D1.out.kept0 HK1.out) (D2.out.kept0 HK1.out)).mono ?_; rintro e w1 ⟨rfl, hq⟩; rw [hz'.out])
        have hK2 := Lib.hid ((hK.out.trans0 HK1.out).trans0 hq)
        clear hK hq
        go_roundw
        case rel => exact ⟨hK2, Or.inr (⟨rfl, hz'⟩)⟩
        case measure => simp [intOf]
      · have hv : Hid (spanFault p xs q ys = spanFault p xs q ys) := rfl
        generalize hf : spanFault p xs q ys = f at *
        have hne : (f == 0) = false := by rw [beq_eq_false_iff_ne]; exact hz
        have HF := Lib.hid hf
        clear hf hz
        go_wp2_with (go_at_call 24; refine (SpanFault_any _ _ _ _ _ _ _ _ _ _ _ (D1.out.kept0 HK1.out) (D2.out.kept0 HK1.out)).mono ?_; rintro e w1 ⟨rfl, hq⟩; rw [HF.out])
        have hK2 := Lib.hid ((HK0.out.trans0 hK.out).trans0 (HK1.out.trans0 hq))
        clear hK hq
        go_ret
        exact ⟨rfl, hK2.out⟩
    · have hv : Hid (spanFault p xs q ys = 0) := x0.out
      go_wp2
      go_ret
      exact ⟨by rw [hv.out] <;> rfl, HK0.out.trans0 hK.out⟩

set_option maxHeartbeats 8000000 in
theorem firstSpanFault_two (g : Nat) (p q : Bool) (a b : Option Addr) (n c m d : Nat) (xs ys : List Int) (p' q' : Bool) (a' b' : Option Addr) (n' c' m' d' : Nat) (xs' ys' : List Int) (w : World) (hg : g = w.heap.size) (h1 : Sl w a n c xs) (h2 : Sl w b m d ys) (h3 : Sl w a' n' c' xs') (h4 : Sl w b' m' d' ys') :
    Calls Try.prog 23 #[.func (.func 24) #[] #[], .slice (some ⟨g, 0, none⟩) 2 2] (w.alloc (.cells #[.bool p, .slice a n c, .bool q, .slice b m d, .bool p', .slice a' n' c', .bool q', .slice b' m' d'] 28)) (Ans w (.int .i64 (spanFault2 p xs q ys p' xs' q' ys'))) := by
  subst hg
  have H1 := Lib.hid h1
  have H2 := Lib.hid h2
  have H3 := Lib.hid h3
  have H4 := Lib.hid h4
  clear h1 h2 h3 h4
  have k0 : Kept [] w (w.alloc (.cells #[.bool p, .slice a n c, .bool q, .slice b m d, .bool p', .slice a' n' c', .bool q', .slice b' m' d'] 28)) := (Kept.refl [] w).alloc _
  have HK0 := Lib.hid k0
  clear k0
  go_enter Try.func23, Try.ntmps23
  go_wp2
  go_loopw [10] (fun i wr => Hid (Kept [] (w.alloc (.cells #[.bool p, .slice a n c, .bool q, .slice b m d, .bool p', .slice a' n' c', .bool q', .slice b' m' d'] 28)) wr) ∧ ((i = .int .i64 0) ∨ (i = .int .i64 1 ∧ Hid (spanFault p xs q ys = 0)) ∨ (i = .int .i64 2 ∧ Hid (spanFault p xs q ys = 0) ∧ Hid (spanFault p' xs' q' ys' = 0)))) (fun i _ => 2 - (intOf i).toNat)
  case atStart => exact ⟨Kept.refl [] _, Or.inl rfl⟩
  case round =>
    obtain ⟨hK, hrel⟩ := hrel
    have hd : Sl wr a n c xs := (H1.out.kept0 HK0.out).kept0 hK.out
    have D1 := Lib.hid hd
    clear hd
    have hd : Sl wr b m d ys := (H2.out.kept0 HK0.out).kept0 hK.out
    have D2 := Lib.hid hd
    clear hd
    have hd : Sl wr a' n' c' xs' := (H3.out.kept0 HK0.out).kept0 hK.out
    have D3 := Lib.hid hd
    clear hd
    have hd : Sl wr b' m' d' ys' := (H4.out.kept0 HK0.out).kept0 hK.out
    have D4 := Lib.hid hd
    clear hd
    obtain ⟨c0, _, _⟩ := hK.out.top (g := w.heap.size) (by simp) (by simp) 0 rfl
    obtain ⟨c1, _, _⟩ := hK.out.top (g := w.heap.size) (by simp) (by simp) 1 rfl
    obtain ⟨c2, _, _⟩ := hK.out.top (g := w.heap.size) (by simp) (by simp) 2 rfl
    obtain ⟨c3, _, _⟩ := hK.out.top (g := w.heap.size) (by simp) (by simp) 3 rfl
    obtain ⟨c4, _, _⟩ := hK.out.top (g := w.heap.size) (by simp) (by simp) 4 rfl
    obtain ⟨c5, _, _⟩ := hK.out.top (g := w.heap.size) (by simp) (by simp) 5 rfl
    obtain ⟨c6, _, _⟩ := hK.out.top (g := w.heap.size) (by simp) (by simp) 6 rfl
    obtain ⟨c7, _, _⟩ := hK.out.top (g := w.heap.size) (by simp) (by simp) 7 rfl
    rcases hrel with rfl | ⟨rfl, x0⟩ | ⟨rfl, x0, x1⟩
    · have hk1 : Kept [] wr (wr.alloc (.cells #[.bool p, .slice a n c, .bool q, .slice b m d] 28)) := (Kept.refl [] wr).alloc _
      have HK1 := Lib.hid hk1
      clear hk1
      by_cases hz : spanFault p xs q ys = 0
      · have hz' := Lib.hid hz
        clear hz
        go_wp2_with (go_at_call 24; refine (SpanFault_any _ _ _ _ _ _ _ _ _ _ _ (D1.out.kept0 HK1.out) (D2.out.kept0 HK1.out)).mono ?_; rintro e w1 ⟨rfl, hq⟩; rw [hz'.out])
        have hK2 := Lib.hid ((hK.out.trans0 HK1.out).trans0 hq)
        clear hK hq
        go_roundw
        case rel => exact ⟨hK2, Or.inr (Or.inl ⟨rfl, hz'⟩)⟩
        case measure => simp [intOf]
      · have hv : Hid (spanFault2 p xs q ys p' xs' q' ys' = spanFault p xs q ys) := spanFault2_first hz
        generalize hf : spanFault p xs q ys = f at *
        have hne : (f == 0) = false := by rw [beq_eq_false_iff_ne]; exact hz
        have HF := Lib.hid hf
        clear hf hz
        go_wp2_with (go_at_call 24; refine (SpanFault_any _ _ _ _ _ _ _ _ _ _ _ (D1.out.kept0 HK1.out) (D2.out.kept0 HK1.out)).mono ?_; rintro e w1 ⟨rfl, hq⟩; rw [HF.out])
        have hK2 := Lib.hid ((HK0.out.trans0 hK.out).trans0 (HK1.out.trans0 hq))
        clear hK hq
        go_ret
        exact ⟨by rw [hv.out] <;> rfl, hK2.out⟩
    · have hk1 : Kept [] wr (wr.alloc (.cells #[.bool p', .slice a' n' c', .bool q', .slice b' m' d'] 28)) := (Kept.refl [] wr).alloc _
      have HK1 := Lib.hid hk1
      clear hk1
      by_cases hz : spanFault p' xs' q' ys' = 0
      · have hz' := Lib.hid hz
        clear hz
        go_wp2_with (go_at_call 24; refine (SpanFault_any _ _ _ _ _ _ _ _ _ _ _ (D3.out.kept0 HK1.out) (D4.out.kept0 HK1.out)).mono ?_; rintro e w1 ⟨rfl, hq⟩; rw [hz'.out])
        have hK2 := Lib.hid ((hK.out.trans0 HK1.out).trans0 hq)
        clear hK hq
        go_roundw
        case rel => exact ⟨hK2, Or.inr (Or.inr (⟨rfl, x0, hz'⟩))⟩
        case measure => simp [intOf]
      · have hv : Hid (spanFault2 p xs q ys p' xs' q' ys' = spanFault p' xs' q' ys') := spanFault2_second x0.out
        generalize hf : spanFault p' xs' q' ys' = f at *
        have hne : (f == 0) = false := by rw [beq_eq_false_iff_ne]; exact hz
        have HF := Lib.hid hf
        clear hf hz
        go_wp2_with (go_at_call 24; refine (SpanFault_any _ _ _ _ _ _ _ _ _ _ _ (D3.out.kept0 HK1.out) (D4.out.kept0 HK1.out)).mono ?_; rintro e w1 ⟨rfl, hq⟩; rw [HF.out])
        have hK2 := Lib.hid ((HK0.out.trans0 hK.out).trans0 (HK1.out.trans0 hq))
        clear hK hq
        go_ret
        exact ⟨by rw [hv.out] <;> rfl, hK2.out⟩
    · have hv : Hid (spanFault2 p xs q ys p' xs' q' ys' = 0) := (spanFault2_second x0.out).trans x1.out
      go_wp2
      go_ret
      exact ⟨by rw [hv.out] <;> rfl, HK0.out.trans0 hK.out⟩

set_option maxHeartbeats 4000000 in
set_option maxRecDepth 20000 in
theorem l3Two_any (p q : Bool) (a b : Option Addr) (n c m d : Nat) (xs ys : List Int) (p' q' : Bool) (a' b' : Option Addr) (n' c' m' d' : Nat) (xs' ys' : List Int) (w : World) (h1 : Sl w a n c xs) (h2 : Sl w b m d ys) (h3 : Sl w a' n' c' xs') (h4 : Sl w b' m' d' ys') :
    Calls Try.prog 31 #[.agg #[.bool p, .slice a n c, .bool q, .slice b m d], .agg #[.bool p', .slice a' n' c', .bool q', .slice b' m' d']] w (Ans w (.int .i64 (spanFault2 p xs q ys p' xs' q' ys'))) := by
  have H1 := Lib.hid h1
  have H2 := Lib.hid h2
  have H3 := Lib.hid h3
  have H4 := Lib.hid h4
  clear h1 h2 h3 h4
  by_cases hz : spanFault p xs q ys = 0
  · skip
    rw [spanFault2_second hz]
    have HZ := Lib.hid hz
    clear hz
    go_enter Try.func31, Try.ntmps31
    go_wp2_with fail
    generalize hW : ((w.alloc (.cells #[.bool p, .slice a n c, .bool q, .slice b m d] 28)).alloc (.cells #[.bool p', .slice a' n' c', .bool q', .slice b' m' d'] 28)) = ww0
    have hkk : Kept [] ((w.alloc (.cells #[.bool p, .slice a n c, .bool q, .slice b m d] 28)).alloc (.cells #[.bool p', .slice a' n' c', .bool q', .slice b' m' d'] 28)) ww0 := by rw [hW]; exact Kept.refl _ _
    have zzA : w.heap.size + 1 + 1 = ww0.heap.size := by rw [← hW]; simp
    obtain ⟨⟨nA0, nA1, nA2, nA3⟩, _⟩ := tp4 hkk.peel (g := w.heap.size) (by simp) (by simp)
    obtain ⟨⟨nB0, nB1, nB2, nB3⟩, _⟩ := tp4 hkk (g := w.heap.size + 1) (by simp) (by simp)
    have hk := hkk.peel.peel
    clear hkk hW
    have z0 := hk.size
    have KT := Lib.hid hk
    clear hk
    replace H1 := Lib.hid (H1.out.kept0 KT.out)
    replace H2 := Lib.hid (H2.out.kept0 KT.out)
    replace H3 := Lib.hid (H3.out.kept0 KT.out)
    replace H4 := Lib.hid (H4.out.kept0 KT.out)
    refine (sSpanFault_any _ _ _ _ _ _ _ _ _ _ _ H1.out H2.out).mono ?_
    rintro e ww1 ⟨rfl, hk⟩
    rw [HZ.out]
    have z1 := hk.size
    replace nA0 := kc hk nA0
    replace nA1 := kc hk nA1
    replace nA2 := kc hk nA2
    replace nA3 := kc hk nA3
    replace nB0 := kc hk nB0
    replace nB1 := kc hk nB1
    replace nB2 := kc hk nB2
    replace nB3 := kc hk nB3
    replace H1 := Lib.hid (H1.out.kept0 hk)
    replace H2 := Lib.hid (H2.out.kept0 hk)
    replace H3 := Lib.hid (H3.out.kept0 hk)
    replace H4 := Lib.hid (H4.out.kept0 hk)
    replace KT := Lib.hid (KT.out.trans0 hk)
    clear hk
    have tA0 := nA0.out
    have tA1 := nA1.out
    have tA2 := nA2.out
    have tA3 := nA3.out
    have tB0 := nB0.out
    have tB1 := nB1.out
    have tB2 := nB2.out
    have tB3 := nB3.out
    go_wp2_with fail
    clear tA0 tA1 tA2 tA3 tB0 tB1 tB2 tB3
    refine (sSpanFault_any _ _ _ _ _ _ _ _ _ _ _ H3.out H4.out).mono ?_
    rintro e ww2 ⟨rfl, hk⟩
    have z2 := hk.size
    replace nA0 := kc hk nA0
    replace nA1 := kc hk nA1
    replace nA2 := kc hk nA2
    replace nA3 := kc hk nA3
    replace nB0 := kc hk nB0
    replace nB1 := kc hk nB1
    replace nB2 := kc hk nB2
    replace nB3 := kc hk nB3
    replace H1 := Lib.hid (H1.out.kept0 hk)
    replace H2 := Lib.hid (H2.out.kept0 hk)
    replace H3 := Lib.hid (H3.out.kept0 hk)
    replace H4 := Lib.hid (H4.out.kept0 hk)
    replace KT := Lib.hid (KT.out.trans0 hk)
    clear hk
    go_wp2_with fail
    go_ret
    exact ⟨rfl, KT.out⟩
  · skip
    rw [spanFault2_first hz]
    generalize hf : spanFault p xs q ys = f at *
    have hne : (f == 0) = false := by rw [beq_eq_false_iff_ne]; exact hz
    have HZ := Lib.hid hf
    clear hf hz
    go_enter Try.func31, Try.ntmps31
    go_wp2_with fail
    generalize hW : ((w.alloc (.cells #[.bool p, .slice a n c, .bool q, .slice b m d] 28)).alloc (.cells #[.bool p', .slice a' n' c', .bool q', .slice b' m' d'] 28)) = ww0
    have hkk : Kept [] ((w.alloc (.cells #[.bool p, .slice a n c, .bool q, .slice b m d] 28)).alloc (.cells #[.bool p', .slice a' n' c', .bool q', .slice b' m' d'] 28)) ww0 := by rw [hW]; exact Kept.refl _ _
    have zzA : w.heap.size + 1 + 1 = ww0.heap.size := by rw [← hW]; simp
    obtain ⟨⟨nA0, nA1, nA2, nA3⟩, _⟩ := tp4 hkk.peel (g := w.heap.size) (by simp) (by simp)
    obtain ⟨⟨nB0, nB1, nB2, nB3⟩, _⟩ := tp4 hkk (g := w.heap.size + 1) (by simp) (by simp)
    have hk := hkk.peel.peel
    clear hkk hW
    have z0 := hk.size
    have KT := Lib.hid hk
    clear hk
    replace H1 := Lib.hid (H1.out.kept0 KT.out)
    replace H2 := Lib.hid (H2.out.kept0 KT.out)
    replace H3 := Lib.hid (H3.out.kept0 KT.out)
    replace H4 := Lib.hid (H4.out.kept0 KT.out)
    refine (sSpanFault_any _ _ _ _ _ _ _ _ _ _ _ H1.out H2.out).mono ?_
    rintro e ww1 ⟨rfl, hk⟩
    rw [HZ.out]
    have z1 := hk.size
    replace nA0 := kc hk nA0
    replace nA1 := kc hk nA1
    replace nA2 := kc hk nA2
    replace nA3 := kc hk nA3
    replace nB0 := kc hk nB0
    replace nB1 := kc hk nB1
    replace nB2 := kc hk nB2
    replace nB3 := kc hk nB3
    replace H1 := Lib.hid (H1.out.kept0 hk)
    replace H2 := Lib.hid (H2.out.kept0 hk)
    replace H3 := Lib.hid (H3.out.kept0 hk)
    replace H4 := Lib.hid (H4.out.kept0 hk)
    replace KT := Lib.hid (KT.out.trans0 hk)
    clear hk
    go_wp2_with fail
    go_ret
    exact ⟨rfl, KT.out⟩

set_option maxHeartbeats 8000000 in
set_option maxRecDepth 20000 in
theorem OrderSpan_any (p q : Bool) (a b : Option Addr) (n c m d : Nat) (xs ys : List Int) (p' q' : Bool) (a' b' : Option Addr) (n' c' m' d' : Nat) (xs' ys' : List Int) (w : World) (h1 : Sl w a n c xs) (h2 : Sl w b m d ys) (h3 : Sl w a' n' c' xs') (h4 : Sl w b' m' d' ys') :
    Calls Try.prog 8 #[.agg #[.bool p, .slice a n c, .bool q, .slice b m d], .agg #[.bool p', .slice a' n' c', .bool q', .slice b' m' d']] w (Ans w (.int .i64 (orderS p xs q ys p' xs' q' ys'))) := by
  have H1 := Lib.hid h1
  have H2 := Lib.hid h2
  have H3 := Lib.hid h3
  have H4 := Lib.hid h4
  clear h1 h2 h3 h4
  by_cases hz : spanFault2 p xs q ys p' xs' q' ys' = 0
  · skip
    have HE := Lib.hid (show orderS p xs q ys p' xs' q' ys' = if sv q ys < sv p' xs' then -1 else if sv q' ys' < sv p xs then 1 else 0 from if_pos hz)
    have HZ := Lib.hid hz
    obtain ⟨ox, oy⟩ := spanFault2_zero hz
    have OX := Lib.hid ox
    have OY := Lib.hid oy
    clear ox oy hz
    have B1 := Lib.hid OX.out.lo
    have B2 := Lib.hid OX.out.hi
    have B3 := Lib.hid OY.out.lo
    have B4 := Lib.hid OY.out.hi
    by_cases h1 : sv q ys < sv p' xs'
    · skip
      have HV := Lib.hid (show orderS p xs q ys p' xs' q' ys' = -1 by rw [HE.out, if_pos h1])
      have HD0 := Lib.hid (show decide (sv q ys < sv p' xs') = true from decide_eq_true h1)
      clear h1
      go_enter Try.func8, Try.ntmps8
      go_wp2_with fail
      generalize hW : ((w.alloc (.cells #[.bool p, .slice a n c, .bool q, .slice b m d] 28)).alloc (.cells #[.bool p', .slice a' n' c', .bool q', .slice b' m' d'] 28)) = ww0
      have hkk : Kept [] ((w.alloc (.cells #[.bool p, .slice a n c, .bool q, .slice b m d] 28)).alloc (.cells #[.bool p', .slice a' n' c', .bool q', .slice b' m' d'] 28)) ww0 := by rw [hW]; exact Kept.refl _ _
      have zzA : w.heap.size + 1 + 1 = ww0.heap.size := by rw [← hW]; simp
      obtain ⟨⟨nA0, nA1, nA2, nA3⟩, _⟩ := tp4 hkk.peel (g := w.heap.size) (by simp) (by simp)
      obtain ⟨⟨nB0, nB1, nB2, nB3⟩, _⟩ := tp4 hkk (g := w.heap.size + 1) (by simp) (by simp)
      have hk := hkk.peel.peel
      clear hkk hW
      have z0 := hk.size
      have KT := Lib.hid hk
      clear hk
      replace H1 := Lib.hid (H1.out.kept0 KT.out)
      replace H2 := Lib.hid (H2.out.kept0 KT.out)
      replace H3 := Lib.hid (H3.out.kept0 KT.out)
      replace H4 := Lib.hid (H4.out.kept0 KT.out)
      refine (firstSpanFault_two _ _ _ _ _ _ _ _ _ _ _ _ _ _ _ _ _ _ _ _ _ _ (by omega) H1.out H2.out H3.out H4.out).mono ?_
      rintro e ww1 ⟨rfl, hk⟩
      rw [HZ.out]
      have z1 := hk.size
      replace nA0 := kc hk nA0
      replace nA1 := kc hk nA1
      replace nA2 := kc hk nA2
      replace nA3 := kc hk nA3
      replace nB0 := kc hk nB0
      replace nB1 := kc hk nB1
      replace nB2 := kc hk nB2
      replace nB3 := kc hk nB3
      replace H1 := Lib.hid (H1.out.kept0 hk)
      replace H2 := Lib.hid (H2.out.kept0 hk)
      replace H3 := Lib.hid (H3.out.kept0 hk)
      replace H4 := Lib.hid (H4.out.kept0 hk)
      replace KT := Lib.hid (KT.out.trans0 hk)
      clear hk
      have tA0 := nA0.out
      have tA1 := nA1.out
      have tA2 := nA2.out
      have tA3 := nA3.out
      have tB0 := nB0.out
      have tB1 := nB1.out
      have tB2 := nB2.out
      have tB3 := nB3.out
      go_wp2_with fail
      clear tA0 tA1 tA2 tA3 tB0 tB1 tB2 tB3
      refine (isBelow_any _ _ _ _ _ _ _ _ _ _ _ _ H2.out H3.out B2.out B3.out HD0.out).mono ?_
      rintro e ww2 ⟨rfl, hk⟩
      have z2 := hk.size
      replace nA0 := kc hk nA0
      replace nA1 := kc hk nA1
      replace nA2 := kc hk nA2
      replace nA3 := kc hk nA3
      replace nB0 := kc hk nB0
      replace nB1 := kc hk nB1
      replace nB2 := kc hk nB2
      replace nB3 := kc hk nB3
      replace H1 := Lib.hid (H1.out.kept0 hk)
      replace H2 := Lib.hid (H2.out.kept0 hk)
      replace H3 := Lib.hid (H3.out.kept0 hk)
      replace H4 := Lib.hid (H4.out.kept0 hk)
      replace KT := Lib.hid (KT.out.trans0 hk)
      clear hk
      go_wp2_with fail
      go_ret
      exact ⟨by rw [HV.out] <;> rfl, KT.out⟩
    have g1 := h1
    clear h1
    by_cases h1 : sv q' ys' < sv p xs
    · skip
      have HV := Lib.hid (show orderS p xs q ys p' xs' q' ys' = 1 by rw [HE.out, if_neg g1, if_pos h1])
      have HD0 := Lib.hid (show decide (sv q ys < sv p' xs') = false from decide_eq_false g1)
      have HD1 := Lib.hid (show decide (sv q' ys' < sv p xs) = true from decide_eq_true h1)
      clear h1 g1
      go_enter Try.func8, Try.ntmps8
      go_wp2_with fail
      generalize hW : ((w.alloc (.cells #[.bool p, .slice a n c, .bool q, .slice b m d] 28)).alloc (.cells #[.bool p', .slice a' n' c', .bool q', .slice b' m' d'] 28)) = ww0
      have hkk : Kept [] ((w.alloc (.cells #[.bool p, .slice a n c, .bool q, .slice b m d] 28)).alloc (.cells #[.bool p', .slice a' n' c', .bool q', .slice b' m' d'] 28)) ww0 := by rw [hW]; exact Kept.refl _ _
      have zzA : w.heap.size + 1 + 1 = ww0.heap.size := by rw [← hW]; simp
      obtain ⟨⟨nA0, nA1, nA2, nA3⟩, _⟩ := tp4 hkk.peel (g := w.heap.size) (by simp) (by simp)
      obtain ⟨⟨nB0, nB1, nB2, nB3⟩, _⟩ := tp4 hkk (g := w.heap.size + 1) (by simp) (by simp)
      have hk := hkk.peel.peel
      clear hkk hW
      have z0 := hk.size
      have KT := Lib.hid hk
      clear hk
      replace H1 := Lib.hid (H1.out.kept0 KT.out)
      replace H2 := Lib.hid (H2.out.kept0 KT.out)
      replace H3 := Lib.hid (H3.out.kept0 KT.out)
      replace H4 := Lib.hid (H4.out.kept0 KT.out)
      refine (firstSpanFault_two _ _ _ _ _ _ _ _ _ _ _ _ _ _ _ _ _ _ _ _ _ _ (by omega) H1.out H2.out H3.out H4.out).mono ?_
      rintro e ww1 ⟨rfl, hk⟩
      rw [HZ.out]
      have z1 := hk.size
      replace nA0 := kc hk nA0
      replace nA1 := kc hk nA1
      replace nA2 := kc hk nA2
      replace nA3 := kc hk nA3
      replace nB0 := kc hk nB0
      replace nB1 := kc hk nB1
      replace nB2 := kc hk nB2
      replace nB3 := kc hk nB3
      replace H1 := Lib.hid (H1.out.kept0 hk)
      replace H2 := Lib.hid (H2.out.kept0 hk)
      replace H3 := Lib.hid (H3.out.kept0 hk)
      replace H4 := Lib.hid (H4.out.kept0 hk)
      replace KT := Lib.hid (KT.out.trans0 hk)
      clear hk
      have tA0 := nA0.out
      have tA1 := nA1.out
      have tA2 := nA2.out
      have tA3 := nA3.out
      have tB0 := nB0.out
      have tB1 := nB1.out
      have tB2 := nB2.out
      have tB3 := nB3.out
      go_wp2_with fail
      clear tA0 tA1 tA2 tA3 tB0 tB1 tB2 tB3
      refine (isBelow_any _ _ _ _ _ _ _ _ _ _ _ _ H2.out H3.out B2.out B3.out HD0.out).mono ?_
      rintro e ww2 ⟨rfl, hk⟩
      have z2 := hk.size
      replace nA0 := kc hk nA0
      replace nA1 := kc hk nA1
      replace nA2 := kc hk nA2
      replace nA3 := kc hk nA3
      replace nB0 := kc hk nB0
      replace nB1 := kc hk nB1
      replace nB2 := kc hk nB2
      replace nB3 := kc hk nB3
      replace H1 := Lib.hid (H1.out.kept0 hk)
      replace H2 := Lib.hid (H2.out.kept0 hk)
      replace H3 := Lib.hid (H3.out.kept0 hk)
      replace H4 := Lib.hid (H4.out.kept0 hk)
      replace KT := Lib.hid (KT.out.trans0 hk)
      clear hk
      have tA0 := nA0.out
      have tA1 := nA1.out
      have tA2 := nA2.out
      have tA3 := nA3.out
      have tB0 := nB0.out
      have tB1 := nB1.out
      have tB2 := nB2.out
      have tB3 := nB3.out
      go_wp2_with fail
      clear tA0 tA1 tA2 tA3 tB0 tB1 tB2 tB3
      refine (isAbove_any _ _ _ _ _ _ _ _ _ _ _ _ H1.out H4.out B1.out B4.out HD1.out).mono ?_
      rintro e ww3 ⟨rfl, hk⟩
      have z3 := hk.size
      replace nA0 := kc hk nA0
      replace nA1 := kc hk nA1
      replace nA2 := kc hk nA2
      replace nA3 := kc hk nA3
      replace nB0 := kc hk nB0
      replace nB1 := kc hk nB1
      replace nB2 := kc hk nB2
      replace nB3 := kc hk nB3
      replace H1 := Lib.hid (H1.out.kept0 hk)
      replace H2 := Lib.hid (H2.out.kept0 hk)
      replace H3 := Lib.hid (H3.out.kept0 hk)
      replace H4 := Lib.hid (H4.out.kept0 hk)
      replace KT := Lib.hid (KT.out.trans0 hk)
      clear hk
      go_wp2_with fail
      go_ret
      exact ⟨by rw [HV.out] <;> rfl, KT.out⟩
    · skip
      have HV := Lib.hid (show orderS p xs q ys p' xs' q' ys' = 0 by rw [HE.out, if_neg g1, if_neg h1])
      have HD0 := Lib.hid (show decide (sv q ys < sv p' xs') = false from decide_eq_false g1)
      have HD1 := Lib.hid (show decide (sv q' ys' < sv p xs) = false from decide_eq_false h1)
      clear h1 g1
      go_enter Try.func8, Try.ntmps8
      go_wp2_with fail
      generalize hW : ((w.alloc (.cells #[.bool p, .slice a n c, .bool q, .slice b m d] 28)).alloc (.cells #[.bool p', .slice a' n' c', .bool q', .slice b' m' d'] 28)) = ww0
      have hkk : Kept [] ((w.alloc (.cells #[.bool p, .slice a n c, .bool q, .slice b m d] 28)).alloc (.cells #[.bool p', .slice a' n' c', .bool q', .slice b' m' d'] 28)) ww0 := by rw [hW]; exact Kept.refl _ _
      have zzA : w.heap.size + 1 + 1 = ww0.heap.size := by rw [← hW]; simp
      obtain ⟨⟨nA0, nA1, nA2, nA3⟩, _⟩ := tp4 hkk.peel (g := w.heap.size) (by simp) (by simp)
      obtain ⟨⟨nB0, nB1, nB2, nB3⟩, _⟩ := tp4 hkk (g := w.heap.size + 1) (by simp) (by simp)
      have hk := hkk.peel.peel
      clear hkk hW
      have z0 := hk.size
      have KT := Lib.hid hk
      clear hk
      replace H1 := Lib.hid (H1.out.kept0 KT.out)
      replace H2 := Lib.hid (H2.out.kept0 KT.out)
      replace H3 := Lib.hid (H3.out.kept0 KT.out)
      replace H4 := Lib.hid (H4.out.kept0 KT.out)
      refine (firstSpanFault_two _ _ _ _ _ _ _ _ _ _ _ _ _ _ _ _ _ _ _ _ _ _ (by omega) H1.out H2.out H3.out H4.out).mono ?_
      rintro e ww1 ⟨rfl, hk⟩
      rw [HZ.out]
      have z1 := hk.size
      replace nA0 := kc hk nA0
      replace nA1 := kc hk nA1
      replace nA2 := kc hk nA2
      replace nA3 := kc hk nA3
      replace nB0 := kc hk nB0
      replace nB1 := kc hk nB1
      replace nB2 := kc hk nB2
      replace nB3 := kc hk nB3
      replace H1 := Lib.hid (H1.out.kept0 hk)
      replace H2 := Lib.hid (H2.out.kept0 hk)
      replace H3 := Lib.hid (H3.out.kept0 hk)
      replace H4 := Lib.hid (H4.out.kept0 hk)
      replace KT := Lib.hid (KT.out.trans0 hk)
      clear hk
      have tA0 := nA0.out
      have tA1 := nA1.out
      have tA2 := nA2.out
      have tA3 := nA3.out
      have tB0 := nB0.out
      have tB1 := nB1.out
      have tB2 := nB2.out
      have tB3 := nB3.out
      go_wp2_with fail
      clear tA0 tA1 tA2 tA3 tB0 tB1 tB2 tB3
      refine (isBelow_any _ _ _ _ _ _ _ _ _ _ _ _ H2.out H3.out B2.out B3.out HD0.out).mono ?_
      rintro e ww2 ⟨rfl, hk⟩
      have z2 := hk.size
      replace nA0 := kc hk nA0
      replace nA1 := kc hk nA1
      replace nA2 := kc hk nA2
      replace nA3 := kc hk nA3
      replace nB0 := kc hk nB0
      replace nB1 := kc hk nB1
      replace nB2 := kc hk nB2
      replace nB3 := kc hk nB3
      replace H1 := Lib.hid (H1.out.kept0 hk)
      replace H2 := Lib.hid (H2.out.kept0 hk)
      replace H3 := Lib.hid (H3.out.kept0 hk)
      replace H4 := Lib.hid (H4.out.kept0 hk)
      replace KT := Lib.hid (KT.out.trans0 hk)
      clear hk
      have tA0 := nA0.out
      have tA1 := nA1.out
      have tA2 := nA2.out
      have tA3 := nA3.out
      have tB0 := nB0.out
      have tB1 := nB1.out
      have tB2 := nB2.out
      have tB3 := nB3.out
      go_wp2_with fail
      clear tA0 tA1 tA2 tA3 tB0 tB1 tB2 tB3
      refine (isAbove_any _ _ _ _ _ _ _ _ _ _ _ _ H1.out H4.out B1.out B4.out HD1.out).mono ?_
      rintro e ww3 ⟨rfl, hk⟩
      have z3 := hk.size
      replace nA0 := kc hk nA0
      replace nA1 := kc hk nA1
      replace nA2 := kc hk nA2
      replace nA3 := kc hk nA3
      replace nB0 := kc hk nB0
      replace nB1 := kc hk nB1
      replace nB2 := kc hk nB2
      replace nB3 := kc hk nB3
      replace H1 := Lib.hid (H1.out.kept0 hk)
      replace H2 := Lib.hid (H2.out.kept0 hk)
      replace H3 := Lib.hid (H3.out.kept0 hk)
      replace H4 := Lib.hid (H4.out.kept0 hk)
      replace KT := Lib.hid (KT.out.trans0 hk)
      clear hk
      go_wp2_with fail
      go_ret
      exact ⟨by rw [HV.out] <;> rfl, KT.out⟩
  · skip
    have HV := Lib.hid (show orderS p xs q ys p' xs' q' ys' = 0 from if_neg hz)
    generalize hf : spanFault2 p xs q ys p' xs' q' ys' = f at *
    have hne : (f == 0) = false := by rw [beq_eq_false_iff_ne]; exact hz
    have HZ := Lib.hid hf
    clear hf hz
    go_enter Try.func8, Try.ntmps8
    go_wp2_with fail
    generalize hW : ((w.alloc (.cells #[.bool p, .slice a n c, .bool q, .slice b m d] 28)).alloc (.cells #[.bool p', .slice a' n' c', .bool q', .slice b' m' d'] 28)) = ww0
    have hkk : Kept [] ((w.alloc (.cells #[.bool p, .slice a n c, .bool q, .slice b m d] 28)).alloc (.cells #[.bool p', .slice a' n' c', .bool q', .slice b' m' d'] 28)) ww0 := by rw [hW]; exact Kept.refl _ _
    have zzA : w.heap.size + 1 + 1 = ww0.heap.size := by rw [← hW]; simp
    obtain ⟨⟨nA0, nA1, nA2, nA3⟩, _⟩ := tp4 hkk.peel (g := w.heap.size) (by simp) (by simp)
    obtain ⟨⟨nB0, nB1, nB2, nB3⟩, _⟩ := tp4 hkk (g := w.heap.size + 1) (by simp) (by simp)
    have hk := hkk.peel.peel
    clear hkk hW
    have z0 := hk.size
    have KT := Lib.hid hk
    clear hk
    replace H1 := Lib.hid (H1.out.kept0 KT.out)
    replace H2 := Lib.hid (H2.out.kept0 KT.out)
    replace H3 := Lib.hid (H3.out.kept0 KT.out)
    replace H4 := Lib.hid (H4.out.kept0 KT.out)
    refine (firstSpanFault_two _ _ _ _ _ _ _ _ _ _ _ _ _ _ _ _ _ _ _ _ _ _ (by omega) H1.out H2.out H3.out H4.out).mono ?_
    rintro e ww1 ⟨rfl, hk⟩
    rw [HZ.out]
    have z1 := hk.size
    replace nA0 := kc hk nA0
    replace nA1 := kc hk nA1
    replace nA2 := kc hk nA2
    replace nA3 := kc hk nA3
    replace nB0 := kc hk nB0
    replace nB1 := kc hk nB1
    replace nB2 := kc hk nB2
    replace nB3 := kc hk nB3
    replace H1 := Lib.hid (H1.out.kept0 hk)
    replace H2 := Lib.hid (H2.out.kept0 hk)
    replace H3 := Lib.hid (H3.out.kept0 hk)
    replace H4 := Lib.hid (H4.out.kept0 hk)
    replace KT := Lib.hid (KT.out.trans0 hk)
    clear hk
    go_wp2_with fail
    go_ret
    exact ⟨by rw [HV.out] <;> rfl, KT.out⟩

set_option maxHeartbeats 8000000 in
set_option maxRecDepth 20000 in
theorem sOrderSpan_any (p q : Bool) (a b : Option Addr) (n c m d : Nat) (xs ys : List Int) (p' q' : Bool) (a' b' : Option Addr) (n' c' m' d' : Nat) (xs' ys' : List Int) (w : World) (h1 : Sl w a n c xs) (h2 : Sl w b m d ys) (h3 : Sl w a' n' c' xs') (h4 : Sl w b' m' d' ys') :
    Calls Try.prog 13 #[.agg #[.bool p, .slice a n c, .bool q, .slice b m d], .agg #[.bool p', .slice a' n' c', .bool q', .slice b' m' d']] w (Ans w (.int .i64 (orderS p xs q ys p' xs' q' ys'))) := by
  have H1 := Lib.hid h1
  have H2 := Lib.hid h2
  have H3 := Lib.hid h3
  have H4 := Lib.hid h4
  clear h1 h2 h3 h4
  by_cases hz : spanFault2 p xs q ys p' xs' q' ys' = 0
  · skip
    have HE := Lib.hid (show orderS p xs q ys p' xs' q' ys' = if sv q ys < sv p' xs' then -1 else if sv q' ys' < sv p xs then 1 else 0 from if_pos hz)
    have HZ := Lib.hid hz
    obtain ⟨ox, oy⟩ := spanFault2_zero hz
    have OX := Lib.hid ox
    have OY := Lib.hid oy
    clear ox oy hz
    have B1 := Lib.hid OX.out.lo
    have B2 := Lib.hid OX.out.hi
    have B3 := Lib.hid OY.out.lo
    have B4 := Lib.hid OY.out.hi
    by_cases h1 : sv q ys < sv p' xs'
    · skip
      have HV := Lib.hid (show orderS p xs q ys p' xs' q' ys' = -1 by rw [HE.out, if_pos h1])
      have HD0 := Lib.hid (show decide (sv q ys < sv p' xs') = true from decide_eq_true h1)
      obtain ⟨v0, hv⟩ : ∃ v : Int, v = cmpV (sv q ys) (sv p' xs') := ⟨_, rfl⟩
      have hd0 : decide (v0 < 0) = true := by rw [hv, cmpV_neg]; exact HD0.out
      have HV0 := Lib.hid hv
      clear hv
      clear h1
      go_enter Try.func13, Try.ntmps13
      go_wp2_with fail
      generalize hW : ((w.alloc (.cells #[.bool p, .slice a n c, .bool q, .slice b m d] 28)).alloc (.cells #[.bool p', .slice a' n' c', .bool q', .slice b' m' d'] 28)) = ww0
      have hkk : Kept [] ((w.alloc (.cells #[.bool p, .slice a n c, .bool q, .slice b m d] 28)).alloc (.cells #[.bool p', .slice a' n' c', .bool q', .slice b' m' d'] 28)) ww0 := by rw [hW]; exact Kept.refl _ _
      have zzA : w.heap.size + 1 + 1 = ww0.heap.size := by rw [← hW]; simp
      obtain ⟨⟨nA0, nA1, nA2, nA3⟩, _⟩ := tp4 hkk.peel (g := w.heap.size) (by simp) (by simp)
      obtain ⟨⟨nB0, nB1, nB2, nB3⟩, _⟩ := tp4 hkk (g := w.heap.size + 1) (by simp) (by simp)
      have hk := hkk.peel.peel
      clear hkk hW
      have z0 := hk.size
      have KT := Lib.hid hk
      clear hk
      replace H1 := Lib.hid (H1.out.kept0 KT.out)
      replace H2 := Lib.hid (H2.out.kept0 KT.out)
      replace H3 := Lib.hid (H3.out.kept0 KT.out)
      replace H4 := Lib.hid (H4.out.kept0 KT.out)
      refine (l3Two_any _ _ _ _ _ _ _ _ _ _ _ _ _ _ _ _ _ _ _ _ _ H1.out H2.out H3.out H4.out).mono ?_
      rintro e ww1 ⟨rfl, hk⟩
      rw [HZ.out]
      have z1 := hk.size
      replace nA0 := kc hk nA0
      replace nA1 := kc hk nA1
      replace nA2 := kc hk nA2
      replace nA3 := kc hk nA3
      replace nB0 := kc hk nB0
      replace nB1 := kc hk nB1
      replace nB2 := kc hk nB2
      replace nB3 := kc hk nB3
      replace H1 := Lib.hid (H1.out.kept0 hk)
      replace H2 := Lib.hid (H2.out.kept0 hk)
      replace H3 := Lib.hid (H3.out.kept0 hk)
      replace H4 := Lib.hid (H4.out.kept0 hk)
      replace KT := Lib.hid (KT.out.trans0 hk)
      clear hk
      have tA0 := nA0.out
      have tA1 := nA1.out
      have tA2 := nA2.out
      have tA3 := nA3.out
      have tB0 := nB0.out
      have tB1 := nB1.out
      have tB2 := nB2.out
      have tB3 := nB3.out
      go_wp2_with fail
      clear tA0 tA1 tA2 tA3 tB0 tB1 tB2 tB3
      refine (l2Compare_any _ _ _ _ _ _ _ _ _ _ _ B2.out.n40 B3.out.n40 H2.out H3.out).mono ?_
      rintro e ww2 ⟨rfl, hk⟩
      rw [← HV0.out]
      have z2 := hk.size
      replace nA0 := kc hk nA0
      replace nA1 := kc hk nA1
      replace nA2 := kc hk nA2
      replace nA3 := kc hk nA3
      replace nB0 := kc hk nB0
      replace nB1 := kc hk nB1
      replace nB2 := kc hk nB2
      replace nB3 := kc hk nB3
      replace H1 := Lib.hid (H1.out.kept0 hk)
      replace H2 := Lib.hid (H2.out.kept0 hk)
      replace H3 := Lib.hid (H3.out.kept0 hk)
      replace H4 := Lib.hid (H4.out.kept0 hk)
      replace KT := Lib.hid (KT.out.trans0 hk)
      clear hk
      go_wp2_with fail
      go_ret
      exact ⟨by rw [HV.out] <;> rfl, KT.out⟩
    have g1 := h1
    clear h1
    by_cases h1 : sv q' ys' < sv p xs
    · skip
      have HV := Lib.hid (show orderS p xs q ys p' xs' q' ys' = 1 by rw [HE.out, if_neg g1, if_pos h1])
      have HD0 := Lib.hid (show decide (sv q ys < sv p' xs') = false from decide_eq_false g1)
      obtain ⟨v0, hv⟩ : ∃ v : Int, v = cmpV (sv q ys) (sv p' xs') := ⟨_, rfl⟩
      have hd0 : decide (v0 < 0) = false := by rw [hv, cmpV_neg]; exact HD0.out
      have HV0 := Lib.hid hv
      clear hv
      have HD1 := Lib.hid (show decide (sv q' ys' < sv p xs) = true from decide_eq_true h1)
      obtain ⟨v1, hv⟩ : ∃ v : Int, v = cmpV (sv p xs) (sv q' ys') := ⟨_, rfl⟩
      have hd1 : decide (0 < v1) = true := by rw [hv, cmpV_pos]; exact HD1.out
      have HV1 := Lib.hid hv
      clear hv
      clear h1 g1
      go_enter Try.func13, Try.ntmps13
      go_wp2_with fail
      generalize hW : ((w.alloc (.cells #[.bool p, .slice a n c, .bool q, .slice b m d] 28)).alloc (.cells #[.bool p', .slice a' n' c', .bool q', .slice b' m' d'] 28)) = ww0
      have hkk : Kept [] ((w.alloc (.cells #[.bool p, .slice a n c, .bool q, .slice b m d] 28)).alloc (.cells #[.bool p', .slice a' n' c', .bool q', .slice b' m' d'] 28)) ww0 := by rw [hW]; exact Kept.refl _ _
      have zzA : w.heap.size + 1 + 1 = ww0.heap.size := by rw [← hW]; simp
      obtain ⟨⟨nA0, nA1, nA2, nA3⟩, _⟩ := tp4 hkk.peel (g := w.heap.size) (by simp) (by simp)
      obtain ⟨⟨nB0, nB1, nB2, nB3⟩, _⟩ := tp4 hkk (g := w.heap.size + 1) (by simp) (by simp)
      have hk := hkk.peel.peel
      clear hkk hW
      have z0 := hk.size
      have KT := Lib.hid hk
      clear hk
      replace H1 := Lib.hid (H1.out.kept0 KT.out)
      replace H2 := Lib.hid (H2.out.kept0 KT.out)
      replace H3 := Lib.hid (H3.out.kept0 KT.out)
      replace H4 := Lib.hid (H4.out.kept0 KT.out)
      refine (l3Two_any _ _ _ _ _ _ _ _ _ _ _ _ _ _ _ _ _ _ _ _ _ H1.out H2.out H3.out H4.out).mono ?_
      rintro e ww1 ⟨rfl, hk⟩
      rw [HZ.out]
      have z1 := hk.size
      replace nA0 := kc hk nA0
      replace nA1 := kc hk nA1
      replace nA2 := kc hk nA2
      replace nA3 := kc hk nA3
      replace nB0 := kc hk nB0
      replace nB1 := kc hk nB1
      replace nB2 := kc hk nB2
      replace nB3 := kc hk nB3
      replace H1 := Lib.hid (H1.out.kept0 hk)
      replace H2 := Lib.hid (H2.out.kept0 hk)
      replace H3 := Lib.hid (H3.out.kept0 hk)
      replace H4 := Lib.hid (H4.out.kept0 hk)
      replace KT := Lib.hid (KT.out.trans0 hk)
      clear hk
      have tA0 := nA0.out
      have tA1 := nA1.out
      have tA2 := nA2.out
      have tA3 := nA3.out
      have tB0 := nB0.out
      have tB1 := nB1.out
      have tB2 := nB2.out
      have tB3 := nB3.out
      go_wp2_with fail
      clear tA0 tA1 tA2 tA3 tB0 tB1 tB2 tB3
      refine (l2Compare_any _ _ _ _ _ _ _ _ _ _ _ B2.out.n40 B3.out.n40 H2.out H3.out).mono ?_
      rintro e ww2 ⟨rfl, hk⟩
      rw [← HV0.out]
      have z2 := hk.size
      replace nA0 := kc hk nA0
      replace nA1 := kc hk nA1
      replace nA2 := kc hk nA2
      replace nA3 := kc hk nA3
      replace nB0 := kc hk nB0
      replace nB1 := kc hk nB1
      replace nB2 := kc hk nB2
      replace nB3 := kc hk nB3
      replace H1 := Lib.hid (H1.out.kept0 hk)
      replace H2 := Lib.hid (H2.out.kept0 hk)
      replace H3 := Lib.hid (H3.out.kept0 hk)
      replace H4 := Lib.hid (H4.out.kept0 hk)
      replace KT := Lib.hid (KT.out.trans0 hk)
      clear hk
      have tA0 := nA0.out
      have tA1 := nA1.out
      have tA2 := nA2.out
      have tA3 := nA3.out
      have tB0 := nB0.out
      have tB1 := nB1.out
      have tB2 := nB2.out
      have tB3 := nB3.out
      go_wp2_with fail
      clear tA0 tA1 tA2 tA3 tB0 tB1 tB2 tB3
      refine (l2Compare_any _ _ _ _ _ _ _ _ _ _ _ B1.out.n40 B4.out.n40 H1.out H4.out).mono ?_
      rintro e ww3 ⟨rfl, hk⟩
      rw [← HV1.out]
      have z3 := hk.size
      replace nA0 := kc hk nA0
      replace nA1 := kc hk nA1
      replace nA2 := kc hk nA2
      replace nA3 := kc hk nA3
      replace nB0 := kc hk nB0
      replace nB1 := kc hk nB1
      replace nB2 := kc hk nB2
      replace nB3 := kc hk nB3
      replace H1 := Lib.hid (H1.out.kept0 hk)
      replace H2 := Lib.hid (H2.out.kept0 hk)
      replace H3 := Lib.hid (H3.out.kept0 hk)
      replace H4 := Lib.hid (H4.out.kept0 hk)
      replace KT := Lib.hid (KT.out.trans0 hk)
      clear hk
      go_wp2_with fail
      go_ret
      exact ⟨by rw [HV.out] <;> rfl, KT.out⟩
    · skip
      have HV := Lib.hid (show orderS p xs q ys p' xs' q' ys' = 0 by rw [HE.out, if_neg g1, if_neg h1])
      have HD0 := Lib.hid (show decide (sv q ys < sv p' xs') = false from decide_eq_false g1)
      obtain ⟨v0, hv⟩ : ∃ v : Int, v = cmpV (sv q ys) (sv p' xs') := ⟨_, rfl⟩
      have hd0 : decide (v0 < 0) = false := by rw [hv, cmpV_neg]; exact HD0.out
      have HV0 := Lib.hid hv
      clear hv
      have HD1 := Lib.hid (show decide (sv q' ys' < sv p xs) = false from decide_eq_false h1)
      obtain ⟨v1, hv⟩ : ∃ v : Int, v = cmpV (sv p xs) (sv q' ys') := ⟨_, rfl⟩
      have hd1 : decide (0 < v1) = false := by rw [hv, cmpV_pos]; exact HD1.out
      have HV1 := Lib.hid hv
      clear hv
      clear h1 g1
      go_enter Try.func13, Try.ntmps13
      go_wp2_with fail
      generalize hW : ((w.alloc (.cells #[.bool p, .slice a n c, .bool q, .slice b m d] 28)).alloc (.cells #[.bool p', .slice a' n' c', .bool q', .slice b' m' d'] 28)) = ww0
      have hkk : Kept [] ((w.alloc (.cells #[.bool p, .slice a n c, .bool q, .slice b m d] 28)).alloc (.cells #[.bool p', .slice a' n' c', .bool q', .slice b' m' d'] 28)) ww0 := by rw [hW]; exact Kept.refl _ _
      have zzA : w.heap.size + 1 + 1 = ww0.heap.size := by rw [← hW]; simp
      obtain ⟨⟨nA0, nA1, nA2, nA3⟩, _⟩ := tp4 hkk.peel (g := w.heap.size) (by simp) (by simp)
      obtain ⟨⟨nB0, nB1, nB2, nB3⟩, _⟩ := tp4 hkk (g := w.heap.size + 1) (by simp) (by simp)
      have hk := hkk.peel.peel
      clear hkk hW
      have z0 := hk.size
      have KT := Lib.hid hk
      clear hk
      replace H1 := Lib.hid (H1.out.kept0 KT.out)
      replace H2 := Lib.hid (H2.out.kept0 KT.out)
      replace H3 := Lib.hid (H3.out.kept0 KT.out)
      replace H4 := Lib.hid (H4.out.kept0 KT.out)
      refine (l3Two_any _ _ _ _ _ _ _ _ _ _ _ _ _ _ _ _ _ _ _ _ _ H1.out H2.out H3.out H4.out).mono ?_
      rintro e ww1 ⟨rfl, hk⟩
      rw [HZ.out]
      have z1 := hk.size
      replace nA0 := kc hk nA0
      replace nA1 := kc hk nA1
      replace nA2 := kc hk nA2
      replace nA3 := kc hk nA3
      replace nB0 := kc hk nB0
      replace nB1 := kc hk nB1
      replace nB2 := kc hk nB2
      replace nB3 := kc hk nB3
      replace H1 := Lib.hid (H1.out.kept0 hk)
      replace H2 := Lib.hid (H2.out.kept0 hk)
      replace H3 := Lib.hid (H3.out.kept0 hk)
      replace H4 := Lib.hid (H4.out.kept0 hk)
      replace KT := Lib.hid (KT.out.trans0 hk)
      clear hk
      have tA0 := nA0.out
      have tA1 := nA1.out
      have tA2 := nA2.out
      have tA3 := nA3.out
      have tB0 := nB0.out
      have tB1 := nB1.out
      have tB2 := nB2.out
      have tB3 := nB3.out
      go_wp2_with fail
      clear tA0 tA1 tA2 tA3 tB0 tB1 tB2 tB3
      refine (l2Compare_any _ _ _ _ _ _ _ _ _ _ _ B2.out.n40 B3.out.n40 H2.out H3.out).mono ?_
      rintro e ww2 ⟨rfl, hk⟩
      rw [← HV0.out]
      have z2 := hk.size
      replace nA0 := kc hk nA0
      replace nA1 := kc hk nA1
      replace nA2 := kc hk nA2
      replace nA3 := kc hk nA3
      replace nB0 := kc hk nB0
      replace nB1 := kc hk nB1
      replace nB2 := kc hk nB2
      replace nB3 := kc hk nB3
      replace H1 := Lib.hid (H1.out.kept0 hk)
      replace H2 := Lib.hid (H2.out.kept0 hk)
      replace H3 := Lib.hid (H3.out.kept0 hk)
      replace H4 := Lib.hid (H4.out.kept0 hk)
      replace KT := Lib.hid (KT.out.trans0 hk)
      clear hk
      have tA0 := nA0.out
      have tA1 := nA1.out
      have tA2 := nA2.out
      have tA3 := nA3.out
      have tB0 := nB0.out
      have tB1 := nB1.out
      have tB2 := nB2.out
      have tB3 := nB3.out
      go_wp2_with fail
      clear tA0 tA1 tA2 tA3 tB0 tB1 tB2 tB3
      refine (l2Compare_any _ _ _ _ _ _ _ _ _ _ _ B1.out.n40 B4.out.n40 H1.out H4.out).mono ?_
      rintro e ww3 ⟨rfl, hk⟩
      rw [← HV1.out]
      have z3 := hk.size
      replace nA0 := kc hk nA0
      replace nA1 := kc hk nA1
      replace nA2 := kc hk nA2
      replace nA3 := kc hk nA3
      replace nB0 := kc hk nB0
      replace nB1 := kc hk nB1
      replace nB2 := kc hk nB2
      replace nB3 := kc hk nB3
      replace H1 := Lib.hid (H1.out.kept0 hk)
      replace H2 := Lib.hid (H2.out.kept0 hk)
      replace H3 := Lib.hid (H3.out.kept0 hk)
      replace H4 := Lib.hid (H4.out.kept0 hk)
      replace KT := Lib.hid (KT.out.trans0 hk)
      clear hk
      go_wp2_with fail
      go_ret
      exact ⟨by rw [HV.out] <;> rfl, KT.out⟩
  · skip
    have HV := Lib.hid (show orderS p xs q ys p' xs' q' ys' = 0 from if_neg hz)
    generalize hf : spanFault2 p xs q ys p' xs' q' ys' = f at *
    have hne : (f == 0) = false := by rw [beq_eq_false_iff_ne]; exact hz
    have HZ := Lib.hid hf
    clear hf hz
    go_enter Try.func13, Try.ntmps13
    go_wp2_with fail
    generalize hW : ((w.alloc (.cells #[.bool p, .slice a n c, .bool q, .slice b m d] 28)).alloc (.cells #[.bool p', .slice a' n' c', .bool q', .slice b' m' d'] 28)) = ww0
    have hkk : Kept [] ((w.alloc (.cells #[.bool p, .slice a n c, .bool q, .slice b m d] 28)).alloc (.cells #[.bool p', .slice a' n' c', .bool q', .slice b' m' d'] 28)) ww0 := by rw [hW]; exact Kept.refl _ _
    have zzA : w.heap.size + 1 + 1 = ww0.heap.size := by rw [← hW]; simp
    obtain ⟨⟨nA0, nA1, nA2, nA3⟩, _⟩ := tp4 hkk.peel (g := w.heap.size) (by simp) (by simp)
    obtain ⟨⟨nB0, nB1, nB2, nB3⟩, _⟩ := tp4 hkk (g := w.heap.size + 1) (by simp) (by simp)
    have hk := hkk.peel.peel
    clear hkk hW
    have z0 := hk.size
    have KT := Lib.hid hk
    clear hk
    replace H1 := Lib.hid (H1.out.kept0 KT.out)
    replace H2 := Lib.hid (H2.out.kept0 KT.out)
    replace H3 := Lib.hid (H3.out.kept0 KT.out)
    replace H4 := Lib.hid (H4.out.kept0 KT.out)
    refine (l3Two_any _ _ _ _ _ _ _ _ _ _ _ _ _ _ _ _ _ _ _ _ _ H1.out H2.out H3.out H4.out).mono ?_
    rintro e ww1 ⟨rfl, hk⟩
    rw [HZ.out]
    have z1 := hk.size
    replace nA0 := kc hk nA0
    replace nA1 := kc hk nA1
    replace nA2 := kc hk nA2
    replace nA3 := kc hk nA3
    replace nB0 := kc hk nB0
    replace nB1 := kc hk nB1
    replace nB2 := kc hk nB2
    replace nB3 := kc hk nB3
    replace H1 := Lib.hid (H1.out.kept0 hk)
    replace H2 := Lib.hid (H2.out.kept0 hk)
    replace H3 := Lib.hid (H3.out.kept0 hk)
    replace H4 := Lib.hid (H4.out.kept0 hk)
    replace KT := Lib.hid (KT.out.trans0 hk)
    clear hk
    go_wp2_with fail
    go_ret
    exact ⟨by rw [HV.out] <;> rfl, KT.out⟩

end Go.Proofs.Ytlhiahhpmjiioaa
