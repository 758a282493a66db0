/-
  Contracts of CompareBigs, the program's and the model's. Condition: the limbs lie in blocks of numbers.
-/
import Derived.Test.YtlhiahhpmjiioaaBigE
namespace Go.Proofs.Ytlhiahhpmjiioaa
open Go.RowKit

theorem cmpV_sub (x y : Int) : cmpV x y = if x - y = 0 then 0 else if x - y < 0 then -1 else 1 := by
  unfold cmpV
  by_cases h1 : x < y
  · rw [if_pos h1, if_neg (by omega), if_pos (by omega)]
  · by_cases h2 : y < x
    · rw [if_neg h1, if_pos h2, if_neg (by omega), if_neg (by omega)]
    · rw [if_neg h1, if_neg h2, if_pos (by omega)]

set_option maxHeartbeats 1000000 in
theorem l2Compare_any (p q : Bool) (a b : Option Addr) (n c m d : Nat) (xs ys : List Int) (w : World) (hx : Nat40 xs) (hy : Nat40 ys) (h : Sl w a n c xs) (h' : Sl w b m d ys) :
    Calls Try.prog 34 #[.agg #[.bool p, .slice a n c], .agg #[.bool q, .slice b m d]] w (Ans w (.int .i64 (cmpV (sv p xs) (sv q ys)))) := by
  have HS := Lib.hid h
  have HS' := Lib.hid h'
  have HX := Lib.hid hx
  have HY := Lib.hid hy
  clear h h' hx hy
  have k0 : Kept [] w ((w.alloc (.cells #[.bool p, .slice a n c] 26)).alloc (.cells #[.bool q, .slice b m d] 26)) := ((Kept.refl [] w).alloc _).alloc _
  have K0 := Lib.hid k0
  clear k0
  rw [cmpV_sub]
  obtain ⟨z, hz⟩ : ∃ z, z = sv p xs - sv q ys := ⟨_, rfl⟩
  rw [← hz]
  have HZ := Lib.hid hz
  clear hz
  by_cases h0 : z = 0
  · rw [if_pos h0]
    have hl : (mag z).length = 0 := by rw [h0, mag_zero]; rfl
    have HL := Lib.hid hl
    clear h0 hl
    go_enter Try.func34, Try.ntmps34
    go_wp2_with fail
    refine (l2Sub_any _ _ _ _ _ _ _ _ _ _ _ HX.out HY.out (HS.out.kept0 K0.out) (HS'.out.kept0 K0.out)).mono ?_
    rintro e w1 ⟨a2, x2, rfl, hs2, hf2, hk⟩
    have HK := Lib.hid (K0.out.trans0 hk)
    clear hs2 hf2 hk
    rw [← HZ.out]
    rw [HL.out]
    go_wp2_with fail
    go_ret
    exact ⟨rfl, HK.out.alloc _⟩
  · rw [if_neg h0]
    have hl : ((mag z).length : Int) ≠ 0 := by
      intro e
      have h1 : mag z = [] := List.eq_nil_of_length_eq_zero (by omega)
      have h2 := sv_mag z
      rw [h1] at h2
      exact h0 (by rw [← h2]; unfold sv; cases isNeg z <;> rfl)
    have hl' : (((mag z).length : Int) == 0) = false := by rw [beq_eq_false_iff_ne]; exact hl
    generalize hL : (mag z).length = L at *
    have HL := Lib.hid hL
    clear hl
    by_cases hn : z < 0
    · rw [if_pos hn]
      have hg : isNeg z = true := isNeg_yes hn
      have HG := Lib.hid hg
      clear hn hg h0 hL
      go_enter Try.func34, Try.ntmps34
      go_wp2_with fail
      refine (l2Sub_any _ _ _ _ _ _ _ _ _ _ _ HX.out HY.out (HS.out.kept0 K0.out) (HS'.out.kept0 K0.out)).mono ?_
      rintro e w1 ⟨a2, x2, rfl, hs2, hf2, hk⟩
      have HK := Lib.hid (K0.out.trans0 hk)
      clear hs2 hf2 hk
      rw [← HZ.out]
      rw [HL.out, HG.out]
      go_wp2_with fail
      go_ret
      exact ⟨rfl, HK.out.alloc _⟩
    · rw [if_neg hn]
      have hg : isNeg z = false := isNeg_no (by omega)
      have HG := Lib.hid hg
      clear hn hg h0 hL
      go_enter Try.func34, Try.ntmps34
      go_wp2_with fail
      refine (l2Sub_any _ _ _ _ _ _ _ _ _ _ _ HX.out HY.out (HS.out.kept0 K0.out) (HS'.out.kept0 K0.out)).mono ?_
      rintro e w1 ⟨a2, x2, rfl, hs2, hf2, hk⟩
      have HK := Lib.hid (K0.out.trans0 hk)
      clear hs2 hf2 hk
      rw [← HZ.out]
      rw [HL.out, HG.out]
      go_wp2_with fail
      go_ret
      exact ⟨rfl, HK.out.alloc _⟩

theorem cmp_nn {x y : Int} : cmpV (-x) (-y) = cmpV y x := by
  unfold cmpV
  by_cases h1 : y < x
  · rw [if_pos (by omega), if_pos h1]
  · by_cases h2 : x < y
    · rw [if_neg (by omega), if_pos (by omega), if_neg h1, if_pos h2]
    · rw [if_neg (by omega), if_neg (by omega), if_neg h1, if_neg h2]
theorem CompareNats_ok (a b : Option Addr) (n c m c' : Nat) (xs ys : List Int) (w : World) (h : Rd w a n xs) (h' : Rd w b m ys) (hx : Nat40 xs) (hy : Nat40 ys) :
    Calls Try.prog 59 #[.slice a n c, .slice b m c'] w (Ans w (.int .i64 (cmpV (val xs) (val ys)))) := by
  have := CompareNats_any a b n c m c' xs ys w h h'
  rwa [if_pos (by rw [fault2_second (nat40_fault hx)]; exact nat40_fault hy)] at this
theorem BigOk.pos {xs : List Int} (h : BigOk true xs) : 0 < val xs := (canon_nonneg h.n40.canon).2 (fun e => h.sign rfl (by rw [e]; rfl))

set_option maxHeartbeats 1000000 in
theorem CompareBigs_f_f (a b : Option Addr) (n c m d : Nat) (xs ys : List Int) (w : World) (h : Sl w a n c xs) (h' : Sl w b m d ys) (hx : BigOk false xs) (hy : BigOk false ys) :
    Calls Try.prog 48 #[.agg #[.bool false, .slice a n c], .agg #[.bool false, .slice b m d]] w (Ans w (.int .i64 (cmpV (sv false xs) (sv false ys)))) := by
  have HS := Lib.hid h
  have HS' := Lib.hid h'
  have hz : bigFault2 false xs false ys = 0 := by rw [bigFault2_second hx.fault]; exact hy.fault
  have hz' := Lib.hid hz
  have HX := Lib.hid hx.n40
  have HY := Lib.hid hy.n40
  have he : cmpV (sv false xs) (sv false ys) = cmpV (val xs) (val ys) := by rfl
  rw [he]
  clear h h' hz hx hy he
  have k0 : Kept [] w ((w.alloc (.cells #[.bool false, .slice a n c] 26)).alloc (.cells #[.bool false, .slice b m d] 26)) := ((Kept.refl [] w).alloc _).alloc _
  have K0 := Lib.hid k0
  clear k0
  go_enter Try.func48, Try.ntmps48
  go_wp2_with fail
  refine (firstBigFault_two _ _ _ _ _ _ _ _ _ _ _ _ (by simp) (HS.out.rd.kept0 K0.out) (HS'.out.rd.kept0 K0.out)).mono ?_
  rintro e w1 ⟨rfl, hk⟩
  rw [hz'.out]
  have c00 := (hk.peel.top (g := w.heap.size) (by simp) (by simp) 0 (v := .bool false) rfl).1
  have c01 := (hk.peel.top (g := w.heap.size) (by simp) (by simp) 1 (v := .slice a n c) rfl).1
  have c10 := (hk.top (g := w.heap.size + 1) (by simp) (by simp) 0 (v := .bool false) rfl).1
  have c11 := (hk.top (g := w.heap.size + 1) (by simp) (by simp) 1 (v := .slice b m d) rfl).1
  have HK := Lib.hid (K0.out.trans0 hk)
  clear hk
  go_wp2_with fail
  refine (CompareNats_ok _ _ _ _ _ _ _ _ _ (HS.out.rd.kept0 HK.out) (HS'.out.rd.kept0 HK.out) HX.out HY.out).mono ?_
  rintro e w2 ⟨rfl, hk⟩
  have HK2 := Lib.hid (HK.out.trans0 hk)
  clear hk
  go_wp2_with fail
  go_ret
  exact ⟨rfl, HK2.out⟩

set_option maxHeartbeats 1000000 in
theorem CompareBigs_t_t (a b : Option Addr) (n c m d : Nat) (xs ys : List Int) (w : World) (h : Sl w a n c xs) (h' : Sl w b m d ys) (hx : BigOk true xs) (hy : BigOk true ys) :
    Calls Try.prog 48 #[.agg #[.bool true, .slice a n c], .agg #[.bool true, .slice b m d]] w (Ans w (.int .i64 (cmpV (sv true xs) (sv true ys)))) := by
  have HS := Lib.hid h
  have HS' := Lib.hid h'
  have hz : bigFault2 true xs true ys = 0 := by rw [bigFault2_second hx.fault]; exact hy.fault
  have hz' := Lib.hid hz
  have HX := Lib.hid hx.n40
  have HY := Lib.hid hy.n40
  have he : cmpV (sv true xs) (sv true ys) = cmpV (val ys) (val xs) := by exact cmp_nn
  rw [he]
  clear h h' hz hx hy he
  have k0 : Kept [] w ((w.alloc (.cells #[.bool true, .slice a n c] 26)).alloc (.cells #[.bool true, .slice b m d] 26)) := ((Kept.refl [] w).alloc _).alloc _
  have K0 := Lib.hid k0
  clear k0
  go_enter Try.func48, Try.ntmps48
  go_wp2_with fail
  refine (firstBigFault_two _ _ _ _ _ _ _ _ _ _ _ _ (by simp) (HS.out.rd.kept0 K0.out) (HS'.out.rd.kept0 K0.out)).mono ?_
  rintro e w1 ⟨rfl, hk⟩
  rw [hz'.out]
  have c00 := (hk.peel.top (g := w.heap.size) (by simp) (by simp) 0 (v := .bool true) rfl).1
  have c01 := (hk.peel.top (g := w.heap.size) (by simp) (by simp) 1 (v := .slice a n c) rfl).1
  have c10 := (hk.top (g := w.heap.size + 1) (by simp) (by simp) 0 (v := .bool true) rfl).1
  have c11 := (hk.top (g := w.heap.size + 1) (by simp) (by simp) 1 (v := .slice b m d) rfl).1
  have HK := Lib.hid (K0.out.trans0 hk)
  clear hk
  go_wp2_with fail
  refine (CompareNats_ok _ _ _ _ _ _ _ _ _ (HS'.out.rd.kept0 HK.out) (HS.out.rd.kept0 HK.out) HY.out HX.out).mono ?_
  rintro e w2 ⟨rfl, hk⟩
  have HK2 := Lib.hid (HK.out.trans0 hk)
  clear hk
  go_wp2_with fail
  go_ret
  exact ⟨rfl, HK2.out⟩

set_option maxHeartbeats 1000000 in
theorem CompareBigs_t_f (a b : Option Addr) (n c m d : Nat) (xs ys : List Int) (w : World) (h : Sl w a n c xs) (h' : Sl w b m d ys) (hx : BigOk true xs) (hy : BigOk false ys) :
    Calls Try.prog 48 #[.agg #[.bool true, .slice a n c], .agg #[.bool false, .slice b m d]] w (Ans w (.int .i64 (cmpV (sv true xs) (sv false ys)))) := by
  have HS := Lib.hid h
  have HS' := Lib.hid h'
  have hz : bigFault2 true xs false ys = 0 := by rw [bigFault2_second hx.fault]; exact hy.fault
  have hz' := Lib.hid hz
  have HX := Lib.hid hx.n40
  have HY := Lib.hid hy.n40
  have he : cmpV (sv true xs) (sv false ys) = -1 := by have h1 := hx.pos; have h2 := (canon_nonneg hy.n40.canon).1; exact cmpV_lt (by simp [sv, sg]; omega)
  rw [he]
  clear h h' hz hx hy he
  have k0 : Kept [] w ((w.alloc (.cells #[.bool true, .slice a n c] 26)).alloc (.cells #[.bool false, .slice b m d] 26)) := ((Kept.refl [] w).alloc _).alloc _
  have K0 := Lib.hid k0
  clear k0
  go_enter Try.func48, Try.ntmps48
  go_wp2_with fail
  refine (firstBigFault_two _ _ _ _ _ _ _ _ _ _ _ _ (by simp) (HS.out.rd.kept0 K0.out) (HS'.out.rd.kept0 K0.out)).mono ?_
  rintro e w1 ⟨rfl, hk⟩
  rw [hz'.out]
  have c00 := (hk.peel.top (g := w.heap.size) (by simp) (by simp) 0 (v := .bool true) rfl).1
  have c01 := (hk.peel.top (g := w.heap.size) (by simp) (by simp) 1 (v := .slice a n c) rfl).1
  have c10 := (hk.top (g := w.heap.size + 1) (by simp) (by simp) 0 (v := .bool false) rfl).1
  have c11 := (hk.top (g := w.heap.size + 1) (by simp) (by simp) 1 (v := .slice b m d) rfl).1
  have HK := Lib.hid (K0.out.trans0 hk)
  clear hk
  go_wp2_with fail
  go_ret
  exact ⟨rfl, HK.out⟩

set_option maxHeartbeats 1000000 in
theorem CompareBigs_f_t (a b : Option Addr) (n c m d : Nat) (xs ys : List Int) (w : World) (h : Sl w a n c xs) (h' : Sl w b m d ys) (hx : BigOk false xs) (hy : BigOk true ys) :
    Calls Try.prog 48 #[.agg #[.bool false, .slice a n c], .agg #[.bool true, .slice b m d]] w (Ans w (.int .i64 (cmpV (sv false xs) (sv true ys)))) := by
  have HS := Lib.hid h
  have HS' := Lib.hid h'
  have hz : bigFault2 false xs true ys = 0 := by rw [bigFault2_second hx.fault]; exact hy.fault
  have hz' := Lib.hid hz
  have HX := Lib.hid hx.n40
  have HY := Lib.hid hy.n40
  have he : cmpV (sv false xs) (sv true ys) = 1 := by have h1 := hy.pos; have h2 := (canon_nonneg hx.n40.canon).1; exact cmpV_gt (by simp [sv, sg]; omega)
  rw [he]
  clear h h' hz hx hy he
  have k0 : Kept [] w ((w.alloc (.cells #[.bool false, .slice a n c] 26)).alloc (.cells #[.bool true, .slice b m d] 26)) := ((Kept.refl [] w).alloc _).alloc _
  have K0 := Lib.hid k0
  clear k0
  go_enter Try.func48, Try.ntmps48
  go_wp2_with fail
  refine (firstBigFault_two _ _ _ _ _ _ _ _ _ _ _ _ (by simp) (HS.out.rd.kept0 K0.out) (HS'.out.rd.kept0 K0.out)).mono ?_
  rintro e w1 ⟨rfl, hk⟩
  rw [hz'.out]
  have c00 := (hk.peel.top (g := w.heap.size) (by simp) (by simp) 0 (v := .bool false) rfl).1
  have c01 := (hk.peel.top (g := w.heap.size) (by simp) (by simp) 1 (v := .slice a n c) rfl).1
  have c10 := (hk.top (g := w.heap.size + 1) (by simp) (by simp) 0 (v := .bool true) rfl).1
  have c11 := (hk.top (g := w.heap.size + 1) (by simp) (by simp) 1 (v := .slice b m d) rfl).1
  have HK := Lib.hid (K0.out.trans0 hk)
  clear hk
  go_wp2_with fail
  go_ret
  exact ⟨rfl, HK.out⟩

set_option maxHeartbeats 1000000 in
theorem CompareBigs_any (p q : Bool) (a b : Option Addr) (n c m d : Nat) (xs ys : List Int) (w : World) (h : Sl w a n c xs) (h' : Sl w b m d ys) :
    Calls Try.prog 48 #[.agg #[.bool p, .slice a n c], .agg #[.bool q, .slice b m d]] w (Ans w (.int .i64 (cmpB p xs q ys))) := by
  unfold cmpB
  by_cases hz : bigFault2 p xs q ys = 0
  · rw [if_pos hz]
    obtain ⟨hx, hy⟩ := bigFault2_zero hz
    cases p <;> cases q
    · exact CompareBigs_f_f _ _ _ _ _ _ _ _ _ h h' hx hy
    · exact CompareBigs_f_t _ _ _ _ _ _ _ _ _ h h' hx hy
    · exact CompareBigs_t_f _ _ _ _ _ _ _ _ _ h h' hx hy
    · exact CompareBigs_t_t _ _ _ _ _ _ _ _ _ h h' hx hy
  · rw [if_neg hz]
    have HS := Lib.hid h
    have HS' := Lib.hid h'
    clear h h'
    have k0 : Kept [] w ((w.alloc (.cells #[.bool p, .slice a n c] 26)).alloc (.cells #[.bool q, .slice b m d] 26)) := ((Kept.refl [] w).alloc _).alloc _
    have K0 := Lib.hid k0
    clear k0
    generalize hf : bigFault2 p xs q ys = f at *
    have hne : (f == 0) = false := by rw [beq_eq_false_iff_ne]; exact hz
    have HF := Lib.hid hf
    clear hf hz
    go_enter Try.func48, Try.ntmps48
    go_wp2_with fail
    refine (firstBigFault_two _ _ _ _ _ _ _ _ _ _ _ _ (by simp) (HS.out.rd.kept0 K0.out) (HS'.out.rd.kept0 K0.out)).mono ?_
    rintro e w1 ⟨rfl, hk⟩
    rw [HF.out]
    have HK := Lib.hid (K0.out.trans0 hk)
    clear hk
    go_wp2_with fail
    go_ret
    exact ⟨rfl, HK.out⟩

end Go.Proofs.Ytlhiahhpmjiioaa
