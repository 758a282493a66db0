/-
 Contracts of CompareBigs, the program's and the model's. Condition: the limbs lie in blocks of numbers.
-/
import Derived.Test.YtakomjocihlacaaBigE
namespace Go.Proofs.Ytakomjocihlacaa
open Go.RowKit

theorem cmpV_sub (x y : Int) : cmpV x y = if x - y = 0 then 0 else if x - y < 0 then -1 else 1 := by
 unfold cmpV
 by_cases h1 : x < y
 ·rw [if_pos h1, if_neg (by omega), if_pos (by omega)]
 ·by_cases h2 : y < x
  ·rw [if_neg h1, if_pos h2, if_neg (by omega), if_neg (by omega)]
  ·rw [if_neg h1, if_neg h2, if_pos (by omega)]

set_option maxHeartbeats 1000000 in
theorem l2Compare_any (p q : Bool) (a b : Option Addr) (n c m d : Nat) (xs ys : List Int) (w : World) (hx : Nat40 xs) (hy : Nat40 ys) (h : Sl w a n c xs) (h' : Sl w b m d ys) :
  Calls Try.prog 12 #[.agg #[.bool p, .slice a n c], .agg #[.bool q, .slice b m d]] w (Ans w (.int .i64 (cmpV (sv p xs) (sv q ys)))) := by
 have HS := Lib.hid h
 have HS' := Lib.hid h'
 have HX := Lib.hid hx
 have HY := Lib.hid hy
 clear h h' hx hy
 have k0 : Kept [] w ((w.alloc (.cells #[.bool p, .slice a n c] 29)).alloc (.cells #[.bool q, .slice b m d] 29)) := ((Kept.refl [] w).alloc _).alloc _
 have K0 := Lib.hid k0
 clear k0
 rw [cmpV_sub]
 obtain ⟨z, hz⟩ : ∃ z, z = sv p xs - sv q ys := ⟨_, rfl⟩
 rw [← hz]
 have HZ := Lib.hid hz
 clear hz
 by_cases h0 : z = 0
 ·rw [if_pos h0]
  have hl : (mag z).length = 0 := by rw [h0, mag_zero]; rfl
  have HL := Lib.hid hl
  clear h0 hl
  go_enter Try.func12, Try.ntmps12
  go_wp2_with fail
  refine (l2Sub_any _ _ _ _ _ _ _ _ _ _ _ HX.out HY.out (HS.out.kept0 K0.out) (HS'.out.kept0 K0.out)).mono ?_
  rintro e w1 ⟨a2, x2, rfl, hs2, hf2, hk⟩
  have HK := Lib.hid (K0.out.trans0 hk)
  clear hs2 hf2 hk
  rw [← HZ.out]
  rw [HL.out]
  go_wp2_with fail
  go_ret
  exact ⟨rfl, HK.out.alloc _⟩
 ·rw [if_neg h0]
  have hl : ((mag z).length : Int) ≠ 0 := by
   intro e
   have h1 : mag z = [] := List.eq_nil_of_length_eq_zero (by omega)
   have h2 := sv_mag z
   rw [h1] at h2
   exact h0 (by rw [← h2]; unfold sv; cases isNeg z <;> rfl)
  have hl' : (((mag z).length : Int) == 0) = false := by rw [beq_eq_false_iff_ne]; exact hl
  generalize hL : (mag z).length = L at *
  have HL := Lib.hid hL
  clear hl
  by_cases hn : z < 0
  ·rw [if_pos hn]
   have hg : isNeg z = true := isNeg_yes hn
   have HG := Lib.hid hg
   clear hn hg h0 hL
   go_enter Try.func12, Try.ntmps12
   go_wp2_with fail
   refine (l2Sub_any _ _ _ _ _ _ _ _ _ _ _ HX.out HY.out (HS.out.kept0 K0.out) (HS'.out.kept0 K0.out)).mono ?_
   rintro e w1 ⟨a2, x2, rfl, hs2, hf2, hk⟩
   have HK := Lib.hid (K0.out.trans0 hk)
   clear hs2 hf2 hk
   rw [← HZ.out]
   rw [HL.out, HG.out]
   go_wp2_with fail
   go_ret
   exact ⟨rfl, HK.out.alloc _⟩
  ·rw [if_neg hn]
   have hg : isNeg z = false := isNeg_no (by omega)
   have HG := Lib.hid hg
   clear hn hg h0 hL
   go_enter Try.func12, Try.ntmps12
   go_wp2_with fail
   refine (l2Sub_any _ _ _ _ _ _ _ _ _ _ _ HX.out HY.out (HS.out.kept0 K0.out) (HS'.out.kept0 K0.out)).mono ?_
   rintro e w1 ⟨a2, x2, rfl, hs2, hf2, hk⟩
   have HK := Lib.hid (K0.out.trans0 hk)
   clear hs2 hf2 hk
   rw [← HZ.out]
   rw [HL.out, HG.out]
   go_wp2_with fail
   go_ret
   exact ⟨rfl, HK.out.alloc _⟩

end Go.Proofs.Ytakomjocihlacaa
