/-
 Contracts of the model's l1Short, l1Min, l1Guess, and of l1Compare at lists of any length. Conditions: the slices read as lists of limbs.
-/
import Derived.Test.YtfafjijoeanbhaaSMul
import Derived.Test.YtfafjijoeanbhaaJ1
namespace Go.Proofs.Ytfafjijoeanbhaa
open Go.RowKit

/-- What a division by one limb answers. -/
def ShortR (w : World) (X d : Int) (e : Ending) (w' : World) : Prop :=
 ∃ v, e = .returned (.tuple #[v, .int .i64 (X % d)]) ∧ Ow w.heap.size w' v (digits (X / d)) ∧ Kept [] w w'

set_option maxHeartbeats 2000000 in
theorem l1Short_any (a : Option Addr) (n c : Nat) (xs : List Int) (d : Int) (w : World) (h : Rd w a n xs) (hl : AllLimbs xs) (hn : n ≤ 1000000) (hd : 1 ≤ d ∧ d ≤ 65536) :
  Calls Try.prog 87 #[.slice a n c, .int .i64 d] w (ShortR w (val xs) d) := by
 have HR := Lib.hid h
 have HL := Lib.hid h.1
 have HLL := Lib.hid hl
 have HD := Lib.hid hd
 obtain ⟨hd1, hd2⟩ := hd
 obtain ⟨i0, hi, hz0, hz1, hz2⟩ := info_parts Try.info64
 have hmk := fun (w : World) => run_make_row (P := Try.prog) 30 2 i0 (.int .i64 0) Try.underlying30 hi hz0 hz1 rfl .i64 .i64 n (by rw [hz2]; omega) (by omega) w
 rw [made_zeros] at hmk
 have hdz : (d == 0) = false := by rw [beq_eq_false_iff_ne]; omega
 have hdz' : ¬ d = 0 := by omega
 clear h hl hi hz0 hz1 hz2
 go_enter Try.func87, Try.ntmps87
 go_wp2_with fail
 have HB1 := Lib.hid (Blk.new w (List.replicate n 0))
 clear hmk
 go_loopw [7, 8] (fun q i wr => ∃ (k : Nat) (Q : List Int), k ≤ n ∧ i = .int .i64 ((k : Int) - 1) ∧ q = .int .i64 (val (xs.drop k) % d) ∧ Hid (ShortAt xs d k Q) ∧ Hid (Blk wr w.heap.size Q) ∧ Hid (Kept [] w wr)) (fun _ i _ => (intOf i + 1).toNat)
 case atStart => exact ⟨n, _, Nat.le_refl _, rfl, by rw [List.drop_of_length_le (Nat.le_of_eq HL.out)]; rfl, by have := ShortAt.start xs d; rw [HL.out] at this; exact this, HB1.out, (Kept.refl [] w).alloc _⟩
 case round =>
  obtain ⟨k, Q, hk, rfl, rfl, hS, hB, hK⟩ := hrel
  by_cases hlt : 0 < k
  ·obtain ⟨j, rfl⟩ : ∃ j, k = j + 1 := ⟨k - 1, by omega⟩
   have ej : (((j + 1 : Nat) : Int) - 1) = (j : Int) := by omega
   rw [ej]
   obtain ⟨g, off, rfl, hc0⟩ := HR.out.2.2 j (by omega)
   have hc := hK.out.cell hc0 (by simp)
   have hx := HLL.out j (by rw [HL.out]; omega)
   obtain ⟨s1, s2, s3, s4⟩ := hS.out.step HLL.out HD.out (by rw [HL.out]; omega)
   have hr1 := Int.emod_nonneg (val (xs.drop (j + 1))) hdz'
   have hr2 := Int.emod_lt_of_pos (val (xs.drop (j + 1))) (by omega : 0 < d)
   generalize hr : val (xs.drop (j + 1)) % d = r at *
   generalize hxj : xs.getD j 0 = x at *
   obtain ⟨u, hu⟩ : ∃ u, u = r * 65536 + x := ⟨_, rfl⟩
   rw [← hu] at s1 s2 s3 s4
   obtain ⟨hx1, hx2⟩ := hx
   have hu1 : 0 ≤ u := by omega
   have hu2 : u ≤ 8589934592 := by omega
   have e1 : IntKind.i64.wrap (r * 65536) = r * 65536 := IntWalk.i64_in _ (by omega)
   have e2 : IntKind.i64.wrap (r * 65536 + x) = u := by rw [← hu]; exact IntWalk.i64_in _ (by omega)
   have e3 : IntKind.i64.wrap ((j : Int) - 1) = (j : Int) - 1 := IntWalk.i64_in _ (by omega)
   have hcell := hB.out.cell (j := j) (by rw [hS.out.1, HL.out]; omega)
   have hfr := hB.out.frozen j
   have HS2 := Lib.hid s1
   have HR2 := Lib.hid s2
   have HB2 := Lib.hid (hB.out.set j (u / d))
   have HK2 := Lib.hid (hK.out.setCell ⟨w.heap.size, j, none⟩ (.int .i64 (u / d)) (by simp))
   have hjn : j < n := by omega
   clear hc0 s1 s2 hr hxj hu hS hB hK hlt ej hk hr2
   go_wp2
   go_roundw
   case rel => exact ⟨j, _, by omega, by congr 1, by rw [HR2.out], HS2, HB2.out, HK2.out⟩
   case measure => simp [intOf]
  ·obtain rfl : k = 0 := by omega
   have hQ := hS.out
   rw [List.drop_zero]
   have hsl : Sl wr (some ⟨w.heap.size, 0, none⟩) n n Q := by
    have h9 := Sl.ofBlk hB.out (by rw [hQ.1, HL.out]; omega)
    rw [hQ.1, HL.out] at h9; exact h9
   have hv : val Q = val xs / d := by have := hQ.2.2; simpa using this
   have HSL := Lib.hid hsl
   have HV := Lib.hid hv
   have HQL := Lib.hid hQ.2.1
   have HK := Lib.hid hK.out
   have hszr : w.heap.size ≤ wr.heap.size := hK.out.size
   clear hQ hsl hv hS hB hK
   go_wp2_with fail
   refine (l1Trim_any _ _ _ _ _ HSL.out HQL.out (by omega)).mono ?_
   rintro e w2 ⟨v, rfl, hO3, hq⟩
   rw [HV.out] at hO3
   have HO3 := Lib.hid (hO3.mono hszr)
   have HQ := Lib.hid (HK.out.trans0 hq)
   clear hO3 hq
   go_wp2_with fail
   go_ret2
   exact ⟨v, rfl, HO3.out, HQ.out⟩

end Go.Proofs.Ytfafjijoeanbhaa
