/-
  Contracts of the model's l1Short, l1Min, l1Guess, and of l1Compare at lists of any length. Conditions: the slices read as lists of limbs.
-/
import Derived.Test.YtgplghjameiciaaSMul
import Derived.Test.YtgplghjameiciaaJ1
namespace Go.Proofs.Ytgplghjameiciaa
open Go.RowKit

theorem sl_blk {w : World} {g : Nat} {xs : List Int} {n : Nat} (h : Blk w g xs) (hn : xs.length = n) (hm : n ≤ 2000000) : Sl w (some ⟨g, 0, none⟩) n n xs := by
  subst hn; exact Sl.ofBlk h (by omega)

/-- What a division by one limb answers. -/
def ShortR (w : World) (X d : Int) (e : Ending) (w' : World) : Prop :=
  ∃ v, e = .returned (.tuple #[v, .int .i64 (X % d)]) ∧ Ow w.heap.size w' v (digits (X / d)) ∧ Kept [] w w'

set_option maxHeartbeats 2000000 in
theorem l1Short_any (a : Option Addr) (n c : Nat) (xs : List Int) (d : Int) (w : World) (h : Rd w a n xs) (hl : AllLimbs xs) (hn : n ≤ 1000000) (hd : 1 ≤ d ∧ d ≤ 65536) :
    Calls Try.prog 101 #[.slice a n c, .int .i64 d] w (ShortR w (val xs) d) := by
  have HR := Lib.hid h
  have HL := Lib.hid h.1
  have HLL := Lib.hid hl
  have HD := Lib.hid hd
  obtain ⟨hd1, hd2⟩ := hd
  obtain ⟨i0, hi, hz0, hz1, hz2⟩ := info_parts Try.info64
  have hmk := fun (w : World) => run_make_row (P := Try.prog) 22 2 i0 (.int .i64 0) Try.underlying22 hi hz0 hz1 rfl .i64 .i64 n (by rw [hz2]; omega) (by omega) w
  rw [made_zeros] at hmk
  have hdz : (d == 0) = false := by rw [beq_eq_false_iff_ne]; omega
  have hdz' : ¬ d = 0 := by omega
  clear h hl hi hz0 hz1 hz2
  go_enter Try.func101, Try.ntmps101
  go_wp2_with fail
  have HB1 := Lib.hid (Blk.new w (List.replicate n 0))
  clear hmk
  go_loopw [7, 8] (fun q i wr => ∃ (k : Nat) (Q : List Int), k ≤ n ∧ i = .int .i64 ((k : Int) - 1) ∧ q = .int .i64 (val (xs.drop k) % d) ∧ Hid (ShortAt xs d k Q) ∧ Hid (Blk wr w.heap.size Q) ∧ Hid (Kept [] w wr)) (fun _ i _ => (intOf i + 1).toNat)
  case atStart => exact ⟨n, _, Nat.le_refl _, rfl, by rw [List.drop_of_length_le (Nat.le_of_eq HL.out)]; rfl, by have := ShortAt.start xs d; rw [HL.out] at this; exact this, HB1.out, (Kept.refl [] w).alloc _⟩
  case round =>
    obtain ⟨k, Q, hk, rfl, rfl, hS, hB, hK⟩ := hrel
    by_cases hlt : 0 < k
    · obtain ⟨j, rfl⟩ : ∃ j, k = j + 1 := ⟨k - 1, by omega⟩
      have ej : (((j + 1 : Nat) : Int) - 1) = (j : Int) := by omega
      rw [ej]
      obtain ⟨g, off, rfl, hc0⟩ := HR.out.2.2 j (by omega)
      have hc := hK.out.cell hc0 (by simp)
      have hx := HLL.out j (by rw [HL.out]; omega)
      obtain ⟨s1, s2, s3, s4⟩ := hS.out.step HLL.out HD.out (by rw [HL.out]; omega)
      have hr1 := Int.emod_nonneg (val (xs.drop (j + 1))) hdz'
      have hr2 := Int.emod_lt_of_pos (val (xs.drop (j + 1))) (by omega : 0 < d)
      generalize hr : val (xs.drop (j + 1)) % d = r at *
      generalize hxj : xs.getD j 0 = x at *
      obtain ⟨u, hu⟩ : ∃ u, u = r * 65536 + x := ⟨_, rfl⟩
      rw [← hu] at s1 s2 s3 s4
      obtain ⟨hx1, hx2⟩ := hx
      have hu1 : 0 ≤ u := by omega
      have hu2 : u ≤ 8589934592 := by omega
      have e1 : IntKind.i64.wrap (r * 65536) = r * 65536 := IntWalk.i64_in _ (by omega)
      have e2 : IntKind.i64.wrap (r * 65536 + x) = u := by rw [← hu]; exact IntWalk.i64_in _ (by omega)
      have e3 : IntKind.i64.wrap ((j : Int) - 1) = (j : Int) - 1 := IntWalk.i64_in _ (by omega)
      have hcell := hB.out.cell (j := j) (by rw [hS.out.1, HL.out]; omega)
      have hfr := hB.out.frozen j
      have HS2 := Lib.hid s1
      have HR2 := Lib.hid s2
      have HB2 := Lib.hid (hB.out.set j (u / d))
      have HK2 := Lib.hid (hK.out.setCell ⟨w.heap.size, j, none⟩ (.int .i64 (u / d)) (by simp))
      have hjn : j < n := by omega
      clear hc0 s1 s2 hr hxj hu hS hB hK hlt ej hk hr2
      go_wp2
      go_roundw
      case rel => exact ⟨j, _, by omega, by congr 1, by rw [HR2.out], HS2, HB2.out, HK2.out⟩
      case measure => simp [intOf]
    · obtain rfl : k = 0 := by omega
      have hQ := hS.out
      rw [List.drop_zero]
      have hsl : Sl wr (some ⟨w.heap.size, 0, none⟩) n n Q := by
        have h9 := Sl.ofBlk hB.out (by rw [hQ.1, HL.out]; omega)
        rw [hQ.1, HL.out] at h9; exact h9
      have hv : val Q = val xs / d := by have := hQ.2.2; simpa using this
      have HSL := Lib.hid hsl
      have HV := Lib.hid hv
      have HQL := Lib.hid hQ.2.1
      have HK := Lib.hid hK.out
      have hszr : w.heap.size ≤ wr.heap.size := hK.out.size
      clear hQ hsl hv hS hB hK
      go_wp2_with fail
      refine (l1Trim_any _ _ _ _ _ HSL.out HQL.out (by omega)).mono ?_
      rintro e w2 ⟨v, rfl, hO3, hq⟩
      rw [HV.out] at hO3
      have HO3 := Lib.hid (hO3.mono hszr)
      have HQ := Lib.hid (HK.out.trans0 hq)
      clear hO3 hq
      go_wp2_with fail
      go_ret2
      exact ⟨v, rfl, HO3.out, HQ.out⟩

set_option maxHeartbeats 400000 in
theorem l1Min_any (x y : Int) (w : World) : Calls Try.prog 111 #[.int .i64 x, .int .i64 y] w fun e w' => e = .returned (.int .i64 (min x y)) ∧ w = w' := by
  by_cases h : x < y
  · have e : Hid (min x y = x) := by show min x y = x; omega
    go_enter Try.func111, Try.ntmps111
    go_wp2
    go_ret
    exact ⟨by rw [e.out]; rfl, rfl⟩
  · have e : Hid (min x y = y) := by show min x y = y; omega
    go_enter Try.func111, Try.ntmps111
    go_wp2
    go_ret
    exact ⟨by rw [e.out]; rfl, rfl⟩

set_option maxHeartbeats 2000000 in
theorem l1Guess_any (g c : Nat) (us ss : List Int) (L j : Nat) (b : Option Addr) (m d : Nat) (ys : List Int) (w : World) (hB : Blk w g us) (hL : us.length = L) (hj : j + (m + 1) ≤ L) (hLb : L ≤ 1000000) (hs : ss.length = m + 1) (hss : ∀ i, i < m + 1 → us.getD (j + i) 0 = ss.getD i 0) (hsl : AllLimbs ss)
    (hm : 0 < m) (hy : Rd w b m ys) (hyl : AllLimbs ys) (ht : ys.getD (m - 1) 0 ≠ 0) :
    Calls Try.prog 103 #[.slice (some ⟨g, 0, none⟩) L c, .int .i64 j, .slice b m d] w (Ans w (.int .i64 (min (guess1 ss ys) 65535))) := by
  have c1 := hB.cell (j := j + m) (by omega)
  have c2 := hB.cell (j := j + m - 1) (by omega)
  rw [hss m (by omega)] at c1
  rw [show j + m - 1 = j + (m - 1) by omega, hss (m - 1) (by omega), show j + (m - 1) = j + m - 1 by omega] at c2
  obtain ⟨gb, ob, rfl, c3⟩ := hy.2.2 (m - 1) (by omega)
  have hG : guess1 ss ys = (ss.getD m 0 * 65536 + ss.getD (m - 1) 0) / ys.getD (m - 1) 0 := by unfold guess1; rw [hy.1]
  have x1 := hsl m (by omega)
  have x2 := hsl (m - 1) (by omega)
  have x3 := hyl (m - 1) (by rw [hy.1]; omega)
  generalize ss.getD m 0 = s1 at *
  generalize ss.getD (m - 1) 0 = s2 at *
  generalize ys.getD (m - 1) 0 = y at *
  obtain ⟨G, hGe⟩ : ∃ G, G = guess1 ss ys := ⟨_, rfl⟩
  rw [← hGe] at hG ⊢
  have HG := Lib.hid hG
  have hy0 : (y == 0) = false := by rw [beq_eq_false_iff_ne]; exact ht
  have hy1 : 1 ≤ y := by omega
  obtain ⟨x1a, x1b⟩ := x1
  obtain ⟨x2a, x2b⟩ := x2
  have e1 : IntKind.i64.wrap ((j : Int) + (m : Int)) = (j : Int) + (m : Int) := IntWalk.i64_in _ (by omega)
  have e2 : IntKind.i64.wrap ((j : Int) + (m : Int) - 1) = (j : Int) + (m : Int) - 1 := IntWalk.i64_in _ (by omega)
  have e3 : IntKind.i64.wrap ((m : Int) - 1) = (m : Int) - 1 := IntWalk.i64_in _ (by omega)
  have e4 : IntKind.i64.wrap (s1 * 65536) = s1 * 65536 := IntWalk.i64_in _ (by omega)
  have e5 : IntKind.i64.wrap (s1 * 65536 + s2) = s1 * 65536 + s2 := IntWalk.i64_in _ (by omega)
  have e6 : IntKind.i64.wrap ((s1 * 65536 + s2).tdiv y) = (s1 * 65536 + s2) / y := IntWalk.i64_quo _ _ (by omega)
  have b1 : (j : Int) + (m : Int) < (L : Int) := by omega
  have b2 : (j : Int) + (m : Int) - 1 < (L : Int) := by omega
  have b3 : (0 : Int) ≤ (j : Int) + (m : Int) - 1 := by omega
  have b4 : (0 : Int) ≤ (m : Int) - 1 := by omega
  have b5 : (m : Int) - 1 < (m : Int) := by omega
  have b6 : (0 : Int) ≤ (j : Int) + (m : Int) := by omega
  have q0 : (0 : Int) ≤ s1 * 65536 + s2 := by omega
  have n1 : ((j : Int) + (m : Int)).toNat = j + m := by omega
  have n2 : ((j : Int) + (m : Int) - 1).toNat = j + m - 1 := by omega
  have n3 : ((m : Int) - 1).toNat = m - 1 := by omega
  clear hB hss hsl hy hyl hs hL ht hG hGe x3
  go_enter Try.func103, Try.ntmps103
  go_wp2_with fail
  go_quiet (fail)
  clear e1 e2 e3 e4 e5 e6 b1 b2 b3 b4 b5 b6 n1 n2 n3
  go_wp2_with fail
  rw [← HG.out]
  refine (l1Min_any _ _ _).mono ?_
  rintro e w2 ⟨rfl, rfl⟩
  go_wp2_with fail
  go_ret
  exact ⟨rfl, (Kept.refl [] w).drewN _⟩

end Go.Proofs.Ytgplghjameiciaa
