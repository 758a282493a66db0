/-
  Contracts of the model's l1Sub, SubNats. Conditions: the slices read as lists of numbers; for l1Sub of limbs, the second not the greater.
-/
import Derived.Test.YtlhiahhpmjiioaaJ2
import Derived.Test.YtlhiahhpmjiioaaTrim
namespace Go.Proofs.Ytlhiahhpmjiioaa
open Go.RowKit

theorem l1At_quiet (a : Option Addr) (n c : Nat) (xs : List Int) (k : Nat) (y : Int) (w : World) (h : Rd w a n xs) (hk : k ≤ 9223372036854775807) (hv : xs.getD k 0 = y) :
    Calls Try.prog 57 #[.slice a n c, .int .i64 k] w fun e w' => e = .returned (.int .i64 y) ∧ w' = w :=
  (l1At_at a n c xs k y w h hk hv).mono fun _ _ ⟨h1, h2⟩ => ⟨h1, h2.symm⟩

set_option maxHeartbeats 2000000 in
theorem l1Sub_any (a b : Option Addr) (n c m c' : Nat) (xs ys : List Int) (w : World) (h : Rd w a n xs) (h' : Rd w b m ys) (hx : AllLimbs xs) (hy : AllLimbs ys) (hn : n ≤ 1000000) (hmn : m ≤ n) (hle : val ys ≤ val xs) :
    Calls Try.prog 52 #[.slice a n c, .slice b m c'] w (SlR w (digits (val xs - val ys))) := by
  have HR := Lib.hid h
  have HR' := Lib.hid h'
  have HL := Lib.hid h.1
  have HL' := Lib.hid h'.1
  have HXL := Lib.hid hx
  have HYL := Lib.hid hy
  obtain ⟨T, hT⟩ : ∃ T, T = val xs - val ys := ⟨_, rfl⟩
  have hTr : rest xs (fun i => ys.getD i 0) (-1) 0 = T := by
    rw [rest_start, vf_val ys xs.length (by rw [h'.1, h.1]; exact hmn)]; omega
  have hTb : 0 ≤ T ∧ T < pw n := by
    have h1 := hx.val
    have h2 := hy.val
    rw [h.1] at h1
    omega
  rw [← hT]
  have HT := Lib.hid hTr
  have HTB := Lib.hid hTb
  clear h h' hx hy hT hTr hTb hle
  go_enter Try.func52, Try.ntmps52
  go_wp2
  go_loopw [5, 6, 7, 8] (fun v q i s0 wr => ∃ (k : Nat) (out : List Int) (bw : Int), k ≤ n ∧ q = .int .i64 bw ∧ i = .int .i64 k ∧ 0 ≤ bw ∧ bw ≤ 1 ∧ Hid (out.length = k) ∧ Hid (AllLimbs out) ∧ Hid (ap out (-bw + rest xs (fun i => ys.getD i 0) (-1) k) = T) ∧ Hid (Ow w.heap.size wr v out) ∧ Hid (Kept [] w wr)) (fun _ _ i _ _ => n - (intOf i).toNat)
  case atStart => exact ⟨0, [], 0, by omega, rfl, rfl, by omega, by omega, rfl, fun i hi => by simp at hi, by show ap _ _ = T; rw [HT.out]; simp [ap], Ow.empty _ w (Nat.le_refl _), (Kept.refl [] w).alloc _⟩
  case round =>
    obtain ⟨k, out, bw, hk, rfl, rfl, hc1, hc2, hOL, hO, hAp, hW, hK⟩ := hrel
    by_cases hlt : k < n
    · obtain ⟨g, off, rfl, hc0⟩ := HR.out.2.2 k hlt
      have hc := hK.out.cell hc0 (by simp)
      have HAV := Lib.hid (HR'.out.kept0 hK.out)
      have ha0 := getD_limb HXL.out k
      have hb0 := getD_limb HYL.out k
      have hst := rest_step xs (fun i => ys.getD i 0) (-1) k (by rw [HL.out]; exact hlt)
      have hy00 : ys.getD k 0 = ys.getD k 0 := rfl
      generalize hx0 : xs.getD k 0 = x0 at *
      generalize hy0 : ys.getD k 0 = y0 at *
      have HY0 := Lib.hid hy0
      obtain ⟨s, hs⟩ : ∃ s, s = x0 - y0 - bw := ⟨_, rfl⟩
      obtain ⟨ha1, ha2⟩ := ha0
      obtain ⟨hb1, hb2⟩ := hb0
      have hs1 : -65536 ≤ s := by omega
      have hs2 : s ≤ 65535 := by omega
      have hkk : k ≤ 1000000 := by omega
      have hol : out.length ≤ 1000000 := by rw [hOL.out]; omega
      have hszr : w.heap.size ≤ wr.heap.size := hK.out.size
      have e1 : IntKind.i64.wrap (x0 - y0) = x0 - y0 := IntWalk.i64_in _ (by omega)
      have e2 : IntKind.i64.wrap (x0 - y0 - bw) = s := by rw [← hs]; exact IntWalk.i64_in _ (by omega)
      by_cases hneg : s < 0
      · have hO2 : Hid (AllLimbs (out ++ [s + 65536])) := hO.out.snoc (by omega)
        have hAp2 : Hid (ap (out ++ [s + 65536]) (-1 + rest xs (fun i => ys.getD i 0) (-1) (k + 1)) = T) := by
          show ap _ _ = T
          rw [ap_snoc, ← hAp.out]
          congr 1
          omega
        have hOL2 : Hid ((out ++ [s + 65536]).length = k + 1) := by show _ = _; rw [List.length_append, hOL.out]; rfl
        have hK0 := Lib.hid hK.out
        have hW0 := Lib.hid hW.out
        clear hs hst hO hAp hOL hc0 hx0 hy0 hK hW hy00
        go_wp2_with fail
        go_quiet ((go_at_call 57; exact Calls.quiet_of_same (l1At_quiet _ _ _ ys k y0 _ (HAV.out.kept0 ((Kept.refl [] wr).drewN _)) (by omega) HY0.out)))
        clear e1 e2
        have HK1 := Lib.hid (hK0.out.drewN nq)
        have HW1 : Hid (Ow w.heap.size (wr.drewN nq) u5 out) := hW0.out
        have hszd : w.heap.size ≤ (wr.drewN nq).heap.size := hszr
        generalize hwq : wr.drewN nq = wq at *
        clear hwq
        go_wp2_with (at_builtin; refine app1 rfl _ _ rfl w.heap.size u5 out rfl (HW1.out.alloc _) wq.heap.size (s + 65536) rfl (by simp) (by omega) (by simp; omega) ?_)
        intro v' w1 hW2 hG
        have HW2 := Lib.hid hW2
        have HK2 : Hid (Kept [] w w1) := kept_grown (HK1.out.alloc _) (HW1.out.alloc _) hG (Nat.le_refl _)
        clear hW2 hG
        go_wp2
        go_roundw
        case rel => exact ⟨k + 1, out ++ [s + 65536], 1, by omega, rfl, by go_num, by omega, by omega, hOL2, hO2, hAp2, HW2.out, HK2⟩
        case measure => simp [intOf]; omega
      · have hO2 : Hid (AllLimbs (out ++ [s])) := hO.out.snoc (by omega)
        have hAp2 : Hid (ap (out ++ [s]) (-0 + rest xs (fun i => ys.getD i 0) (-1) (k + 1)) = T) := by
          show ap _ _ = T
          rw [ap_snoc, ← hAp.out]
          congr 1
          omega
        have hOL2 : Hid ((out ++ [s]).length = k + 1) := by show _ = _; rw [List.length_append, hOL.out]; rfl
        have hK0 := Lib.hid hK.out
        have hW0 := Lib.hid hW.out
        clear hs hst hO hAp hOL hc0 hx0 hy0 hK hW hy00
        go_wp2_with fail
        go_quiet ((go_at_call 57; exact Calls.quiet_of_same (l1At_quiet _ _ _ ys k y0 _ (HAV.out.kept0 ((Kept.refl [] wr).drewN _)) (by omega) HY0.out)))
        clear e1 e2
        have HK1 := Lib.hid (hK0.out.drewN nq)
        have HW1 : Hid (Ow w.heap.size (wr.drewN nq) u5 out) := hW0.out
        have hszd : w.heap.size ≤ (wr.drewN nq).heap.size := hszr
        generalize hwq : wr.drewN nq = wq at *
        clear hwq
        go_wp2_with (at_builtin; refine app1 rfl _ _ rfl w.heap.size u5 out rfl (HW1.out.alloc _) wq.heap.size s rfl (by simp) (by omega) (by simp; omega) ?_)
        intro v' w1 hW2 hG
        have HW2 := Lib.hid hW2
        have HK2 : Hid (Kept [] w w1) := kept_grown (HK1.out.alloc _) (HW1.out.alloc _) hG (Nat.le_refl _)
        clear hW2 hG
        go_wp2
        go_roundw
        case rel => exact ⟨k + 1, out ++ [s], 0, by omega, rfl, by go_num, by omega, by omega, hOL2, hO2, hAp2, HW2.out, HK2⟩
        case measure => simp [intOf]; omega
    · obtain rfl : k = n := by omega
      have hend : ap out (-bw) = T := by
        have := hAp.out
        rw [← HL.out, rest_end, Int.add_zero] at this; exact this
      have hv := no_carryN hO.out hOL.out HTB.out hend
      obtain ⟨a2, c2, rfl, hS, hF⟩ := hW.out.sl
      rw [hOL.out] at hS hF ⊢
      have HS := Lib.hid hS
      have HV := Lib.hid hv.2
      have HKE := Lib.hid hK.out
      have HOE := Lib.hid hO.out
      have hszr : w.heap.size ≤ wr.heap.size := hK.out.size
      clear hend hv hS hF
      go_wp2_with fail
      refine (l1Trim_any _ _ _ _ _ HS.out HOE.out (by omega)).mono ?_
      rintro e w2 ⟨v, rfl, hO3, hq⟩
      rw [HV.out] at hO3
      have HO3 := Lib.hid (hO3.mono hszr)
      have HQ := Lib.hid (HKE.out.trans0 hq)
      clear hO3 hq
      go_wp2_with fail
      go_ret
      exact ⟨v, rfl, HO3.out, HQ.out⟩

theorem sub_len (xs ys : List Int) : (subList xs ys).length ≤ 4000000 := by
  unfold subList
  split
  · rename_i hz
    have hx := natFault_zero (fault2_zero hz).1
    have hy := natFault_zero (fault2_zero hz).2
    split
    · simp
    · have h1 := (show AllLimbs xs from hx.limb).val
      have h2 := val_nonneg hy
      have := digits_len xs.length (val xs - val ys) (by omega)
      have := hx.len
      omega
  · simp

end Go.Proofs.Ytlhiahhpmjiioaa
