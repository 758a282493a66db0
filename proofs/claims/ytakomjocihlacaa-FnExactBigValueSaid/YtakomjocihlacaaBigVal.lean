/-
 Contract of BigValue. Condition: the limbs read as a list of numbers.
-/
import Derived.Lib.OthersKept
import Derived.Laws.RangeString
import Derived.Test.YtakomjocihlacaaNText
import Derived.Test.YtakomjocihlacaaJ2
import Derived.Test.YtakomjocihlacaaPlain8
import Derived.Test.YtakomjocihlacaaBigT
namespace Go.Proofs.Ytakomjocihlacaa
open Go.RowKit

theorem strOf_get {ds : List Int} {k : Nat} (h : Decs ds) (hk : k < ds.length) (h' : k < (strOfNums ds).size) : (((strOfNums ds)[k]'h').toNat : Int) = ds.getD k 0 ∧ ((strOfNums ds)[k]'h').toNat < 128 := by
 have h1 := h (ds[k]) (List.getElem_mem hk)
 have e : ((strOfNums ds)[k]'h') = UInt8.ofNat (ds[k]).toNat := by
  have e0 : ((strOfNums ds)[k]'h') = ((ds.map fun n => UInt8.ofNat n.toNat).toArray)[k]'(by simpa using hk) := rfl
  rw [e0]; simp
 have e2 : (UInt8.ofNat (ds[k]).toNat).toNat = (ds[k]).toNat := by
  rw [UInt8.toNat_ofNat']; omega
 rw [e, e2, List.getD_eq_getElem?_getD, List.getElem?_eq_getElem hk, Option.getD_some]
 omega
theorem bv_ok {p : Bool} {xs : List Int} (h : bigFault p xs = 0) (ho : ¬ outI (sv p xs)) : bvCode p xs = 0 ∧ bvVal p xs = sv p xs := by
 unfold bvCode bvVal; rw [if_pos h, if_neg ho, if_pos h, if_neg ho]; exact ⟨rfl, rfl⟩
theorem bv_out {p : Bool} {xs : List Int} (h : bigFault p xs = 0) (ho : outI (sv p xs)) : bvCode p xs = 7 ∧ bvVal p xs = 0 := by
 unfold bvCode bvVal; rw [if_pos h, if_pos ho, if_pos h, if_pos ho]; exact ⟨rfl, rfl⟩
theorem bv_bad {p : Bool} {xs : List Int} (h : bigFault p xs ≠ 0) : bvCode p xs = bigFault p xs ∧ bvVal p xs = 0 := by
 unfold bvCode bvVal; rw [if_neg h, if_neg h]; exact ⟨rfl, rfl⟩

theorem field_text (v0 v1 : Value) (w : World) : Sem.run Try.prog (Instr.field 40 (.agg #[v0, v1]) 1) w = .ok v1 w := by kernel_rfl
attribute [local go_sem ↓] field_text
theorem getD_dec {ds : List Int} {k : Nat} (h : Decs ds) (hk : k < ds.length) : 48 ≤ ds.getD k 0 ∧ ds.getD k 0 ≤ 57 := by
 rw [List.getD_eq_getElem?_getD, List.getElem?_eq_getElem hk, Option.getD_some]; exact h _ (List.getElem_mem hk)

set_option maxHeartbeats 8000000 in
set_option maxRecDepth 20000 in
theorem BigValue_any (p : Bool) (a : Option Addr) (n c : Nat) (xs : List Int) (w : World) (h : Sl w a n c xs) :
  Calls Try.prog 7 #[.agg #[.bool p, .slice a n c]] w (Ans w (.agg #[.int .i64 (bvCode p xs), .int .i64 (bvVal p xs)])) := by
 have HS := Lib.hid h
 clear h
 by_cases hz : bigFault p xs = 0
 ·have hok := bigFault_zero hz
  have hn40 := hok.n40
  have hv0 := (canon_nonneg hn40.canon).1
  obtain ⟨V, hV⟩ : ∃ V, V = val xs := ⟨_, rfl⟩
  obtain ⟨ds, hds⟩ : ∃ ds, ds = decText V := ⟨_, rfl⟩
  have hdec : Decs ds := by rw [hds]; exact decText_decs V
  have hnum : num 0 ds = V := by rw [hds]; exact num_decText (by omega)
  obtain ⟨s, hs⟩ : ∃ s, s = strOfNums ds := ⟨_, rfl⟩
  have hts : textVal xs = s := by rw [textVal_ok hok.nat, hs, hds, hV]
  have hsz : s.size = ds.length := by rw [hs]; exact size_strOfNums ds
  have hsv : sv p xs = if p = true then -V else V := by rw [hV]; cases p <;> rfl
  have HZ := Lib.hid hz
  have HN := Lib.hid hok.nat
  have HT := Lib.hid hts
  have HSZ := Lib.hid hsz
  have HD := Lib.hid hdec
  have HNU := Lib.hid hnum
  have HSS := Lib.hid hs
  have HSV := Lib.hid hsv
  clear hz hok hn40 hV hds hdec hnum hs hts hsz hsv
  go_enter Try.func7, Try.ntmps7
  go_wp2_with fail
  generalize hW : ((w.alloc (.cells #[.bool p, .slice a n c] 29)).alloc (.cells #[.int .i64 0, .int .i64 0] 27)) = ww0
  have hkk : Kept [] ((w.alloc (.cells #[.bool p, .slice a n c] 29)).alloc (.cells #[.int .i64 0, .int .i64 0] 27)) ww0 := by rw [hW]; exact Kept.refl _ _
  have zz0 : w.heap.size + 1 + 1 = ww0.heap.size := by rw [← hW]; simp
  obtain ⟨a0, _, la⟩ := hkk.peel.top (g := w.heap.size) (by simp) (by simp) 0 (v := .bool p) rfl
  obtain ⟨a1, _, _⟩ := hkk.peel.top (g := w.heap.size) (by simp) (by simp) 1 (v := .slice a n c) rfl
  obtain ⟨r0, u0, _⟩ := hkk.top (g := w.heap.size + 1) (by simp) (by simp) 0 (v := .int .i64 0) rfl
  obtain ⟨r1, u1, _⟩ := hkk.top (g := w.heap.size + 1) (by simp) (by simp) 1 (v := .int .i64 0) rfl
  have k0 := hkk.peel.peel
  clear hkk hW la
  refine (BigFault_any _ _ _ _ _ _ (HS.out.rd.kept0 k0)).mono ?_
  rintro e w1 ⟨rfl, k1⟩
  rw [HZ.out]
  have b0 := Lib.hid (k1.cell a0 (by simp))
  have b1 := k1.cell a1 (by simp)
  have b2 := Lib.hid (k1.cell r0 (by simp))
  have b3 := Lib.hid (k1.cell r1 (by simp))
  have b4 := Lib.hid (k1.free' r0 u0 (by simp))
  have b5 := Lib.hid (k1.free' r1 u1 (by simp))
  have K1 := Lib.hid (k0.trans0 k1)
  have z1 := k1.size
  clear a0 a1 r0 u0 r1 u1 k0 k1
  go_wp2_with fail
  refine (NatText_any _ _ _ _ _ (HS.out.kept0 K1.out)).mono ?_
  rintro e w2 ⟨rfl, k2⟩
  rw [HT.out, HN.out]
  have z2 := k2.size
  have c0 := Lib.hid (k2.cell b0.out (by simp))
  have c2 := Lib.hid (k2.cell b2.out (by simp))
  have c3 := Lib.hid (k2.cell b3.out (by simp))
  have c4 := Lib.hid (k2.free' b2.out b4.out (by simp))
  have c5 := Lib.hid (k2.free' b3.out b5.out (by simp))
  have K2 := Lib.hid (K1.out.trans0 k2)
  clear b0 b1 b2 b3 b4 b5 k2 K1
  go_wp2_with fail
  go_loopw [4] (fun v wr => ∃ k : Nat, k ≤ ds.length ∧ v = .int .i64 (-(num 0 (ds.take k))) ∧ Hid (-9223372036854775808 ≤ -(num 0 (ds.take k))) ∧ wr = w2.iter s k) (fun _ wr => s.size - wr.iterPos w2.heap.size)
  case atStart => exact ⟨0, Nat.zero_le _, by simp [num], Lib.hid (by simp [num]), rfl⟩
  case round =>
   obtain ⟨k, hk, rfl, hM, rfl⟩ := hrel
   by_cases hlt : k < ds.length
   ·have hks : k < s.size := by rw [HSZ.out]; exact hlt
    obtain ⟨d, hd⟩ : ∃ d, d = ds.getD k 0 - 48 := ⟨_, rfl⟩
    obtain ⟨m, hm⟩ : ∃ m, m = num 0 (ds.take k) := ⟨_, rfl⟩
    obtain ⟨q, hq⟩ : ∃ q, q = (-9223372036854775808 + d).tdiv 10 := ⟨_, rfl⟩
    have hd9 := getD_dec HD.out hlt
    have hd0 : 0 ≤ d ∧ d ≤ 9 := by omega
    have hb : ((s[k]'hks).toNat : Int) = d + 48 ∧ (s[k]'hks).toNat < 128 := by
     have hss := HSS.out
     subst hss
     have h9 := strOf_get HD.out hlt hks
     exact ⟨by omega, h9.2⟩
    have hsucc : num 0 (ds.take (k + 1)) = m * 10 + d := by rw [num_take_succ k hlt, hm, hd]
    have hm0 := num_take_le HD.out k
    have hm1 := num_take_le HD.out (k + 1)
    rw [HNU.out] at hm0 hm1
    rw [hsucc] at hm1
    rw [← hm] at hm0 hM ⊢
    have hM1 := hM.out
    have hnx : ∀ ty, (Instr.next (.pointer (some ⟨w2.heap.size, 0, none⟩)) true ty).run Try.prog (w2.iter s k) = .ok (.tuple #[.bool true, .int .i64 k, .int .i32 (d + 48)]) (w2.iter s (k + 1)) := fun ty => by rw [run_next_ascii w2 s k ty hks hb.2, hb.1]
    have hless : -m < q ↔ -m * 10 - d < -9223372036854775808 := by rw [hq]; exact less_iff hd0
    have hqb : -9223372036854775808 ≤ q ∧ q ≤ 9223372036854775807 := by rw [hq]; rw [show (-9223372036854775808 + d : Int) = -(9223372036854775808 - d) by omega, Int.neg_tdiv, Int.tdiv_eq_ediv_of_nonneg (by omega)]; omega
    have e1 : IntKind.i32.wrap (d + 48 - 48) = d := by rw [show d + 48 - 48 = d by omega]; exact IntWalk.i32_in _ (by omega)
    have e2 : IntKind.i64.wrap d = d := IntWalk.i64_in _ (by omega)
    have e3 : IntKind.i64.wrap (-9223372036854775808 + d) = -9223372036854775808 + d := IntWalk.i64_in _ (by omega)
    have e4 : IntKind.i64.wrap ((-9223372036854775808 + d).tdiv 10) = q := by rw [← hq]; exact IntWalk.i64_in _ (by omega)
    have hK : Kept [] w2 (w2.iter s (k + 1)) := (Kept.refl [] w2).alloc _
    have t2 := hK.cell c2.out (by simp)
    have t3 := hK.cell c3.out (by simp)
    have t4 := hK.free' c2.out c4.out (by simp)
    have t5 := hK.free' c3.out c5.out (by simp)
    have HE := Lib.hid hsucc
    clear hb hd hd9 hsucc hq hqb hm
    by_cases hout : -m < q
    ·have hmore := hless.1 hout
     have hB : bvCode p xs = 7 ∧ bvVal p xs = 0 := bv_out HZ.out (by rw [HSV.out]; unfold outI; cases p <;> simp <;> omega)
     have HB := Lib.hid hB
     clear hless hB hmore hm0 hm1 hM1 hM
     go_wp2_with fail
     obtain ⟨_, s0, s1⟩ := cells2 (.int .i64 (7)) (.int .i64 (0)) t2 t3
     refine bodyPost_ret (v := .agg #[.int .i64 (7), .int .i64 (0)]) (by simp [results, Try.results7, go_sem, s0, s1]) rfl ⟨by rw [HB.out.1, HB.out.2], ((K2.out.trans0 hK).setCell _ _ (by simp)).setCell _ _ (by simp)⟩
    ·have hfit : -9223372036854775808 ≤ -m * 10 - d := by have := hless.2; omega
     have e5 : IntKind.i64.wrap (-m * 10) = -m * 10 := IntWalk.i64_in _ (by omega)
     have e6 : IntKind.i64.wrap (-m * 10 - d) = -m * 10 - d := IntWalk.i64_in _ (by omega)
     clear hless hm0 hm1 hM1 hM t2 t3 t4 t5
     go_wp2_with fail
     go_roundw
     case rel => exact ⟨k + 1, by omega, by rw [HE.out]; congr 1; omega, Lib.hid (by rw [HE.out]; omega), rfl⟩
     case measure => simp [World.iterPos, World.iter_heap]; have := HSZ.out; omega
   ·obtain rfl : k = ds.length := by omega
    have hks : ¬ ds.length < s.size := by rw [HSZ.out]; omega
    have htk : num 0 (ds.take ds.length) = V := by rw [List.take_length]; exact HNU.out
    rw [htk] at hM ⊢
    have hM1 := hM.out
    have hnx : ∀ ty, (Instr.next (.pointer (some ⟨w2.heap.size, 0, none⟩)) true ty).run Try.prog (w2.iter s ds.length) = .ok (.tuple #[.bool false]) (w2.iter s ds.length) := fun ty => run_next_end w2 s ds.length ty hks
    have hK : Kept [] w2 (w2.iter s ds.length) := (Kept.refl [] w2).alloc _
    have t0 := hK.cell c0.out (by simp)
    have t2 := hK.cell c2.out (by simp)
    have t3 := hK.cell c3.out (by simp)
    have t4 := hK.free' c2.out c4.out (by simp)
    have t5 := hK.free' c3.out c5.out (by simp)
    have hVV : 0 ≤ V := by have := num_take_le HD.out ds.length; rw [htk] at this; exact this.1
    clear htk hks hlt hM
    cases p
    ·by_cases hmin : -V = -9223372036854775808
     ·have hB : bvCode false xs = 7 ∧ bvVal false xs = 0 := bv_out HZ.out (by rw [HSV.out]; unfold outI; simp; omega)
      have HB := Lib.hid hB
      have hmb : (-V == -9223372036854775808) = true := by simpa using hmin
      clear hB hM1 hmin hVV
      go_wp2_with fail
      obtain ⟨_, s0, s1⟩ := cells2 (.int .i64 (7)) (.int .i64 (0)) t2 t3
      refine bodyPost_ret (v := .agg #[.int .i64 (7), .int .i64 (0)]) (by simp [results, Try.results7, go_sem, s0, s1]) rfl ⟨by rw [HB.out.1, HB.out.2], ((K2.out.trans0 hK).setCell _ _ (by simp)).setCell _ _ (by simp)⟩
     ·have hB : bvCode false xs = 0 ∧ bvVal false xs = V := by
       have h9 := bv_ok (p := false) HZ.out (by rw [HSV.out]; unfold outI; simp; omega)
       rw [HSV.out] at h9; simpa using h9
      have HB := Lib.hid hB
      have hmb : (-V == -9223372036854775808) = false := by simpa using hmin
      have e7 : IntKind.i64.wrap (- -V) = V := by rw [Int.neg_neg]; exact IntWalk.i64_in _ (by omega)
      have e8 : wrap64 V = V := IntWalk.wrap64_in _ (by omega)
      clear hB hM1 hmin hVV
      go_wp2_with fail
      obtain ⟨_, s0, s1⟩ := cells2 (.int .i64 (0)) (.int .i64 (V)) t2 t3
      refine bodyPost_ret (v := .agg #[.int .i64 (0), .int .i64 (V)]) (by simp [results, Try.results7, go_sem, s0, s1]) rfl ⟨by rw [HB.out.1, HB.out.2], ((K2.out.trans0 hK).setCell _ _ (by simp)).setCell _ _ (by simp)⟩
    ·have hB : bvCode true xs = 0 ∧ bvVal true xs = -V := by
      have h9 := bv_ok (p := true) HZ.out (by rw [HSV.out]; unfold outI; simp; omega)
      rw [HSV.out] at h9; simpa using h9
     have HB := Lib.hid hB
     clear hB hM1 hVV
     go_wp2_with fail
     obtain ⟨_, s0, s1⟩ := cells2 (.int .i64 (0)) (.int .i64 (-V)) t2 t3
     refine bodyPost_ret (v := .agg #[.int .i64 (0), .int .i64 (-V)]) (by simp [results, Try.results7, go_sem, s0, s1]) rfl ⟨by rw [HB.out.1, HB.out.2], ((K2.out.trans0 hK).setCell _ _ (by simp)).setCell _ _ (by simp)⟩
 ·obtain ⟨e1, e2⟩ := bv_bad hz
  rw [e1, e2]
  obtain ⟨f, hf⟩ : ∃ f, bigFault p xs = f := ⟨_, rfl⟩
  rw [hf] at hz ⊢
  have hne : (f == 0) = false := by rw [beq_eq_false_iff_ne]; exact hz
  have HF := Lib.hid hf
  clear hf hz e1 e2
  have k0 : Kept [] w ((w.alloc (.cells #[.bool p, .slice a n c] 29)).alloc (.cells #[.int .i64 0, .int .i64 0] 27)) := ((Kept.refl [] w).alloc _).alloc _
  have K0 := Lib.hid k0
  clear k0
  go_enter Try.func7, Try.ntmps7
  go_wp2_with fail
  refine (BigFault_any _ _ _ _ _ _ (HS.out.rd.kept0 K0.out)).mono ?_
  rintro e w1 ⟨rfl, k1⟩
  rw [HF.out]
  obtain ⟨r0, u0, _⟩ := k1.top (g := w.heap.size + 1) (by simp) (by simp) 0 (v := .int .i64 0) rfl
  obtain ⟨r1, u1, _⟩ := k1.top (g := w.heap.size + 1) (by simp) (by simp) 1 (v := .int .i64 0) rfl
  have K1 := Lib.hid (K0.out.trans0 k1)
  clear k1
  go_wp2_with fail
  obtain ⟨_, s0, s1⟩ := cells2 (.int .i64 f) (.int .i64 0) r0 r1
  refine bodyPost_ret (v := .agg #[.int .i64 f, .int .i64 0]) (by simp [results, Try.results7, go_sem, s0, s1]) rfl ⟨rfl, (K1.out.setCell _ _ (by simp)).setCell _ _ (by simp)⟩

end Go.Proofs.Ytakomjocihlacaa
