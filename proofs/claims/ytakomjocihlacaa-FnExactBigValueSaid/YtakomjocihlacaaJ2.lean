/-
 Several of my texts in one, each as it was: Fault, Comp, BigA, AddT, Copy, Add, SAdd, BigB, Sub, BigC. No condition but theirs.
-/
import Derived.Test.YtakomjocihlacaaJ1
import Derived.Handy
import Derived.Laws.CopyOwn
import Derived.Laws.AppendOwnNone
import Derived.Lib.SliceRun
import Derived.Deep.RegionHeld3
import Derived.Deep.DrawnRows
namespace Go.Proofs.Ytakomjocihlacaa
open Go.RowKit

theorem rd_three (w : World) (x : Int) : Rd (w.alloc (.cells #[.int .i64 0, .int .i64 x, .int .i64 65535] 2)) (some ⟨w.heap.size, 0, none⟩) 3 [0, x, 65535] := by
 have := Sl.ofBlk (Blk.new w [0, x, 65535]) (by simp)
 exact this.rd
theorem ord_three (x : Int) : (decide (0 ≤ x ∧ x ≤ 65535)) = true ↔ OrdTo [0, x, 65535] 3 := by
 rw [decide_eq_true_eq]
 constructor
 ·intro h i hi
  rcases (by omega : i = 0 ∨ i = 1) with rfl | rfl
  ·simpa using h.1
  ·simpa using h.2
 ·intro h
  have h0 := h 0 (by omega)
  have h1 := h 1 (by omega)
  simp at h0 h1
  exact ⟨h0, h1⟩

set_option maxHeartbeats 400000 in
theorem NatFault_any (a : Option Addr) (n c : Nat) (xs : List Int) (w : World) (h : Rd w a n xs) :
  Calls Try.prog 26 #[.slice a n c] w (Ans w (.int .i64 (natFault xs))) := by
 have hlen := h.1
 have hmax := h.2.1
 have HR := Lib.hid h
 have HL := Lib.hid hlen
 clear h hlen
 by_cases h40 : 40 < n
 ·have hv : Hid (natFault xs = 2) := natFault_many (by rw [HL.out]; exact h40)
  go_enter Try.func26, Try.ntmps26
  go_wp2
  go_ret
  exact ⟨by rw [hv.out]; rfl, Kept.refl _ _⟩
 ·go_enter Try.func26, Try.ntmps26
  go_wp2
  go_loopw [10] (fun i wr => ∃ k : Nat, k ≤ n ∧ i = .int .i64 k ∧ Hid (LimbsTo xs k) ∧ Hid (Kept [] w wr)) (fun i _ => n - (intOf i).toNat)
  case atStart => exact ⟨0, Nat.zero_le _, rfl, fun i hi => by omega, Kept.refl [] w⟩
  case round =>
   obtain ⟨k, hk, rfl, hO, hK⟩ := hrel
   by_cases hlt : k < n
   ·obtain ⟨g, off, rfl, hc0⟩ := HR.out.2.2 k hlt
    have hc := hK.out.cell hc0 (by simp)
    clear hc0
    by_cases hin : 0 ≤ xs.getD k 0 ∧ xs.getD k 0 ≤ 65535
    ·have hb : Hid (decide (0 ≤ xs.getD k 0 ∧ xs.getD k 0 ≤ 65535) = true) := decide_eq_true hin
     have hO2 : Hid (LimbsTo xs (k + 1)) := fun i hi => by
      by_cases he : i < k
      ·exact hO.out i he
      ·obtain rfl : i = k := by omega
       exact hin
     clear hin
     generalize hz : xs.getD k 0 = z at *
     clear hz
     go_wp2_with (go_at_call 36; refine (inOrder_any _ _ _ _ _ (rd_three _ _) _ (ord_three _)).mono ?_; rintro e w1 ⟨rfl, hq⟩; rw [hb.out])
     have hK2 : Hid (Kept [] w w1) := (hK.out.alloc _).trans0 hq
     clear hK hq
     go_roundw
     case rel => exact ⟨k + 1, by omega, by go_num, hO2, hK2⟩
     case measure => simp [intOf]; omega
    ·have hb : Hid (decide (0 ≤ xs.getD k 0 ∧ xs.getD k 0 ≤ 65535) = false) := decide_eq_false hin
     have hv : Hid (natFault xs = 3) := natFault_range (by rw [HL.out]; exact h40) k (by rw [HL.out]; exact hlt) hin
     clear hin
     generalize hz : xs.getD k 0 = z at *
     clear hz
     go_wp2_with (go_at_call 36; refine (inOrder_any _ _ _ _ _ (rd_three _ _) _ (ord_three _)).mono ?_; rintro e w1 ⟨rfl, hq⟩; rw [hb.out])
     have hK2 : Hid (Kept [] w w1) := (hK.out.alloc _).trans0 hq
     clear hK hq
     go_ret
     exact ⟨by rw [hv.out]; rfl, hK2.out⟩
   ·obtain rfl : k = n := by omega
    by_cases hp : 0 < k
    ·obtain ⟨g, off, rfl, hc0⟩ := HR.out.2.2 (k - 1) (by omega)
     have hc := hK.out.cell hc0 (by simp)
     clear hc0
     have e1 : IntKind.i64.wrap ((k : Int) - 1) = (k : Int) - 1 := IntWalk.i64_in _ (by omega)
     have hp' : (0 : Int) < (k : Int) := by omega
     have hlt2 : (k : Int) - 1 < k := by omega
     by_cases hz : xs.getD (k - 1) 0 = 0
     ·have hv : Hid (natFault xs = 1) := natFault_form (by rw [HL.out]; exact h40) (by rw [HL.out]; exact hO.out) (by rw [HL.out]; exact hp) (by rw [HL.out]; exact hz)
      rw [hz] at hc
      clear hz
      go_wp2
      go_ret
      exact ⟨by rw [hv.out]; rfl, hK.out⟩
     ·have hv : Hid (natFault xs = 0) := natFault_ok (by rw [HL.out]; exact h40) (by rw [HL.out]; exact hO.out) (fun _ => by rw [HL.out]; exact hz)
      have hz' : (xs.getD (k - 1) 0 == 0) = false := by rw [beq_eq_false_iff_ne]; exact hz
      clear hz
      generalize hy : xs.getD (k - 1) 0 = y at *
      clear hy
      go_wp2
      go_ret
      exact ⟨by rw [hv.out]; rfl, hK.out⟩
    ·obtain rfl : k = 0 := by omega
     have hv : Hid (natFault xs = 0) := natFault_ok (by rw [HL.out]; exact h40) (by rw [HL.out]; exact hO.out) (fun h9 => by have := HL.out; omega)
     go_wp2
     go_ret
     exact ⟨by rw [hv.out]; rfl, hK.out⟩

set_option maxHeartbeats 400000 in
theorem sNatFault_any (a : Option Addr) (n c : Nat) (xs : List Int) (w : World) (h : Rd w a n xs) :
  Calls Try.prog 19 #[.slice a n c] w (Ans w (.int .i64 (natFault xs))) := by
 have hlen := h.1
 have hmax := h.2.1
 have HR := Lib.hid h
 have HL := Lib.hid hlen
 clear h hlen
 by_cases h40 : 40 < n
 ·have hv : Hid (natFault xs = 2) := natFault_many (by rw [HL.out]; exact h40)
  go_enter Try.func19, Try.ntmps19
  go_wp2
  go_ret
  exact ⟨by rw [hv.out]; rfl, Kept.refl _ _⟩
 ·go_enter Try.func19, Try.ntmps19
  go_wp2
  go_loopw [3] (fun i wr => ∃ k : Nat, k ≤ n ∧ i = .int .i64 k ∧ Hid (LimbsTo xs k) ∧ Hid (Kept [] w wr)) (fun i _ => n - (intOf i).toNat)
  case atStart => exact ⟨0, Nat.zero_le _, rfl, fun i hi => by omega, Kept.refl [] w⟩
  case round =>
   obtain ⟨k, hk, rfl, hO, hK⟩ := hrel
   by_cases hlt : k < n
   ·obtain ⟨g, off, rfl, hc0⟩ := HR.out.2.2 k hlt
    have hc := hK.out.cell hc0 (by simp)
    clear hc0
    by_cases hin : 0 ≤ xs.getD k 0 ∧ xs.getD k 0 ≤ 65535
    ·have hb : Hid (decide (0 ≤ xs.getD k 0 ∧ xs.getD k 0 ≤ 65535) = true) := decide_eq_true hin
     have hO2 : Hid (LimbsTo xs (k + 1)) := fun i hi => by
      by_cases he : i < k
      ·exact hO.out i he
      ·obtain rfl : i = k := by omega
       exact hin
     obtain ⟨hi1, hi2⟩ := hin
     generalize hz : xs.getD k 0 = z at *
     clear hz
     go_wp2
     go_roundw
     case rel => exact ⟨k + 1, by omega, by go_num, hO2, hK⟩
     case measure => simp [intOf]; omega
    ·have hb : Hid (decide (0 ≤ xs.getD k 0 ∧ xs.getD k 0 ≤ 65535) = false) := decide_eq_false hin
     have hv : Hid (natFault xs = 3) := natFault_range (by rw [HL.out]; exact h40) k (by rw [HL.out]; exact hlt) hin
     generalize hz : xs.getD k 0 = z at *
     clear hz
     by_cases hlo : 0 ≤ z
     ·have hhi : decide (z ≤ 65535) = false := decide_eq_false (by omega)
      clear hin
      go_wp2
      go_ret
      exact ⟨by rw [hv.out]; rfl, hK.out⟩
     ·have hlo' : z < 0 := by omega
      clear hin
      go_wp2
      go_ret
      exact ⟨by rw [hv.out]; rfl, hK.out⟩
   ·obtain rfl : k = n := by omega
    by_cases hp : 0 < k
    ·obtain ⟨g, off, rfl, hc0⟩ := HR.out.2.2 (k - 1) (by omega)
     have hc := hK.out.cell hc0 (by simp)
     clear hc0
     have e1 : IntKind.i64.wrap ((k : Int) - 1) = (k : Int) - 1 := IntWalk.i64_in _ (by omega)
     have hp' : (0 : Int) < (k : Int) := by omega
     have hlt2 : (k : Int) - 1 < k := by omega
     by_cases hz : xs.getD (k - 1) 0 = 0
     ·have hv : Hid (natFault xs = 1) := natFault_form (by rw [HL.out]; exact h40) (by rw [HL.out]; exact hO.out) (by rw [HL.out]; exact hp) (by rw [HL.out]; exact hz)
      rw [hz] at hc
      clear hz
      go_wp2
      go_ret
      exact ⟨by rw [hv.out]; rfl, hK.out⟩
     ·have hv : Hid (natFault xs = 0) := natFault_ok (by rw [HL.out]; exact h40) (by rw [HL.out]; exact hO.out) (fun _ => by rw [HL.out]; exact hz)
      have hz' : (xs.getD (k - 1) 0 == 0) = false := by rw [beq_eq_false_iff_ne]; exact hz
      clear hz
      generalize hy : xs.getD (k - 1) 0 = y at *
      clear hy
      go_wp2
      go_ret
      exact ⟨by rw [hv.out]; rfl, hK.out⟩
    ·obtain rfl : k = 0 := by omega
     have hv : Hid (natFault xs = 0) := natFault_ok (by rw [HL.out]; exact h40) (by rw [HL.out]; exact hO.out) (fun h9 => by have := HL.out; omega)
     go_wp2
     go_ret
     exact ⟨by rw [hv.out]; rfl, hK.out⟩

end Go.Proofs.Ytakomjocihlacaa

namespace Go.Proofs.Ytakomjocihlacaa
open Go.RowKit

set_option maxHeartbeats 400000 in
theorem l1Compare_any (a b : Option Addr) (n c m c' : Nat) (xs ys : List Int) (w : World) (h : Rd w a n xs) (h' : Rd w b m ys) (hx : Nat40 xs) (hy : Nat40 ys) :
  Calls Try.prog 37 #[.slice a n c, .slice b m c'] w (Ans w (.int .i64 (cmpV (val xs) (val ys)))) := by
 have HR := Lib.hid h
 have HR' := Lib.hid h'
 have HL := Lib.hid h.1
 have HL' := Lib.hid h'.1
 have hm := h.2.1
 have hm' := h'.2.1
 have HX := Lib.hid hx
 have HY := Lib.hid hy
 clear h h' hx hy
 by_cases hne : n = m
 ·subst hne
  go_enter Try.func37, Try.ntmps37
  go_wp2
  go_loopw [5] (fun i wr => ∃ k : Nat, k ≤ n ∧ i = .int .i64 ((k : Int) - 1) ∧ Hid (∀ j, k ≤ j → j < n → xs.getD j 0 = ys.getD j 0) ∧ Hid (Kept [] w wr)) (fun i _ => (intOf i + 1).toNat)
  case atStart => exact ⟨n, Nat.le_refl _, rfl, fun j h1 h2 => by omega, Kept.refl [] w⟩
  case round =>
   obtain ⟨k, hk, rfl, hE, hK⟩ := hrel
   by_cases hlt : 0 < k
   ·obtain ⟨g, off, rfl, hc0⟩ := HR.out.2.2 (k - 1) (by omega)
    obtain ⟨g', off', rfl, hc0'⟩ := HR'.out.2.2 (k - 1) (by omega)
    have hc := hK.out.cell hc0 (by simp)
    have hc' := hK.out.cell hc0' (by simp)
    have h0 : (0 : Int) ≤ (k : Int) - 1 := by omega
    have h1 : (1 : Int) ≤ (k : Int) := by omega
    have h2 : (k : Int) - 1 < (n : Int) := by omega
    have e1 : IntKind.i64.wrap ((k : Int) - 1 - 1) = (k : Int) - 1 - 1 := IntWalk.i64_in _ (by omega)
    clear hc0 hc0'
    rcases Int.lt_trichotomy (xs.getD (k - 1) 0) (ys.getD (k - 1) 0) with hl | hl | hl
    ·have hv : Hid (cmpV (val xs) (val ys) = -1) := cmpV_lt (val_lt_at HX.out.limb HY.out.limb n (k - 1) (by omega) (Nat.le_of_eq HL.out) (Nat.le_of_eq HL'.out) (fun j h1 h2 => hE.out j (by omega) h2) hl)
     generalize hy : xs.getD (k - 1) 0 = y at *
     generalize hz : ys.getD (k - 1) 0 = z at *
     clear hy hz
     go_wp2
     go_quiet (fail)
     have hK2 : Hid (Kept [] w (wr.drewN nq)) := hK.out.drewN _
     clear hK
     go_wp2
     go_ret
     exact ⟨by rw [hv.out]; rfl, hK2.out⟩
    ·have hE2 : Hid (∀ j, k - 1 ≤ j → j < n → xs.getD j 0 = ys.getD j 0) := fun j h1 h2 => by
      by_cases e : j = k - 1
      ·subst e; exact hl
      ·exact hE.out j (by omega) h2
     rw [← hl] at hc'
     clear hl
     generalize hy : xs.getD (k - 1) 0 = y at *
     clear hy
     go_wp2
     go_quiet (fail)
     go_wp2
     go_quiet (fail)
     go_wp2
     go_roundw
     case rel => exact ⟨k - 1, by omega, by congr 1; omega, hE2, by first | exact (hK.out.drewN _).drewN _ | exact hK.out.drewN _⟩
     case measure => simp [intOf]; omega
    ·have hv : Hid (cmpV (val xs) (val ys) = 1) := cmpV_gt (val_lt_at HY.out.limb HX.out.limb n (k - 1) (by omega) (Nat.le_of_eq HL'.out) (Nat.le_of_eq HL.out) (fun j h1 h2 => (hE.out j (by omega) h2).symm) hl)
     have hnl : ¬ xs.getD (k - 1) 0 < ys.getD (k - 1) 0 := by omega
     generalize hy : xs.getD (k - 1) 0 = y at *
     generalize hz : ys.getD (k - 1) 0 = z at *
     clear hy hz
     go_wp2
     go_quiet (fail)
     go_wp2
     go_quiet (fail)
     go_wp2
     go_ret
     exact ⟨by rw [hv.out]; rfl, by first | exact (hK.out.drewN _).drewN _ | exact hK.out.drewN _⟩
   ·obtain rfl : k = 0 := by omega
    have hv : Hid (cmpV (val xs) (val ys) = 0) := cmpV_eq (val_eq_at n (Nat.le_of_eq HL.out) (Nat.le_of_eq HL'.out) (fun j hj => hE.out j (Nat.zero_le _) hj))
    go_wp2
    go_ret
    exact ⟨by rw [hv.out]; rfl, hK.out⟩
 ·have hne' : ((n : Int) == (m : Int)) = false := by rw [beq_eq_false_iff_ne]; omega
  by_cases hl : n < m
  ·have hv : Hid (cmpV (val xs) (val ys) = -1) := cmpV_lt (val_lt_len HX.out HY.out (by rw [HL.out, HL'.out]; exact hl))
   go_enter Try.func37, Try.ntmps37
   go_wp2
   go_ret
   exact ⟨by rw [hv.out]; rfl, Kept.refl _ _⟩
  ·have hv : Hid (cmpV (val xs) (val ys) = 1) := cmpV_gt (val_lt_len HY.out HX.out (by rw [HL.out, HL'.out]; omega))
   go_enter Try.func37, Try.ntmps37
   go_wp2
   go_ret
   exact ⟨by rw [hv.out]; rfl, Kept.refl _ _⟩

end Go.Proofs.Ytakomjocihlacaa

namespace Go.Proofs.Ytakomjocihlacaa
open Go.RowKit

theorem Rd.len {w : World} {a : Option Addr} {n : Nat} {xs : List Int} (h : Rd w a n xs) : xs.length = n := h.1

set_option maxHeartbeats 400000 in
theorem BigFault_any (b : Bool) (a : Option Addr) (n c : Nat) (xs : List Int) (w : World) (h : Rd w a n xs) :
  Calls Try.prog 16 #[.agg #[.bool b, .slice a n c]] w (Ans w (.int .i64 (bigFault b xs))) := by
 have HR := Lib.hid h
 have HL := Lib.hid h.1
 have hmax := h.2.1
 clear h
 have k0 : Kept [] w (w.alloc (.cells #[.bool b, .slice a n c] 29)) := (Kept.refl [] w).alloc _
 have K0 := Lib.hid k0
 clear k0
 by_cases hz : natFault xs = 0
 ·have hz' := Lib.hid hz
  cases b with
  | false =>
   have hv : Hid (bigFault false xs = 0) := bigFault_ok hz (fun h => by cases h)
   clear hz
   go_enter Try.func16, Try.ntmps16
   go_wp2_with fail
   refine (NatFault_any _ _ _ _ _ (HR.out.kept0 K0.out)).mono ?_
   rintro e w1 ⟨rfl, hk⟩
   rw [hz'.out]
   obtain ⟨c1, _, _⟩ := hk.top (g := w.heap.size) (by simp) (by simp) 0 rfl
   obtain ⟨c2, _, _⟩ := hk.top (g := w.heap.size) (by simp) (by simp) 1 rfl
   have HK := Lib.hid (K0.out.trans0 hk)
   clear hk
   go_wp2_with fail
   go_ret
   exact ⟨by rw [hv.out]; rfl, HK.out⟩
  | true =>
   by_cases hn : n = 0
   ·subst hn
    have hv : Hid (bigFault true xs = 1) := bigFault_form hz HL.out
    clear hz
    go_enter Try.func16, Try.ntmps16
    go_wp2_with fail
    refine (NatFault_any _ _ _ _ _ (HR.out.kept0 K0.out)).mono ?_
    rintro e w1 ⟨rfl, hk⟩
    rw [hz'.out]
    obtain ⟨c1, _, _⟩ := hk.top (g := w.heap.size) (by simp) (by simp) 0 rfl
    obtain ⟨c2, _, _⟩ := hk.top (g := w.heap.size) (by simp) (by simp) 1 rfl
    have HK := Lib.hid (K0.out.trans0 hk)
    clear hk
    go_wp2_with fail
    go_ret
    exact ⟨by rw [hv.out]; rfl, HK.out⟩
   ·have hv : Hid (bigFault true xs = 0) := bigFault_ok hz (fun _ => by rw [HL.out]; exact hn)
    have hn' : ((n : Int) == 0) = false := by rw [beq_eq_false_iff_ne]; omega
    clear hz
    go_enter Try.func16, Try.ntmps16
    go_wp2_with fail
    refine (NatFault_any _ _ _ _ _ (HR.out.kept0 K0.out)).mono ?_
    rintro e w1 ⟨rfl, hk⟩
    rw [hz'.out]
    obtain ⟨c1, _, _⟩ := hk.top (g := w.heap.size) (by simp) (by simp) 0 rfl
    obtain ⟨c2, _, _⟩ := hk.top (g := w.heap.size) (by simp) (by simp) 1 rfl
    have HK := Lib.hid (K0.out.trans0 hk)
    clear hk
    go_wp2_with fail
    go_ret
    exact ⟨by rw [hv.out]; rfl, HK.out⟩
 ·have hv : Hid (bigFault b xs = natFault xs) := bigFault_nat hz
  generalize hf : natFault xs = f at *
  have hne : (f == 0) = false := by rw [beq_eq_false_iff_ne]; exact hz
  have HF := Lib.hid hf
  clear hf hz
  go_enter Try.func16, Try.ntmps16
  go_wp2_with fail
  refine (NatFault_any _ _ _ _ _ (HR.out.kept0 K0.out)).mono ?_
  rintro e w1 ⟨rfl, hk⟩
  rw [HF.out]
  have HK := Lib.hid (K0.out.trans0 hk)
  clear hk
  go_wp2_with fail
  go_ret
  exact ⟨by rw [hv.out]; rfl, HK.out⟩

set_option maxHeartbeats 400000 in
theorem sBigFault_any (b : Bool) (a : Option Addr) (n c : Nat) (xs : List Int) (w : World) (h : Rd w a n xs) :
  Calls Try.prog 11 #[.agg #[.bool b, .slice a n c]] w (Ans w (.int .i64 (bigFault b xs))) := by
 have HR := Lib.hid h
 have HL := Lib.hid h.1
 have hmax := h.2.1
 clear h
 have k0 : Kept [] w (w.alloc (.cells #[.bool b, .slice a n c] 29)) := (Kept.refl [] w).alloc _
 have K0 := Lib.hid k0
 clear k0
 by_cases hz : natFault xs = 0
 ·have hz' := Lib.hid hz
  cases b with
  | false =>
   have hv : Hid (bigFault false xs = 0) := bigFault_ok hz (fun h => by cases h)
   clear hz
   go_enter Try.func11, Try.ntmps11
   go_wp2_with fail
   refine (sNatFault_any _ _ _ _ _ (HR.out.kept0 K0.out)).mono ?_
   rintro e w1 ⟨rfl, hk⟩
   rw [hz'.out]
   obtain ⟨c1, _, _⟩ := hk.top (g := w.heap.size) (by simp) (by simp) 0 rfl
   obtain ⟨c2, _, _⟩ := hk.top (g := w.heap.size) (by simp) (by simp) 1 rfl
   have HK := Lib.hid (K0.out.trans0 hk)
   clear hk
   go_wp2_with fail
   go_ret
   exact ⟨by rw [hv.out]; rfl, HK.out⟩
  | true =>
   by_cases hn : n = 0
   ·subst hn
    have hv : Hid (bigFault true xs = 1) := bigFault_form hz HL.out
    clear hz
    go_enter Try.func11, Try.ntmps11
    go_wp2_with fail
    refine (sNatFault_any _ _ _ _ _ (HR.out.kept0 K0.out)).mono ?_
    rintro e w1 ⟨rfl, hk⟩
    rw [hz'.out]
    obtain ⟨c1, _, _⟩ := hk.top (g := w.heap.size) (by simp) (by simp) 0 rfl
    obtain ⟨c2, _, _⟩ := hk.top (g := w.heap.size) (by simp) (by simp) 1 rfl
    have HK := Lib.hid (K0.out.trans0 hk)
    clear hk
    go_wp2_with fail
    go_ret
    exact ⟨by rw [hv.out]; rfl, HK.out⟩
   ·have hv : Hid (bigFault true xs = 0) := bigFault_ok hz (fun _ => by rw [HL.out]; exact hn)
    have hn' : ((n : Int) == 0) = false := by rw [beq_eq_false_iff_ne]; omega
    clear hz
    go_enter Try.func11, Try.ntmps11
    go_wp2_with fail
    refine (sNatFault_any _ _ _ _ _ (HR.out.kept0 K0.out)).mono ?_
    rintro e w1 ⟨rfl, hk⟩
    rw [hz'.out]
    obtain ⟨c1, _, _⟩ := hk.top (g := w.heap.size) (by simp) (by simp) 0 rfl
    obtain ⟨c2, _, _⟩ := hk.top (g := w.heap.size) (by simp) (by simp) 1 rfl
    have HK := Lib.hid (K0.out.trans0 hk)
    clear hk
    go_wp2_with fail
    go_ret
    exact ⟨by rw [hv.out]; rfl, HK.out⟩
 ·have hv : Hid (bigFault b xs = natFault xs) := bigFault_nat hz
  generalize hf : natFault xs = f at *
  have hne : (f == 0) = false := by rw [beq_eq_false_iff_ne]; exact hz
  have HF := Lib.hid hf
  clear hf hz
  go_enter Try.func11, Try.ntmps11
  go_wp2_with fail
  refine (sNatFault_any _ _ _ _ _ (HR.out.kept0 K0.out)).mono ?_
  rintro e w1 ⟨rfl, hk⟩
  rw [HF.out]
  have HK := Lib.hid (K0.out.trans0 hk)
  clear hk
  go_wp2_with fail
  go_ret
  exact ⟨by rw [hv.out]; rfl, HK.out⟩

end Go.Proofs.Ytakomjocihlacaa

namespace Go.Proofs.Ytakomjocihlacaa
open Go.RowKit

set_option maxHeartbeats 400000 in
theorem trimLimbs_any (a : Option Addr) (n c : Nat) (xs : List Int) (w : World) (h : Rd w a n xs) (hc : n ≤ c) (hcm : c ≤ 9223372036854775807) (hl : AllLimbs xs) :
  Calls Try.prog 29 #[.slice a n c] w fun e w' => e = .returned (.slice a (digits (val xs)).length c) ∧ (digits (val xs) = xs.take (digits (val xs)).length) ∧ (digits (val xs)).length ≤ n ∧ w = w' := by
 have hmax := h.2.1
 have HR := Lib.hid h
 have HL := Lib.hid h.1
 have HLL := Lib.hid hl
 clear h hl
 go_enter Try.func29, Try.ntmps29
 go_wp2
 go_loopw [3] (fun i wr => ∃ k : Nat, k ≤ n ∧ i = .int .i64 k ∧ Hid (∀ j, k ≤ j → j < n → xs.getD j 0 = 0) ∧ wr = w) (fun i _ => (intOf i).toNat)
 case atStart => exact ⟨n, Nat.le_refl _, rfl, fun j h1 h2 => by omega, rfl⟩
 case round =>
  obtain ⟨k, hk, rfl, hZ, rfl⟩ := hrel
  by_cases hp : 0 < k
  ·obtain ⟨g, off, rfl, hc0⟩ := HR.out.2.2 (k - 1) (by omega)
   have hp' : (0 : Int) < (k : Int) := by omega
   have h1 : (1 : Int) ≤ (k : Int) := by omega
   have h2 : (k : Int) - 1 < (n : Int) := by omega
   have h0 : (0 : Int) ≤ (k : Int) - 1 := by omega
   by_cases hz : xs.getD (k - 1) 0 = 0
   ·have hZ2 : Hid (∀ j, k - 1 ≤ j → j < n → xs.getD j 0 = 0) := fun j h1 h2 => by
     by_cases e : j = k - 1
     ·subst e; exact hz
     ·exact hZ.out j (by omega) h2
    rw [hz] at hc0
    clear hz
    go_wp2
    go_roundw
    case rel => exact ⟨k - 1, by omega, by congr 1; omega, hZ2, by trivial⟩
    case measure => simp [intOf]; omega
   ·have hd : Hid (xs.take k = digits (val xs)) := take_digits HLL.out k (by rw [HL.out]; exact hk) (fun j h1 h2 => hZ.out j h1 (by rw [← HL.out]; exact h2)) (fun _ => hz)
    have hdl : Hid ((digits (val xs)).length = k) := by show _ = _; rw [← hd.out, List.length_take, HL.out]; omega
    have hz' : (xs.getD (k - 1) 0 == 0) = false := by rw [beq_eq_false_iff_ne]; exact hz
    have hkc : k ≤ c := by omega
    clear hz
    generalize hy : xs.getD (k - 1) 0 = y at *
    clear hy
    go_wp2
    go_ret
    exact ⟨by rw [hdl.out]; rfl, by rw [hdl.out, hd.out], by rw [hdl.out]; exact hk, rfl⟩
  ·obtain rfl : k = 0 := by omega
   have hd : Hid (xs.take 0 = digits (val xs)) := take_digits HLL.out 0 (by omega) (fun j h1 h2 => hZ.out j h1 (by rw [← HL.out]; exact h2)) (fun h => by omega)
   have hdl : Hid ((digits (val xs)).length = 0) := by show _ = _; rw [← hd.out]; rfl
   go_wp2
   go_ret
   exact ⟨by rw [hdl.out]; rfl, by rw [hdl.out, hd.out], by rw [hdl.out]; exact hk, rfl⟩

end Go.Proofs.Ytakomjocihlacaa

namespace Go.Proofs.Ytakomjocihlacaa
open Go.RowKit

theorem getD_map {xs : List Int} {j : Nat} {u : Value} (h : (xs.map (Value.int .i64))[j]? = some u) : j < xs.length ∧ u = .int .i64 (xs.getD j 0) := by
 have hj : j < xs.length := by simpa using (List.getElem?_eq_some_iff.1 h).1
 refine ⟨hj, ?_⟩
 rw [List.getElem?_map, List.getElem?_eq_getElem hj] at h
 simp at h
 rw [← h]; simp [List.getD_eq_getElem?_getD, hj]

/-- The list cs, its head overwritten by xs. -/
def over (cs xs : List Int) : List Int := xs ++ cs.drop xs.length
/-- A whole slice appended to one that the call owns. -/
theorem appS {w : World} {ops : Array Oper} {rest : List Oper} {o : Oper} {a : Act} {Q : Exit → Act → World → Prop} (hgd : o.guard = none) (s x : Operand)
  (ho : o.op = .call { callee := .builtin .append, args := #[s, x], argTypes := #[22, 22] })
  (base : Nat) (v : Value) (xs : List Int) (hs : a.eval s = v) (hown : Ow base w v xs)
  (b : Option Addr) (m c : Nat) (ys : List Int) (hx : a.eval x = .slice b m c) (hr : Rd w b m ys) (hbc : b = none → m = 0 ∧ c = 0)
  (hlen : xs.length + m ≤ 1099511627776) (hbase : base ≤ w.heap.size)
  (h : ∀ v' w', Ow base w' v' (xs ++ ys) → w.grownBy w' v.ownBlock → wpList Try.prog ops Q rest (a.put o.dst v') w') :
  wpList Try.prog ops Q (o :: rest) a w := by
 obtain ⟨i0, hi, hz0, hz1, hz2⟩ := info_parts Try.info64
 have hyl := hr.1
 cases b with
 | none =>
  obtain ⟨rfl, rfl⟩ := hbc rfl
  have hy : ys = [] := List.eq_nil_of_length_eq_zero hyl
  subst hy
  refine wpList_append_own_none hgd s x 22 ho base 2 i0 1 Try.underlying22 hi v xs.length _ hs hown hx ?_
  exact h v w (by rw [List.append_nil]; exact hown) (World.grownBy.refl w _)
 | some ad =>
  refine wpList_append_own w hgd s x 22 ho base 2 i0 (.int .i64 0) 1 8 Try.underlying22 hi hz0 hz1 hz2 rfl (by decide) v xs.length _ hs hown ad m c (ys.map (Value.int .i64)) hx (by rw [List.length_map, hyl, Nat.mul_one]) ?_ ?_ ?_ ?_ hbase ?_
  ·intro j u hj
   obtain ⟨hj', rfl⟩ := getD_map hj
   obtain ⟨g2, off2, he, hc⟩ := hr.2.2 j (by omega)
   cases he
   rw [Addr.add_lit]; exact hc
  ·exact fun v hv => by obtain ⟨_, _, rfl⟩ := List.mem_map.1 hv; rfl
  ·unfold maxLen; omega
  ·omega
  ·intro v' w' h1 h2 _
   refine h v' w' ?_ h2
   unfold Ow
   rw [List.length_append, hyl, List.map_append]
   exact h1

end Go.Proofs.Ytakomjocihlacaa

namespace Go.Proofs.Ytakomjocihlacaa
open Go.RowKit

theorem Sl.front {w : World} {a : Option Addr} {n c : Nat} {xs : List Int} (h : Sl w a n c xs) (k : Nat) (hk : k ≤ n) : Sl w a k c (xs.take k) := by
 obtain ⟨h1, h2, h3, h5, h4⟩ := h
 refine ⟨by rw [List.length_take]; omega, by omega, h3, h5, ?_⟩
 by_cases h0 : k = 0
 ·exact Or.inl h0
 ·rcases h4 with h4 | ⟨g, off, cs, ha, hb, hl, he⟩
  ·omega
  ·exact Or.inr ⟨g, off, cs, ha, hb, by omega, fun i hi => by
    rw [he i (by omega)]
    simp only [List.getD_eq_getElem?_getD, List.getElem?_take, hi, if_true]⟩

/-- What fits so many limbs has nothing carried out of them. -/
theorem no_carryN {out : List Int} {cy T : Int} {n : Nat} (ho : AllLimbs out) (hl : out.length = n) (hT : 0 ≤ T ∧ T < pw n) (h : ap out cy = T) : cy = 0 ∧ val out = T := by
 have h1 := ho.val
 rw [ap_pw, hl] at h
 rw [hl] at h1
 have hp := pw_pos n
 generalize pw n = P at *
 have hc : cy = 0 := by
  rcases Int.lt_trichotomy cy 0 with hc | hc | hc
  ·have : P * cy ≤ P * (-1) := Int.mul_le_mul_of_nonneg_left (by omega) (by omega)
   omega
  ·exact hc
  ·have : P * 1 ≤ P * cy := Int.mul_le_mul_of_nonneg_left (by omega) (by omega)
   omega
 subst hc
 simp at h; exact ⟨rfl, h⟩

end Go.Proofs.Ytakomjocihlacaa

namespace Go.Proofs.Ytakomjocihlacaa
open Go.RowKit

set_option maxHeartbeats 400000 in
theorem l1At_at (a : Option Addr) (n c : Nat) (xs : List Int) (k : Nat) (y : Int) (w : World) (h : Rd w a n xs) (_hk : k ≤ 9223372036854775807) (hv : xs.getD k 0 = y) :
  Calls Try.prog 34 #[.slice a n c, .int .i64 k] w fun e w' => e = .returned (.int .i64 y) ∧ w = w' := by
 have HR := Lib.hid h
 have hmax := h.2.1
 have HL := Lib.hid h.1
 have HV := Lib.hid hv
 clear h hv
 by_cases hlt : k < n
 ·obtain ⟨g, off, rfl, hc⟩ := HR.out.2.2 k hlt
  rw [HV.out] at hc
  go_enter Try.func34, Try.ntmps34
  go_wp2
  go_ret
  exact ⟨rfl, rfl⟩
 ·have h0 : Hid (y = 0) := by show y = 0; rw [← HV.out]; exact getD_past (by rw [HL.out]; omega)
  go_enter Try.func34, Try.ntmps34
  go_wp2
  go_ret
  exact ⟨by rw [h0.out]; rfl, rfl⟩

set_option maxHeartbeats 2000000 in
theorem l1Add_any (a b : Option Addr) (n c m c' : Nat) (xs ys : List Int) (w : World) (h : Rd w a n xs) (h' : Rd w b m ys) (hx : Canon xs) (hy : Canon ys) (hn : n ≤ 1000000) (hm : m ≤ 1000000) :
  Calls Try.prog 23 #[.slice a n c, .slice b m c'] w (SlR w (digits (val xs + val ys))) := by
 have HR := Lib.hid h
 have HR' := Lib.hid h'
 have HL := Lib.hid h.1
 have HL' := Lib.hid h'.1
 have HXL := Lib.hid (canon_limbs hx)
 have HYL := Lib.hid (canon_limbs hy)
 have HCX := Lib.hid hx
 have HCY := Lib.hid hy
 obtain ⟨T, hT⟩ : ∃ T, T = val xs + val ys := ⟨_, rfl⟩
 rw [← hT]
 have HT := Lib.hid hT
 clear h h' hx hy hT
 go_enter Try.func23, Try.ntmps23
 go_wp2
 go_loopw [5, 6, 7] (fun v q i wr => ∃ (k : Nat) (out : List Int) (cy : Int), k ≤ 1000001 ∧ q = .int .i64 cy ∧ i = .int .i64 k ∧ 0 ≤ cy ∧ cy ≤ 1 ∧ Hid (out.length = k) ∧ Hid (AllLimbs out) ∧ Hid (ap out (cy + (val (xs.drop k) + val (ys.drop k))) = T) ∧ Hid (n < k → m < k → cy = 0) ∧ Hid (n ≤ k → m ≤ k → 0 < cy ∨ (0 < k → out.getD (out.length - 1) 0 ≠ 0)) ∧ Hid (Ow w.heap.size wr v out) ∧ Hid (Kept [] w wr)) (fun _ q i _ => 1000002 - (intOf i).toNat)
 case atStart => exact ⟨0, [], 0, by omega, rfl, rfl, by omega, by omega, rfl, fun i hi => by simp at hi, by show ap _ _ = T; rw [HT.out]; simp [ap], fun _ _ => rfl, fun _ _ => Or.inr (fun h => by omega), Ow.empty _ w (Nat.le_refl _), (Kept.refl [] w).alloc _⟩
 case round =>
  obtain ⟨k, out, cy, hk, rfl, rfl, hc1, hc2, hOL, hO, hAp, hCZ, hT, hW, hK⟩ := hrel
  have hcz : n < k → m < k → cy = 0 := hCZ.out
  have hgo : (k < n) ∨ (¬ k < n ∧ k < m) ∨ (¬ k < n ∧ ¬ k < m ∧ 0 < cy) ∨ (¬ k < n ∧ ¬ k < m ∧ ¬ 0 < cy) := by omega
  rcases hgo with h1 | ⟨h1, h2⟩ | ⟨h1, h2, h3⟩ | ⟨h1, h2, h3⟩
  ·have hd1 : decide ((k : Int) < (n : Int)) = true := decide_eq_true (by omega)
   have hav := HR.out.kept0 hK.out
   have hbv := HR'.out.kept0 hK.out
   have HAV := Lib.hid hav
   have HBV := Lib.hid hbv
   have ha0 := getD_limb HXL.out k
   have hb0 := getD_limb HYL.out k
   have hst := val_drop xs k
   have hst' := val_drop ys k
   have htx : k + 1 = xs.length → 0 < xs.getD k 0 := canon_top HCX.out k
   have hty : k + 1 = ys.length → 0 < ys.getD k 0 := canon_top HCY.out k
   have hpx : xs.length ≤ k → xs.getD k 0 = 0 := getD_past
   have hpy : ys.length ≤ k → ys.getD k 0 = 0 := getD_past
   rw [HL.out] at htx hpx
   rw [HL'.out] at hty hpy
   generalize hx0 : xs.getD k 0 = x0 at *
   generalize hy0 : ys.getD k 0 = y0 at *
   have HX0 := Lib.hid hx0
   have HY0 := Lib.hid hy0
   obtain ⟨s, hs⟩ : ∃ s, s = x0 + y0 + cy := ⟨_, rfl⟩
   have hs1 : 0 ≤ s := by omega
   have hs2 : s ≤ 131071 := by omega
   have hO2 : Hid (AllLimbs (out ++ [s % 65536])) := hO.out.snoc (by omega)
   have hAp2 : Hid (ap (out ++ [s % 65536]) (s / 65536 + (val (xs.drop (k + 1)) + val (ys.drop (k + 1)))) = T) := by
    show ap _ _ = T
    rw [ap_snoc, ← hAp.out]
    congr 1
    omega
   have hOL2 : Hid ((out ++ [s % 65536]).length = k + 1) := by show _ = _; rw [List.length_append, hOL.out]; rfl
   have hT2 : Hid (n ≤ k + 1 → m ≤ k + 1 → 0 < s / 65536 ∨ (0 < k + 1 → (out ++ [s % 65536]).getD ((out ++ [s % 65536]).length - 1) 0 ≠ 0)) := fun q1 q2 => by
    rw [getD_last]
    by_cases q3 : 0 < s / 65536
    ·exact Or.inl q3
    ·exact Or.inr (fun _ => by omega)
   have hk2 : k + 1 ≤ 1000001 := by omega
   have hCZ2 : Hid (n < k + 1 → m < k + 1 → s / 65536 = 0) := fun q1 q2 => by
    have := hpx (by omega); have := hpy (by omega); omega
   have hol : out.length ≤ 1000001 := by rw [hOL.out]; omega
   have hszr : w.heap.size ≤ wr.heap.size := hK.out.size
   have HS := Lib.hid hs
   have e1 : IntKind.i64.wrap (x0 + y0) = x0 + y0 := IntWalk.i64_in _ (by omega)
   have e2 : IntKind.i64.wrap (x0 + y0 + cy) = s := by rw [← hs]; exact IntWalk.i64_in _ (by omega)
   obtain ⟨ha1, ha2⟩ := ha0
   obtain ⟨hb1, hb2⟩ := hb0
   have HTX := Lib.hid htx
   have HTY := Lib.hid hty
   clear hcz hst hst' htx hty hpx hpy hx0 hy0 hs hO hAp hOL hav hbv hT
   go_wp2_with fail
   refine (l1At_at _ _ _ _ k x0 _ HAV.out (by omega) HX0.out).mono ?_
   rintro e w2 ⟨rfl, rfl⟩
   go_wp2_with fail
   refine (l1At_at _ _ _ _ k y0 _ HBV.out (by omega) HY0.out).mono ?_
   rintro e w2 ⟨rfl, rfl⟩
   go_wp2_with (at_builtin; refine app1 rfl _ _ rfl w.heap.size u5 out rfl (hW.out.alloc _) wr.heap.size (s % 65536) rfl (by simp) (by omega) (by simp; omega) ?_)
   intro v' w1 hW2 hG
   have HW2 := Lib.hid hW2
   have HK2 : Hid (Kept [] w w1) := kept_grown (hK.out.alloc _) (hW.out.alloc _) hG (Nat.le_refl _)
   clear hW2 hG
   go_wp2
   go_roundw
   case rel => exact ⟨k + 1, out ++ [s % 65536], s / 65536, by omega, rfl, by go_num, by omega, by omega, hOL2, hO2, hAp2, hCZ2, hT2, HW2.out, HK2⟩
   case measure => simp [intOf]; omega
  ·have hd1 : decide ((k : Int) < (n : Int)) = false := decide_eq_false (by omega)
   have hd2 : decide ((k : Int) < (m : Int)) = true := decide_eq_true (by omega)
   have hav := HR.out.kept0 hK.out
   have hbv := HR'.out.kept0 hK.out
   have HAV := Lib.hid hav
   have HBV := Lib.hid hbv
   have ha0 := getD_limb HXL.out k
   have hb0 := getD_limb HYL.out k
   have hst := val_drop xs k
   have hst' := val_drop ys k
   have htx : k + 1 = xs.length → 0 < xs.getD k 0 := canon_top HCX.out k
   have hty : k + 1 = ys.length → 0 < ys.getD k 0 := canon_top HCY.out k
   have hpx : xs.length ≤ k → xs.getD k 0 = 0 := getD_past
   have hpy : ys.length ≤ k → ys.getD k 0 = 0 := getD_past
   rw [HL.out] at htx hpx
   rw [HL'.out] at hty hpy
   generalize hx0 : xs.getD k 0 = x0 at *
   generalize hy0 : ys.getD k 0 = y0 at *
   have HX0 := Lib.hid hx0
   have HY0 := Lib.hid hy0
   obtain ⟨s, hs⟩ : ∃ s, s = x0 + y0 + cy := ⟨_, rfl⟩
   have hs1 : 0 ≤ s := by omega
   have hs2 : s ≤ 131071 := by omega
   have hO2 : Hid (AllLimbs (out ++ [s % 65536])) := hO.out.snoc (by omega)
   have hAp2 : Hid (ap (out ++ [s % 65536]) (s / 65536 + (val (xs.drop (k + 1)) + val (ys.drop (k + 1)))) = T) := by
    show ap _ _ = T
    rw [ap_snoc, ← hAp.out]
    congr 1
    omega
   have hOL2 : Hid ((out ++ [s % 65536]).length = k + 1) := by show _ = _; rw [List.length_append, hOL.out]; rfl
   have hT2 : Hid (n ≤ k + 1 → m ≤ k + 1 → 0 < s / 65536 ∨ (0 < k + 1 → (out ++ [s % 65536]).getD ((out ++ [s % 65536]).length - 1) 0 ≠ 0)) := fun q1 q2 => by
    rw [getD_last]
    by_cases q3 : 0 < s / 65536
    ·exact Or.inl q3
    ·exact Or.inr (fun _ => by omega)
   have hk2 : k + 1 ≤ 1000001 := by omega
   have hCZ2 : Hid (n < k + 1 → m < k + 1 → s / 65536 = 0) := fun q1 q2 => by
    have := hpx (by omega); have := hpy (by omega); omega
   have hol : out.length ≤ 1000001 := by rw [hOL.out]; omega
   have hszr : w.heap.size ≤ wr.heap.size := hK.out.size
   have HS := Lib.hid hs
   have e1 : IntKind.i64.wrap (x0 + y0) = x0 + y0 := IntWalk.i64_in _ (by omega)
   have e2 : IntKind.i64.wrap (x0 + y0 + cy) = s := by rw [← hs]; exact IntWalk.i64_in _ (by omega)
   obtain ⟨ha1, ha2⟩ := ha0
   obtain ⟨hb1, hb2⟩ := hb0
   have HTX := Lib.hid htx
   have HTY := Lib.hid hty
   clear hcz hst hst' htx hty hpx hpy hx0 hy0 hs hO hAp hOL hav hbv hT
   go_wp2_with fail
   refine (l1At_at _ _ _ _ k x0 _ HAV.out (by omega) HX0.out).mono ?_
   rintro e w2 ⟨rfl, rfl⟩
   go_wp2_with fail
   refine (l1At_at _ _ _ _ k y0 _ HBV.out (by omega) HY0.out).mono ?_
   rintro e w2 ⟨rfl, rfl⟩
   go_wp2_with (at_builtin; refine app1 rfl _ _ rfl w.heap.size u5 out rfl (hW.out.alloc _) wr.heap.size (s % 65536) rfl (by simp) (by omega) (by simp; omega) ?_)
   intro v' w1 hW2 hG
   have HW2 := Lib.hid hW2
   have HK2 : Hid (Kept [] w w1) := kept_grown (hK.out.alloc _) (hW.out.alloc _) hG (Nat.le_refl _)
   clear hW2 hG
   go_wp2
   go_roundw
   case rel => exact ⟨k + 1, out ++ [s % 65536], s / 65536, by omega, rfl, by go_num, by omega, by omega, hOL2, hO2, hAp2, hCZ2, hT2, HW2.out, HK2⟩
   case measure => simp [intOf]; omega
  ·have hd1 : decide ((k : Int) < (n : Int)) = false := decide_eq_false (by omega)
   have hd2 : decide ((k : Int) < (m : Int)) = false := decide_eq_false (by omega)
   have hd3 : decide (0 < cy) = true := decide_eq_true h3
   have hav := HR.out.kept0 hK.out
   have hbv := HR'.out.kept0 hK.out
   have HAV := Lib.hid hav
   have HBV := Lib.hid hbv
   have ha0 := getD_limb HXL.out k
   have hb0 := getD_limb HYL.out k
   have hst := val_drop xs k
   have hst' := val_drop ys k
   have htx : k + 1 = xs.length → 0 < xs.getD k 0 := canon_top HCX.out k
   have hty : k + 1 = ys.length → 0 < ys.getD k 0 := canon_top HCY.out k
   have hpx : xs.length ≤ k → xs.getD k 0 = 0 := getD_past
   have hpy : ys.length ≤ k → ys.getD k 0 = 0 := getD_past
   rw [HL.out] at htx hpx
   rw [HL'.out] at hty hpy
   generalize hx0 : xs.getD k 0 = x0 at *
   generalize hy0 : ys.getD k 0 = y0 at *
   have HX0 := Lib.hid hx0
   have HY0 := Lib.hid hy0
   obtain ⟨s, hs⟩ : ∃ s, s = x0 + y0 + cy := ⟨_, rfl⟩
   have hs1 : 0 ≤ s := by omega
   have hs2 : s ≤ 131071 := by omega
   have hO2 : Hid (AllLimbs (out ++ [s % 65536])) := hO.out.snoc (by omega)
   have hAp2 : Hid (ap (out ++ [s % 65536]) (s / 65536 + (val (xs.drop (k + 1)) + val (ys.drop (k + 1)))) = T) := by
    show ap _ _ = T
    rw [ap_snoc, ← hAp.out]
    congr 1
    omega
   have hOL2 : Hid ((out ++ [s % 65536]).length = k + 1) := by show _ = _; rw [List.length_append, hOL.out]; rfl
   have hT2 : Hid (n ≤ k + 1 → m ≤ k + 1 → 0 < s / 65536 ∨ (0 < k + 1 → (out ++ [s % 65536]).getD ((out ++ [s % 65536]).length - 1) 0 ≠ 0)) := fun q1 q2 => by
    rw [getD_last]
    by_cases q3 : 0 < s / 65536
    ·exact Or.inl q3
    ·exact Or.inr (fun _ => by omega)
   have hk2 : k + 1 ≤ 1000001 := by omega
   have hCZ2 : Hid (n < k + 1 → m < k + 1 → s / 65536 = 0) := fun q1 q2 => by
    have := hpx (by omega); have := hpy (by omega); omega
   have hol : out.length ≤ 1000001 := by rw [hOL.out]; omega
   have hszr : w.heap.size ≤ wr.heap.size := hK.out.size
   have HS := Lib.hid hs
   have e1 : IntKind.i64.wrap (x0 + y0) = x0 + y0 := IntWalk.i64_in _ (by omega)
   have e2 : IntKind.i64.wrap (x0 + y0 + cy) = s := by rw [← hs]; exact IntWalk.i64_in _ (by omega)
   obtain ⟨ha1, ha2⟩ := ha0
   obtain ⟨hb1, hb2⟩ := hb0
   have HTX := Lib.hid htx
   have HTY := Lib.hid hty
   clear hcz hst hst' htx hty hpx hpy hx0 hy0 hs hO hAp hOL hav hbv hT
   go_wp2_with fail
   refine (l1At_at _ _ _ _ k x0 _ HAV.out (by omega) HX0.out).mono ?_
   rintro e w2 ⟨rfl, rfl⟩
   go_wp2_with fail
   refine (l1At_at _ _ _ _ k y0 _ HBV.out (by omega) HY0.out).mono ?_
   rintro e w2 ⟨rfl, rfl⟩
   go_wp2_with (at_builtin; refine app1 rfl _ _ rfl w.heap.size u5 out rfl (hW.out.alloc _) wr.heap.size (s % 65536) rfl (by simp) (by omega) (by simp; omega) ?_)
   intro v' w1 hW2 hG
   have HW2 := Lib.hid hW2
   have HK2 : Hid (Kept [] w w1) := kept_grown (hK.out.alloc _) (hW.out.alloc _) hG (Nat.le_refl _)
   clear hW2 hG
   go_wp2
   go_roundw
   case rel => exact ⟨k + 1, out ++ [s % 65536], s / 65536, by omega, rfl, by go_num, by omega, by omega, hOL2, hO2, hAp2, hCZ2, hT2, HW2.out, HK2⟩
   case measure => simp [intOf]; omega
  ·have hd1 : decide ((k : Int) < (n : Int)) = false := decide_eq_false (by omega)
   have hd2 : decide ((k : Int) < (m : Int)) = false := decide_eq_false (by omega)
   have hd3 : decide (0 < cy) = false := decide_eq_false h3
   obtain rfl : cy = 0 := by omega
   clear hcz
   have hx2 : Hid (out = digits T) := by
    have h5 := hAp.out
    rw [List.drop_of_length_le (by rw [HL.out]; omega), List.drop_of_length_le (by rw [HL'.out]; omega)] at h5
    simp only [val, Int.add_zero] at h5
    rw [ap_zero] at h5
    show out = digits T
    rw [← h5]
    refine digits_of_limbs hO.out (fun hp => ?_)
    rcases hT.out (by omega) (by omega) with h6 | h6
    ·omega
    ·exact h6 (by rw [← hOL.out]; exact hp)
   go_wp2
   go_ret
   exact ⟨u5, rfl, by rw [← hx2.out]; exact hW.out, hK.out⟩

end Go.Proofs.Ytakomjocihlacaa

namespace Go.Proofs.Ytakomjocihlacaa
open Go.RowKit

/-- A call that answers a big that is the number z; its limbs lie in memory from block B on. -/
def BigV (B : Nat) (w : World) (z : Int) (e : Ending) (w' : World) : Prop :=
 ∃ a c, e = .returned (.agg #[.bool (isNeg z), .slice a (mag z).length c]) ∧ Sl w' a (mag z).length c (mag z) ∧ Fr B a (mag z).length ∧ Kept [] w w'
/-- A call that answers this value and leaves old memory alone. -/
def Val (w : World) (v : Value) (e : Ending) (w' : World) : Prop := e = .returned v ∧ Kept [] w w'

set_option maxHeartbeats 400000 in
theorem l2Big_any (b : Bool) (a : Option Addr) (n c : Nat) (v : Int) (w : World) (hv : 0 ≤ v) (hn : (digits v).length = n) :
  Calls Try.prog 21 #[.bool b, .slice a n c] w (Val w (.agg #[.bool (isNeg (sg b v)), .slice a n c])) := by
 have e := isNeg_sg (neg := b) hv
 rw [hn] at e
 rw [e]
 clear e
 cases b with
 | false =>
  have e : (false && decide (0 < n)) = false := rfl
  rw [e]
  clear e
  go_enter Try.func21, Try.ntmps21
  go_wp2
  exact bodyPost_ret (v := .agg #[.bool false, .slice a n c]) (by simp [results, Try.results21, go_sem]) rfl ⟨rfl, (Kept.refl [] w).alloc _⟩
 | true =>
  by_cases h0 : 0 < n
  ·have e : (true && decide (0 < n)) = true := by rw [decide_eq_true h0]; rfl
   rw [e]
   have h1 : decide ((0 : Int) < (n : Int)) = true := decide_eq_true (by omega)
   clear e
   go_enter Try.func21, Try.ntmps21
   go_wp2
   exact bodyPost_ret (v := .agg #[.bool true, .slice a n c]) (by simp [results, Try.results21, go_sem]) rfl ⟨rfl, (Kept.refl [] w).alloc _⟩
  ·have e : (true && decide (0 < n)) = false := by rw [decide_eq_false h0]; rfl
   rw [e]
   obtain rfl : n = 0 := by omega
   clear e h0
   go_enter Try.func21, Try.ntmps21
   go_wp2
   exact bodyPost_ret (v := .agg #[.bool false, .slice a 0 c]) (by simp [results, Try.results21, go_sem]) rfl ⟨rfl, (Kept.refl [] w).alloc _⟩

/-- The opposite of a big that is the number z. -/
theorem sg_not {b : Bool} {v : Int} : sg (!b) v = - sg b v := by cases b <;> simp [sg]

set_option maxHeartbeats 400000 in
theorem l2Neg_any (a : Option Addr) (n c : Nat) (z : Int) (b : Bool) (w : World) (hb : sg b (val (mag z)) = z) (hn : (mag z).length = n) :
  Calls Try.prog 33 #[.agg #[.bool b, .slice a n c]] w (Val w (.agg #[.bool (isNeg (-z)), .slice a n c])) := by
 have hv := val_mag_nonneg z
 have hd : (digits (val (mag z))).length = n := by rw [digits_val (mag_canon z)]; exact hn
 have he : - z = sg (!b) (val (mag z)) := by rw [sg_not, hb]
 rw [he]
 generalize val (mag z) = v at *
 have HV := Lib.hid hv
 have HD := Lib.hid hd
 clear hb he hn hd hv
 go_enter Try.func33, Try.ntmps33
 go_wp2_with fail
 refine (l2Big_any _ _ _ _ _ _ HV.out HD.out).mono ?_
 rintro e w1 ⟨rfl, hk⟩
 obtain ⟨c1, f1, _⟩ := hk.top (g := w.heap.size + 1) (by simp) (by simp) 0 rfl
 obtain ⟨c2, f2, _⟩ := hk.top (g := w.heap.size + 1) (by simp) (by simp) 1 rfl
 have HK := Lib.hid (((((Kept.refl [] w).alloc _).alloc _).trans0 hk))
 clear hk
 obtain ⟨r, hr⟩ : ∃ r, r = isNeg (sg (!b) v) := ⟨_, rfl⟩
 have HR := Lib.hid hr
 rw [← hr]
 clear hr
 obtain ⟨_, eb, ec⟩ := cells2 (.bool r) (.slice a n c) c1 c2
 go_wp2_with fail
 exact bodyPost_ret (v := .agg #[.bool r, .slice a n c]) (by simp [results, Try.results33, go_sem, eb, ec]) rfl ⟨by rw [← HR.out], (HK.out.setCell _ _ (by simp)).setCell _ _ (by simp)⟩

theorem Rd.lt {w : World} {a : Option Addr} {n : Nat} {xs : List Int} (h : Rd w a n xs) (hn : 0 < n) : ∀ x, a = some x → x.block < w.heap.size := by
 intro x hx
 obtain ⟨g, off, ha, hc⟩ := h.2.2 0 hn
 rw [ha] at hx; cases hx
 exact World.block_lt_of_cell? _ _ hc
end Go.Proofs.Ytakomjocihlacaa

namespace Go.Proofs.Ytakomjocihlacaa
open Go.RowKit

set_option maxHeartbeats 400000 in
theorem Clone_any (a : Option Addr) (n c : Nat) (xs : List Int) (w : World) (h : Sl w a n c xs) (hn : n ≤ 1000000) :
  Calls Try.prog 27 #[.slice a n c] w (SlR w xs) := by
 have hnil := fun (w : World) (n c : Nat) => Lib.run_eql_slice_nil (P := Try.prog) w 22 2 a n c 0 0 Try.underlying22
 have HR := Lib.hid h.rd
 have HS := Lib.hid h
 have HN := Lib.hid h.2.2.2.1
 have HL := Lib.hid h.1
 have hnc := h.2.1
 clear h
 cases a with
 | none =>
  have hc0 : c = 0 := HN.out rfl
  subst hc0
  obtain rfl : n = 0 := by omega
  have hx : Hid (xs = []) := List.eq_nil_of_length_eq_zero HL.out
  go_enter Try.func27, Try.ntmps27
  go_wp2
  go_ret
  exact ⟨_, rfl, by rw [hx.out]; exact Ow.nil _ _, Kept.refl _ _⟩
 | some ad =>
  go_enter Try.func27, Try.ntmps27
  go_wp2_with (at_builtin; refine appS rfl _ _ rfl w.heap.size _ [] rfl (Ow.empty _ w (Nat.le_refl _)) (some ad) n c xs rfl (HR.out.kept0 ((Kept.refl [] w).alloc _)) (by simp) (by simp; omega) (by simp) ?_)
  intro v' w1 hW hG
  have hW2 : Hid (Ow w.heap.size w1 v' xs) := hW
  have HK : Hid (Kept [] w w1) := kept_grown ((Kept.refl [] w).alloc _) (Ow.empty _ w (Nat.le_refl _)) hG (Nat.le_refl _)
  clear hW hG
  go_wp2
  go_ret
  exact ⟨_, rfl, hW2.out, HK.out⟩

theorem len_of_le {xs ys : List Int} (hx : Nat40 xs) (hy : Nat40 ys) (h : val ys ≤ val xs) : ys.length ≤ xs.length := by
 rcases Nat.lt_or_ge xs.length ys.length with h1 | h1
 ·have := val_lt_len hx hy h1; omega
 ·exact h1
end Go.Proofs.Ytakomjocihlacaa

namespace Go.Proofs.Ytakomjocihlacaa
open Go.RowKit
attribute [local go_sem ↓] Go.wp_at_zero Go.wp_at_succ

theorem sum_same {p : Bool} {x y : Int} : sg p x + sg p y = sg p (x + y) := by cases p <;> simp [sg] <;> omega
theorem Kept.free' {L : List Nat} {w w' : World} {p : Addr} {v : Value} (h : Kept L w w') (hc : w.cell? p = some v) (hf : w.frozen? p = false) (hg : p.block ∉ L) : w'.frozen? p = false :=
 h.free hf (World.block_lt_of_cell? w p hc) hg
theorem cell_set2 {w2 : World} {g : Nat} {p : Addr} {v v1 v2 : Value} (h : w2.cell? p = some v) (hg : p.block ≠ g) : ((w2.setCell ⟨g, 0, none⟩ v1).setCell ⟨g, 1, none⟩ v2).cell? p = some v :=
 (((Kept.refl [g] w2).setCell _ _ (by simp)).setCell _ _ (by simp)).cell h (by simpa using hg)
theorem drew_cell {w : World} {p : Addr} {v : Value} (h : w.cell? p = some v) : w.drew.cell? p = some v := h
theorem Kept.set2 {W w2 : World} {g : Nat} {v1 v2 : Value} (h : Hid (Kept [g] W w2)) : Hid (Kept [g] W ((w2.setCell ⟨g, 0, none⟩ v1).setCell ⟨g, 1, none⟩ v2)) :=
 Lib.hid ((h.out.setCell _ _ (by simp)).setCell _ _ (by simp))
end Go.Proofs.Ytakomjocihlacaa
