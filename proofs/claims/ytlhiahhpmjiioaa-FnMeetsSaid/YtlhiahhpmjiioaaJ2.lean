/-
  Several of my texts in one, each as it was: Fault, Comp, BigA, AddT, Copy, Add, SAdd, BigB, Sub, BigC. No condition but theirs.
-/
import Derived.Test.YtlhiahhpmjiioaaJ1
import Derived.Handy
import Derived.Laws.CopyOwn
import Derived.Laws.AppendOwnNone
import Derived.Lib.SliceRun
import Derived.Deep.RegionHeld3
import Derived.Deep.DrawnRows
namespace Go.Proofs.Ytlhiahhpmjiioaa
open Go.RowKit

theorem rd_three (w : World) (x : Int) : Rd (w.alloc (.cells #[.int .i64 0, .int .i64 x, .int .i64 65535] 2)) (some ⟨w.heap.size, 0, none⟩) 3 [0, x, 65535] := by
  have := Sl.ofBlk (Blk.new w [0, x, 65535]) (by simp)
  exact this.rd
theorem ord_three (x : Int) : (decide (0 ≤ x ∧ x ≤ 65535)) = true ↔ OrdTo [0, x, 65535] 3 := by
  rw [decide_eq_true_eq]
  constructor
  · intro h i hi
    rcases (by omega : i = 0 ∨ i = 1) with rfl | rfl
    · simpa using h.1
    · simpa using h.2
  · intro h
    have h0 := h 0 (by omega)
    have h1 := h 1 (by omega)
    simp at h0 h1
    exact ⟨h0, h1⟩

set_option maxHeartbeats 400000 in
theorem NatFault_any (a : Option Addr) (n c : Nat) (xs : List Int) (w : World) (h : Rd w a n xs) :
    Calls Try.prog 58 #[.slice a n c] w (Ans w (.int .i64 (natFault xs))) := by
  have hlen := h.1
  have hmax := h.2.1
  have HR := Lib.hid h
  have HL := Lib.hid hlen
  clear h hlen
  by_cases h40 : 40 < n
  · have hv : Hid (natFault xs = 2) := natFault_many (by rw [HL.out]; exact h40)
    go_enter Try.func58, Try.ntmps58
    go_wp2
    go_ret
    exact ⟨by rw [hv.out]; rfl, Kept.refl _ _⟩
  · go_enter Try.func58, Try.ntmps58
    go_wp2
    go_loopw [10] (fun i wr => ∃ k : Nat, k ≤ n ∧ i = .int .i64 k ∧ Hid (LimbsTo xs k) ∧ Hid (Kept [] w wr)) (fun i _ => n - (intOf i).toNat)
    case atStart => exact ⟨0, Nat.zero_le _, rfl, fun i hi => by omega, Kept.refl [] w⟩
    case round =>
      obtain ⟨k, hk, rfl, hO, hK⟩ := hrel
      by_cases hlt : k < n
      · obtain ⟨g, off, rfl, hc0⟩ := HR.out.2.2 k hlt
        have hc := hK.out.cell hc0 (by simp)
        clear hc0
        by_cases hin : 0 ≤ xs.getD k 0 ∧ xs.getD k 0 ≤ 65535
        · have hb : Hid (decide (0 ≤ xs.getD k 0 ∧ xs.getD k 0 ≤ 65535) = true) := decide_eq_true hin
          have hO2 : Hid (LimbsTo xs (k + 1)) := fun i hi => by
            by_cases he : i < k
            · exact hO.out i he
            · obtain rfl : i = k := by omega
              exact hin
          clear hin
          generalize hz : xs.getD k 0 = z at *
          clear hz
          go_wp2_with (go_at_call 62; refine (inOrder_any _ _ _ _ _ (rd_three _ _) _ (ord_three _)).mono ?_; rintro e w1 ⟨rfl, hq⟩; rw [hb.out])
          have hK2 : Hid (Kept [] w w1) := (hK.out.alloc _).trans0 hq
          clear hK hq
          go_roundw
          case rel => exact ⟨k + 1, by omega, by go_num, hO2, hK2⟩
          case measure => simp [intOf]; omega
        · have hb : Hid (decide (0 ≤ xs.getD k 0 ∧ xs.getD k 0 ≤ 65535) = false) := decide_eq_false hin
          have hv : Hid (natFault xs = 3) := natFault_range (by rw [HL.out]; exact h40) k (by rw [HL.out]; exact hlt) hin
          clear hin
          generalize hz : xs.getD k 0 = z at *
          clear hz
          go_wp2_with (go_at_call 62; refine (inOrder_any _ _ _ _ _ (rd_three _ _) _ (ord_three _)).mono ?_; rintro e w1 ⟨rfl, hq⟩; rw [hb.out])
          have hK2 : Hid (Kept [] w w1) := (hK.out.alloc _).trans0 hq
          clear hK hq
          go_ret
          exact ⟨by rw [hv.out]; rfl, hK2.out⟩
      · obtain rfl : k = n := by omega
        by_cases hp : 0 < k
        · obtain ⟨g, off, rfl, hc0⟩ := HR.out.2.2 (k - 1) (by omega)
          have hc := hK.out.cell hc0 (by simp)
          clear hc0
          have e1 : IntKind.i64.wrap ((k : Int) - 1) = (k : Int) - 1 := IntWalk.i64_in _ (by omega)
          have hp' : (0 : Int) < (k : Int) := by omega
          have hlt2 : (k : Int) - 1 < k := by omega
          by_cases hz : xs.getD (k - 1) 0 = 0
          · have hv : Hid (natFault xs = 1) := natFault_form (by rw [HL.out]; exact h40) (by rw [HL.out]; exact hO.out) (by rw [HL.out]; exact hp) (by rw [HL.out]; exact hz)
            rw [hz] at hc
            clear hz
            go_wp2
            go_ret
            exact ⟨by rw [hv.out]; rfl, hK.out⟩
          · have hv : Hid (natFault xs = 0) := natFault_ok (by rw [HL.out]; exact h40) (by rw [HL.out]; exact hO.out) (fun _ => by rw [HL.out]; exact hz)
            have hz' : (xs.getD (k - 1) 0 == 0) = false := by rw [beq_eq_false_iff_ne]; exact hz
            clear hz
            generalize hy : xs.getD (k - 1) 0 = y at *
            clear hy
            go_wp2
            go_ret
            exact ⟨by rw [hv.out]; rfl, hK.out⟩
        · obtain rfl : k = 0 := by omega
          have hv : Hid (natFault xs = 0) := natFault_ok (by rw [HL.out]; exact h40) (by rw [HL.out]; exact hO.out) (fun h9 => by have := HL.out; omega)
          go_wp2
          go_ret
          exact ⟨by rw [hv.out]; rfl, hK.out⟩

set_option maxHeartbeats 400000 in
theorem sNatFault_any (a : Option Addr) (n c : Nat) (xs : List Int) (w : World) (h : Rd w a n xs) :
    Calls Try.prog 66 #[.slice a n c] w (Ans w (.int .i64 (natFault xs))) := by
  have hlen := h.1
  have hmax := h.2.1
  have HR := Lib.hid h
  have HL := Lib.hid hlen
  clear h hlen
  by_cases h40 : 40 < n
  · have hv : Hid (natFault xs = 2) := natFault_many (by rw [HL.out]; exact h40)
    go_enter Try.func66, Try.ntmps66
    go_wp2
    go_ret
    exact ⟨by rw [hv.out]; rfl, Kept.refl _ _⟩
  · go_enter Try.func66, Try.ntmps66
    go_wp2
    go_loopw [3] (fun i wr => ∃ k : Nat, k ≤ n ∧ i = .int .i64 k ∧ Hid (LimbsTo xs k) ∧ Hid (Kept [] w wr)) (fun i _ => n - (intOf i).toNat)
    case atStart => exact ⟨0, Nat.zero_le _, rfl, fun i hi => by omega, Kept.refl [] w⟩
    case round =>
      obtain ⟨k, hk, rfl, hO, hK⟩ := hrel
      by_cases hlt : k < n
      · obtain ⟨g, off, rfl, hc0⟩ := HR.out.2.2 k hlt
        have hc := hK.out.cell hc0 (by simp)
        clear hc0
        by_cases hin : 0 ≤ xs.getD k 0 ∧ xs.getD k 0 ≤ 65535
        · have hb : Hid (decide (0 ≤ xs.getD k 0 ∧ xs.getD k 0 ≤ 65535) = true) := decide_eq_true hin
          have hO2 : Hid (LimbsTo xs (k + 1)) := fun i hi => by
            by_cases he : i < k
            · exact hO.out i he
            · obtain rfl : i = k := by omega
              exact hin
          obtain ⟨hi1, hi2⟩ := hin
          generalize hz : xs.getD k 0 = z at *
          clear hz
          go_wp2
          go_roundw
          case rel => exact ⟨k + 1, by omega, by go_num, hO2, hK⟩
          case measure => simp [intOf]; omega
        · have hb : Hid (decide (0 ≤ xs.getD k 0 ∧ xs.getD k 0 ≤ 65535) = false) := decide_eq_false hin
          have hv : Hid (natFault xs = 3) := natFault_range (by rw [HL.out]; exact h40) k (by rw [HL.out]; exact hlt) hin
          generalize hz : xs.getD k 0 = z at *
          clear hz
          by_cases hlo : 0 ≤ z
          · have hhi : decide (z ≤ 65535) = false := decide_eq_false (by omega)
            clear hin
            go_wp2
            go_ret
            exact ⟨by rw [hv.out]; rfl, hK.out⟩
          · have hlo' : z < 0 := by omega
            clear hin
            go_wp2
            go_ret
            exact ⟨by rw [hv.out]; rfl, hK.out⟩
      · obtain rfl : k = n := by omega
        by_cases hp : 0 < k
        · obtain ⟨g, off, rfl, hc0⟩ := HR.out.2.2 (k - 1) (by omega)
          have hc := hK.out.cell hc0 (by simp)
          clear hc0
          have e1 : IntKind.i64.wrap ((k : Int) - 1) = (k : Int) - 1 := IntWalk.i64_in _ (by omega)
          have hp' : (0 : Int) < (k : Int) := by omega
          have hlt2 : (k : Int) - 1 < k := by omega
          by_cases hz : xs.getD (k - 1) 0 = 0
          · have hv : Hid (natFault xs = 1) := natFault_form (by rw [HL.out]; exact h40) (by rw [HL.out]; exact hO.out) (by rw [HL.out]; exact hp) (by rw [HL.out]; exact hz)
            rw [hz] at hc
            clear hz
            go_wp2
            go_ret
            exact ⟨by rw [hv.out]; rfl, hK.out⟩
          · have hv : Hid (natFault xs = 0) := natFault_ok (by rw [HL.out]; exact h40) (by rw [HL.out]; exact hO.out) (fun _ => by rw [HL.out]; exact hz)
            have hz' : (xs.getD (k - 1) 0 == 0) = false := by rw [beq_eq_false_iff_ne]; exact hz
            clear hz
            generalize hy : xs.getD (k - 1) 0 = y at *
            clear hy
            go_wp2
            go_ret
            exact ⟨by rw [hv.out]; rfl, hK.out⟩
        · obtain rfl : k = 0 := by omega
          have hv : Hid (natFault xs = 0) := natFault_ok (by rw [HL.out]; exact h40) (by rw [HL.out]; exact hO.out) (fun h9 => by have := HL.out; omega)
          go_wp2
          go_ret
          exact ⟨by rw [hv.out]; rfl, hK.out⟩

end Go.Proofs.Ytlhiahhpmjiioaa

namespace Go.Proofs.Ytlhiahhpmjiioaa
open Go.RowKit

set_option maxHeartbeats 400000 in
theorem limbAt_any (a : Option Addr) (n c : Nat) (xs : List Int) (p : Int) (w : World) (h : Rd w a n xs) (hp : -9223372036854775808 ≤ p ∧ p ≤ 9223372036854775807) :
    Calls Try.prog 64 #[.slice a n c, .int .i64 p] w fun e w' => e = .returned (.int .i64 (atP xs p)) ∧ w' = w := by
  have HR := Lib.hid h
  have hmax := h.2.1
  have HL := Lib.hid h.1
  clear h
  obtain ⟨hp1, hp2⟩ := hp
  by_cases hneg : p < 0
  · have hv : Hid (atP xs p = 0) := if_pos hneg
    go_enter Try.func64, Try.ntmps64
    go_wp2
    go_ret
    exact ⟨by rw [hv.out]; rfl, rfl⟩
  · obtain ⟨k, rfl⟩ := Int.eq_ofNat_of_zero_le (Int.not_lt.1 hneg)
    have hneg' : decide ((k : Int) < 0) = false := decide_eq_false hneg
    by_cases hlt : k < n
    · have hv : Hid (atP xs k = xs.getD k 0) := atP_nat xs k
      obtain ⟨g, off, rfl, hc⟩ := HR.out.2.2 k hlt
      have hge : decide ((n : Int) ≤ (k : Int)) = false := decide_eq_false (by omega)
      go_enter Try.func64, Try.ntmps64
      go_wp2
      go_ret
      exact ⟨by rw [hv.out]; rfl, rfl⟩
    · have hv : Hid (atP xs k = 0) := by
        show atP xs k = 0
        rw [atP_nat, List.getD_eq_getElem?_getD, List.getElem?_eq_none (by rw [HL.out]; omega)]; rfl
      have hge : decide ((n : Int) ≤ (k : Int)) = true := decide_eq_true (by omega)
      go_enter Try.func64, Try.ntmps64
      go_wp2
      go_ret
      exact ⟨by rw [hv.out]; rfl, rfl⟩

theorem limbAt_at (a : Option Addr) (n c : Nat) (xs : List Int) (p y : Int) (w : World) (h : Rd w a n xs) (hp : -9223372036854775808 ≤ p ∧ p ≤ 9223372036854775807) (hv : atP xs p = y) :
    Calls Try.prog 64 #[.slice a n c, .int .i64 p] w fun e w' => e = .returned (.int .i64 y) ∧ w' = w := by
  subst hv; exact limbAt_any a n c xs p w h hp

set_option maxHeartbeats 400000 in
theorem firstNatFault_two (a b : Option Addr) (n c m c' : Nat) (xs ys : List Int) (w : World) (h : Rd w a n xs) (h' : Rd w b m ys) :
    Calls Try.prog 63 #[.func (.func 58) #[] #[], .slice (some ⟨w.heap.size, 0, none⟩) 2 2] (w.alloc (.cells #[.slice a n c, .slice b m c'] 24)) (Ans w (.int .i64 (fault2 xs ys))) := by
  have HR := Lib.hid h
  have HR' := Lib.hid h'
  clear h h'
  go_enter Try.func63, Try.ntmps63
  go_wp2
  go_loopw [10] (fun i wr => (i = .int .i64 0 ∧ Hid (Kept [] (w.alloc (.cells #[.slice a n c, .slice b m c'] 24)) wr)) ∨ (i = .int .i64 1 ∧ Hid (natFault xs = 0) ∧ Hid (Kept [] (w.alloc (.cells #[.slice a n c, .slice b m c'] 24)) wr)) ∨ (i = .int .i64 2 ∧ Hid (natFault xs = 0) ∧ Hid (natFault ys = 0) ∧ Hid (Kept [] (w.alloc (.cells #[.slice a n c, .slice b m c'] 24)) wr))) (fun i _ => 2 - (intOf i).toNat)
  case atStart => exact Or.inl ⟨rfl, Kept.refl [] _⟩
  case round =>
    have k0 : Kept [] w (w.alloc (.cells #[.slice a n c, .slice b m c'] 24)) := (Kept.refl [] w).alloc _
    have HK0 := Lib.hid k0
    clear k0
    rcases hrel with ⟨rfl, hK⟩ | ⟨rfl, hx, hK⟩ | ⟨rfl, hx, hy, hK⟩
    · have hc := hK.out.cell (p := ⟨w.heap.size, 0, none⟩) (v := .slice a n c) (by simp) (by simp)
      have hd : Rd wr a n xs := (HR.out.kept0 HK0.out).kept0 hK.out
      have HD := Lib.hid hd
      clear hd
      by_cases hz : natFault xs = 0
      · have hz' := Lib.hid hz
        clear hz
        go_wp2_with (go_at_call 58; refine (NatFault_any _ _ _ _ _ HD.out).mono ?_; rintro e w1 ⟨rfl, hq⟩; rw [hz'.out])
        have hK2 : Hid (Kept [] (w.alloc (.cells #[.slice a n c, .slice b m c'] 24)) w1) := hK.out.trans0 hq
        clear hK hq
        go_roundw
        case rel => exact Or.inr (Or.inl ⟨rfl, hz', hK2⟩)
        case measure => simp [intOf]
      · have hv : Hid (fault2 xs ys = natFault xs) := fault2_first hz
        generalize hf : natFault xs = f at *
        have hne : (f == 0) = false := by rw [beq_eq_false_iff_ne]; exact hz
        have HF := Lib.hid hf
        clear hf hz
        go_wp2_with (go_at_call 58; refine (NatFault_any _ _ _ _ _ HD.out).mono ?_; rintro e w1 ⟨rfl, hq⟩; rw [HF.out])
        have hK2 : Hid (Kept [] w w1) := (HK0.out.trans0 hK.out).trans0 hq
        clear hK hq
        go_ret
        exact ⟨by rw [hv.out]; rfl, hK2.out⟩
    · have hc := hK.out.cell (p := ⟨w.heap.size, 1, none⟩) (v := .slice b m c') (by simp) (by simp)
      have hd : Rd wr b m ys := (HR'.out.kept0 HK0.out).kept0 hK.out
      have HD := Lib.hid hd
      clear hd
      by_cases hz : natFault ys = 0
      · have hz' := Lib.hid hz
        clear hz
        go_wp2_with (go_at_call 58; refine (NatFault_any _ _ _ _ _ HD.out).mono ?_; rintro e w1 ⟨rfl, hq⟩; rw [hz'.out])
        have hK2 : Hid (Kept [] (w.alloc (.cells #[.slice a n c, .slice b m c'] 24)) w1) := hK.out.trans0 hq
        clear hK hq
        go_roundw
        case rel => exact Or.inr (Or.inr ⟨rfl, hx, hz', hK2⟩)
        case measure => simp [intOf]
      · have hv : Hid (fault2 xs ys = natFault ys) := fault2_second hx.out
        generalize hf : natFault ys = f at *
        have hne : (f == 0) = false := by rw [beq_eq_false_iff_ne]; exact hz
        have HF := Lib.hid hf
        clear hf hz
        go_wp2_with (go_at_call 58; refine (NatFault_any _ _ _ _ _ HD.out).mono ?_; rintro e w1 ⟨rfl, hq⟩; rw [HF.out])
        have hK2 : Hid (Kept [] w w1) := (HK0.out.trans0 hK.out).trans0 hq
        clear hK hq
        go_ret
        exact ⟨by rw [hv.out]; rfl, hK2.out⟩
    · have hv : Hid (fault2 xs ys = 0) := (fault2_second hx.out).trans hy.out
      have hK2 : Hid (Kept [] w wr) := HK0.out.trans0 hK.out
      clear hK
      go_wp2
      go_ret
      exact ⟨by rw [hv.out]; rfl, hK2.out⟩

theorem firstNatFault_at (g : Nat) (a b : Option Addr) (n c m c' : Nat) (xs ys : List Int) (w : World) (hg : g = w.heap.size) (h : Rd w a n xs) (h' : Rd w b m ys) :
    Calls Try.prog 63 #[.func (.func 58) #[] #[], .slice (some ⟨g, 0, none⟩) 2 2] (w.alloc (.cells #[.slice a n c, .slice b m c'] 24)) (Ans w (.int .i64 (fault2 xs ys))) := by
  subst hg; exact firstNatFault_two a b n c m c' xs ys w h h'

set_option maxHeartbeats 400000 in
theorem l1Compare_any (a b : Option Addr) (n c m c' : Nat) (xs ys : List Int) (w : World) (h : Rd w a n xs) (h' : Rd w b m ys) (hx : Nat40 xs) (hy : Nat40 ys) :
    Calls Try.prog 51 #[.slice a n c, .slice b m c'] w (Ans w (.int .i64 (cmpV (val xs) (val ys)))) := by
  have HR := Lib.hid h
  have HR' := Lib.hid h'
  have HL := Lib.hid h.1
  have HL' := Lib.hid h'.1
  have hm := h.2.1
  have hm' := h'.2.1
  have HX := Lib.hid hx
  have HY := Lib.hid hy
  clear h h' hx hy
  by_cases hne : n = m
  · subst hne
    go_enter Try.func51, Try.ntmps51
    go_wp2
    go_loopw [5] (fun i wr => ∃ k : Nat, k ≤ n ∧ i = .int .i64 ((k : Int) - 1) ∧ Hid (∀ j, k ≤ j → j < n → xs.getD j 0 = ys.getD j 0) ∧ Hid (Kept [] w wr)) (fun i _ => (intOf i + 1).toNat)
    case atStart => exact ⟨n, Nat.le_refl _, rfl, fun j h1 h2 => by omega, Kept.refl [] w⟩
    case round =>
      obtain ⟨k, hk, rfl, hE, hK⟩ := hrel
      by_cases hlt : 0 < k
      · obtain ⟨g, off, rfl, hc0⟩ := HR.out.2.2 (k - 1) (by omega)
        obtain ⟨g', off', rfl, hc0'⟩ := HR'.out.2.2 (k - 1) (by omega)
        have hc := hK.out.cell hc0 (by simp)
        have hc' := hK.out.cell hc0' (by simp)
        have h0 : (0 : Int) ≤ (k : Int) - 1 := by omega
        have h1 : (1 : Int) ≤ (k : Int) := by omega
        have h2 : (k : Int) - 1 < (n : Int) := by omega
        have e1 : IntKind.i64.wrap ((k : Int) - 1 - 1) = (k : Int) - 1 - 1 := IntWalk.i64_in _ (by omega)
        clear hc0 hc0'
        rcases Int.lt_trichotomy (xs.getD (k - 1) 0) (ys.getD (k - 1) 0) with hl | hl | hl
        · have hv : Hid (cmpV (val xs) (val ys) = -1) := cmpV_lt (val_lt_at HX.out.limb HY.out.limb n (k - 1) (by omega) (Nat.le_of_eq HL.out) (Nat.le_of_eq HL'.out) (fun j h1 h2 => hE.out j (by omega) h2) hl)
          generalize hy : xs.getD (k - 1) 0 = y at *
          generalize hz : ys.getD (k - 1) 0 = z at *
          clear hy hz
          go_wp2
          go_quiet (fail)
          have hK2 : Hid (Kept [] w (wr.drewN nq)) := hK.out.drewN _
          clear hK
          go_wp2
          go_ret
          exact ⟨by rw [hv.out]; rfl, hK2.out⟩
        · have hE2 : Hid (∀ j, k - 1 ≤ j → j < n → xs.getD j 0 = ys.getD j 0) := fun j h1 h2 => by
            by_cases e : j = k - 1
            · subst e; exact hl
            · exact hE.out j (by omega) h2
          rw [← hl] at hc'
          clear hl
          generalize hy : xs.getD (k - 1) 0 = y at *
          clear hy
          go_wp2
          go_quiet (fail)
          go_wp2
          go_quiet (fail)
          go_wp2
          go_roundw
          case rel => exact ⟨k - 1, by omega, by congr 1; omega, hE2, by first | exact (hK.out.drewN _).drewN _ | exact hK.out.drewN _⟩
          case measure => simp [intOf]; omega
        · have hv : Hid (cmpV (val xs) (val ys) = 1) := cmpV_gt (val_lt_at HY.out.limb HX.out.limb n (k - 1) (by omega) (Nat.le_of_eq HL'.out) (Nat.le_of_eq HL.out) (fun j h1 h2 => (hE.out j (by omega) h2).symm) hl)
          have hnl : ¬ xs.getD (k - 1) 0 < ys.getD (k - 1) 0 := by omega
          generalize hy : xs.getD (k - 1) 0 = y at *
          generalize hz : ys.getD (k - 1) 0 = z at *
          clear hy hz
          go_wp2
          go_quiet (fail)
          go_wp2
          go_quiet (fail)
          go_wp2
          go_ret
          exact ⟨by rw [hv.out]; rfl, by first | exact (hK.out.drewN _).drewN _ | exact hK.out.drewN _⟩
      · obtain rfl : k = 0 := by omega
        have hv : Hid (cmpV (val xs) (val ys) = 0) := cmpV_eq (val_eq_at n (Nat.le_of_eq HL.out) (Nat.le_of_eq HL'.out) (fun j hj => hE.out j (Nat.zero_le _) hj))
        go_wp2
        go_ret
        exact ⟨by rw [hv.out]; rfl, hK.out⟩
  · have hne' : ((n : Int) == (m : Int)) = false := by rw [beq_eq_false_iff_ne]; omega
    by_cases hl : n < m
    · have hv : Hid (cmpV (val xs) (val ys) = -1) := cmpV_lt (val_lt_len HX.out HY.out (by rw [HL.out, HL'.out]; exact hl))
      go_enter Try.func51, Try.ntmps51
      go_wp2
      go_ret
      exact ⟨by rw [hv.out]; rfl, Kept.refl _ _⟩
    · have hv : Hid (cmpV (val xs) (val ys) = 1) := cmpV_gt (val_lt_len HY.out HX.out (by rw [HL.out, HL'.out]; omega))
      go_enter Try.func51, Try.ntmps51
      go_wp2
      go_ret
      exact ⟨by rw [hv.out]; rfl, Kept.refl _ _⟩

set_option maxHeartbeats 400000 in
theorem CompareNats_any (a b : Option Addr) (n c m c' : Nat) (xs ys : List Int) (w : World) (h : Rd w a n xs) (h' : Rd w b m ys) :
    Calls Try.prog 59 #[.slice a n c, .slice b m c'] w (Ans w (.int .i64 (if fault2 xs ys = 0 then cmpV (val xs) (val ys) else 0))) := by
  have HR := Lib.hid h
  have HR' := Lib.hid h'
  have hmn := h.2.1
  have hmm := h'.2.1
  have HL := Lib.hid h.1
  have HL' := Lib.hid h'.1
  clear h h'
  by_cases hz : fault2 xs ys = 0
  · have hz' := Lib.hid hz
    have hx := Lib.hid (natFault_zero (fault2_zero hz).1)
    have hy := Lib.hid (natFault_zero (fault2_zero hz).2)
    rw [if_pos hz]
    clear hz
    obtain ⟨t, ht⟩ : ∃ t : Nat, t = max n m := ⟨_, rfl⟩
    have hnt : n ≤ t := by omega
    have hmt : m ≤ t := by omega
    have ht63 : t ≤ 9223372036854775807 := by omega
    have HT := Lib.hid ht
    clear ht
    go_enter Try.func59, Try.ntmps59
    go_wp2_with fail
    refine (firstNatFault_two _ _ _ _ _ _ _ _ _ HR.out HR'.out).mono ?_
    rintro e w1 ⟨rfl, hq⟩
    rw [hz'.out]
    have HQ := Lib.hid hq
    clear hq
    go_wp2_with fail
    all_goals
      go_loopw [5] (fun i wr => ∃ k : Nat, k ≤ t ∧ i = .int .i64 ((k : Int) - 1) ∧ Hid (∀ j, k ≤ j → j < t → xs.getD j 0 = ys.getD j 0) ∧ Hid (Kept [] w wr)) (fun i _ => (intOf i + 1).toNat)
      case atStart => exact ⟨_, by first | exact hnt | exact hmt, rfl, fun j h1 h2 => by have := HT.out; omega, HQ.out⟩
      case round =>
        obtain ⟨k, hk, rfl, hE, hK⟩ := hrel
        by_cases hlt : 0 < k
        · have hr : Rd wr a n xs := HR.out.kept0 hK.out
          have hr' : Rd wr b m ys := HR'.out.kept0 hK.out
          have HRr := Lib.hid hr
          have HRr' := Lib.hid hr'
          have h0 : (0 : Int) ≤ (k : Int) - 1 := by omega
          have h1 : (1 : Int) ≤ (k : Int) := by omega
          have e1 : IntKind.i64.wrap ((k : Int) - 1 - 1) = (k : Int) - 1 - 1 := IntWalk.i64_in _ (by omega)
          have ea : Hid (atP xs ((k : Int) - 1) = xs.getD (k - 1) 0) := by
            show atP xs ((k : Int) - 1) = xs.getD (k - 1) 0
            rw [show (k : Int) - 1 = ((k - 1 : Nat) : Int) by omega, atP_nat]
          have eb : Hid (atP ys ((k : Int) - 1) = ys.getD (k - 1) 0) := by
            show atP ys ((k : Int) - 1) = ys.getD (k - 1) 0
            rw [show (k : Int) - 1 = ((k - 1 : Nat) : Int) by omega, atP_nat]
          clear hr hr'
          rcases Int.lt_trichotomy (xs.getD (k - 1) 0) (ys.getD (k - 1) 0) with hl | hl | hl
          · have hv : Hid (cmpV (val xs) (val ys) = -1) := cmpV_lt (val_lt_at hx.out.limb hy.out.limb t (k - 1) (by omega) (by rw [HL.out]; exact hnt) (by rw [HL'.out]; exact hmt) (fun j h1 h2 => hE.out j (by omega) h2) hl)
            generalize hyy : xs.getD (k - 1) 0 = y at *
            generalize hzz : ys.getD (k - 1) 0 = z at *
            clear hyy hzz
            go_wp2_with fail
            refine (limbAt_any _ _ _ _ _ _ HRr.out (by omega)).mono ?_
            rintro e w2 ⟨rfl, rfl⟩
            rw [ea.out]
            go_wp2_with fail
            refine (limbAt_any _ _ _ _ _ _ HRr'.out (by omega)).mono ?_
            rintro e w2 ⟨rfl, rfl⟩
            rw [eb.out]
            go_wp2_with fail
            go_ret
            exact ⟨by rw [hv.out]; rfl, hK.out⟩
          · have hE2 : Hid (∀ j, k - 1 ≤ j → j < t → xs.getD j 0 = ys.getD j 0) := fun j h1 h2 => by
              by_cases e : j = k - 1
              · subst e; exact hl
              · exact hE.out j (by omega) h2
            rw [← hl] at eb
            clear hl
            generalize hyy : xs.getD (k - 1) 0 = y at *
            clear hyy
            go_wp2_with fail
            refine (limbAt_any _ _ _ _ _ _ HRr.out (by omega)).mono ?_
            rintro e w2 ⟨rfl, rfl⟩
            rw [ea.out]
            go_wp2_with fail
            refine (limbAt_any _ _ _ _ _ _ HRr'.out (by omega)).mono ?_
            rintro e w2 ⟨rfl, rfl⟩
            rw [eb.out]
            go_wp2_with fail
            refine (limbAt_any _ _ _ _ _ _ HRr.out (by omega)).mono ?_
            rintro e w2 ⟨rfl, rfl⟩
            rw [ea.out]
            go_wp2_with fail
            refine (limbAt_any _ _ _ _ _ _ HRr'.out (by omega)).mono ?_
            rintro e w2 ⟨rfl, rfl⟩
            rw [eb.out]
            go_wp2_with fail
            go_roundw
            case rel => exact ⟨k - 1, by omega, by congr 1; omega, hE2, hK⟩
            case measure => simp [intOf]; omega
          · have hv : Hid (cmpV (val xs) (val ys) = 1) := cmpV_gt (val_lt_at hy.out.limb hx.out.limb t (k - 1) (by omega) (by rw [HL'.out]; exact hmt) (by rw [HL.out]; exact hnt) (fun j h1 h2 => (hE.out j (by omega) h2).symm) hl)
            have hnl : ¬ xs.getD (k - 1) 0 < ys.getD (k - 1) 0 := by omega
            generalize hyy : xs.getD (k - 1) 0 = y at *
            generalize hzz : ys.getD (k - 1) 0 = z at *
            clear hyy hzz
            go_wp2_with fail
            refine (limbAt_any _ _ _ _ _ _ HRr.out (by omega)).mono ?_
            rintro e w2 ⟨rfl, rfl⟩
            rw [ea.out]
            go_wp2_with fail
            refine (limbAt_any _ _ _ _ _ _ HRr'.out (by omega)).mono ?_
            rintro e w2 ⟨rfl, rfl⟩
            rw [eb.out]
            go_wp2_with fail
            refine (limbAt_any _ _ _ _ _ _ HRr.out (by omega)).mono ?_
            rintro e w2 ⟨rfl, rfl⟩
            rw [ea.out]
            go_wp2_with fail
            refine (limbAt_any _ _ _ _ _ _ HRr'.out (by omega)).mono ?_
            rintro e w2 ⟨rfl, rfl⟩
            rw [eb.out]
            go_wp2_with fail
            go_ret
            exact ⟨by rw [hv.out]; rfl, hK.out⟩
        · obtain rfl : k = 0 := by omega
          have hv : Hid (cmpV (val xs) (val ys) = 0) := cmpV_eq (val_eq_at t (by rw [HL.out]; exact hnt) (by rw [HL'.out]; exact hmt) (fun j hj => hE.out j (Nat.zero_le _) hj))
          go_wp2
          go_ret
          exact ⟨by rw [hv.out]; rfl, hK.out⟩
  · rw [if_neg hz]
    go_enter Try.func59, Try.ntmps59
    go_wp2_with fail
    refine (firstNatFault_two _ _ _ _ _ _ _ _ _ HR.out HR'.out).mono ?_
    rintro e w1 ⟨rfl, hq⟩
    generalize hf : fault2 xs ys = f at *
    have hne : (f == 0) = false := by rw [beq_eq_false_iff_ne]; exact hz
    have HQ := Lib.hid hq
    have HF := Lib.hid hf
    clear hf hz hq
    go_wp2_with fail
    go_ret
    exact ⟨rfl, HQ.out⟩

end Go.Proofs.Ytlhiahhpmjiioaa

namespace Go.Proofs.Ytlhiahhpmjiioaa
open Go.RowKit

theorem Rd.len {w : World} {a : Option Addr} {n : Nat} {xs : List Int} (h : Rd w a n xs) : xs.length = n := h.1

set_option maxHeartbeats 400000 in
theorem BigFault_any (b : Bool) (a : Option Addr) (n c : Nat) (xs : List Int) (w : World) (h : Rd w a n xs) :
    Calls Try.prog 46 #[.agg #[.bool b, .slice a n c]] w (Ans w (.int .i64 (bigFault b xs))) := by
  have HR := Lib.hid h
  have HL := Lib.hid h.1
  have hmax := h.2.1
  clear h
  have k0 : Kept [] w (w.alloc (.cells #[.bool b, .slice a n c] 26)) := (Kept.refl [] w).alloc _
  have K0 := Lib.hid k0
  clear k0
  by_cases hz : natFault xs = 0
  · have hz' := Lib.hid hz
    cases b with
    | false =>
      have hv : Hid (bigFault false xs = 0) := bigFault_ok hz (fun h => by cases h)
      clear hz
      go_enter Try.func46, Try.ntmps46
      go_wp2_with fail
      refine (NatFault_any _ _ _ _ _ (HR.out.kept0 K0.out)).mono ?_
      rintro e w1 ⟨rfl, hk⟩
      rw [hz'.out]
      obtain ⟨c1, _, _⟩ := hk.top (g := w.heap.size) (by simp) (by simp) 0 rfl
      obtain ⟨c2, _, _⟩ := hk.top (g := w.heap.size) (by simp) (by simp) 1 rfl
      have HK := Lib.hid (K0.out.trans0 hk)
      clear hk
      go_wp2_with fail
      go_ret
      exact ⟨by rw [hv.out]; rfl, HK.out⟩
    | true =>
      by_cases hn : n = 0
      · subst hn
        have hv : Hid (bigFault true xs = 1) := bigFault_form hz HL.out
        clear hz
        go_enter Try.func46, Try.ntmps46
        go_wp2_with fail
        refine (NatFault_any _ _ _ _ _ (HR.out.kept0 K0.out)).mono ?_
        rintro e w1 ⟨rfl, hk⟩
        rw [hz'.out]
        obtain ⟨c1, _, _⟩ := hk.top (g := w.heap.size) (by simp) (by simp) 0 rfl
        obtain ⟨c2, _, _⟩ := hk.top (g := w.heap.size) (by simp) (by simp) 1 rfl
        have HK := Lib.hid (K0.out.trans0 hk)
        clear hk
        go_wp2_with fail
        go_ret
        exact ⟨by rw [hv.out]; rfl, HK.out⟩
      · have hv : Hid (bigFault true xs = 0) := bigFault_ok hz (fun _ => by rw [HL.out]; exact hn)
        have hn' : ((n : Int) == 0) = false := by rw [beq_eq_false_iff_ne]; omega
        clear hz
        go_enter Try.func46, Try.ntmps46
        go_wp2_with fail
        refine (NatFault_any _ _ _ _ _ (HR.out.kept0 K0.out)).mono ?_
        rintro e w1 ⟨rfl, hk⟩
        rw [hz'.out]
        obtain ⟨c1, _, _⟩ := hk.top (g := w.heap.size) (by simp) (by simp) 0 rfl
        obtain ⟨c2, _, _⟩ := hk.top (g := w.heap.size) (by simp) (by simp) 1 rfl
        have HK := Lib.hid (K0.out.trans0 hk)
        clear hk
        go_wp2_with fail
        go_ret
        exact ⟨by rw [hv.out]; rfl, HK.out⟩
  · have hv : Hid (bigFault b xs = natFault xs) := bigFault_nat hz
    generalize hf : natFault xs = f at *
    have hne : (f == 0) = false := by rw [beq_eq_false_iff_ne]; exact hz
    have HF := Lib.hid hf
    clear hf hz
    go_enter Try.func46, Try.ntmps46
    go_wp2_with fail
    refine (NatFault_any _ _ _ _ _ (HR.out.kept0 K0.out)).mono ?_
    rintro e w1 ⟨rfl, hk⟩
    rw [HF.out]
    have HK := Lib.hid (K0.out.trans0 hk)
    clear hk
    go_wp2_with fail
    go_ret
    exact ⟨by rw [hv.out]; rfl, HK.out⟩

set_option maxHeartbeats 400000 in
theorem sBigFault_any (b : Bool) (a : Option Addr) (n c : Nat) (xs : List Int) (w : World) (h : Rd w a n xs) :
    Calls Try.prog 65 #[.agg #[.bool b, .slice a n c]] w (Ans w (.int .i64 (bigFault b xs))) := by
  have HR := Lib.hid h
  have HL := Lib.hid h.1
  have hmax := h.2.1
  clear h
  have k0 : Kept [] w (w.alloc (.cells #[.bool b, .slice a n c] 26)) := (Kept.refl [] w).alloc _
  have K0 := Lib.hid k0
  clear k0
  by_cases hz : natFault xs = 0
  · have hz' := Lib.hid hz
    cases b with
    | false =>
      have hv : Hid (bigFault false xs = 0) := bigFault_ok hz (fun h => by cases h)
      clear hz
      go_enter Try.func65, Try.ntmps65
      go_wp2_with fail
      refine (sNatFault_any _ _ _ _ _ (HR.out.kept0 K0.out)).mono ?_
      rintro e w1 ⟨rfl, hk⟩
      rw [hz'.out]
      obtain ⟨c1, _, _⟩ := hk.top (g := w.heap.size) (by simp) (by simp) 0 rfl
      obtain ⟨c2, _, _⟩ := hk.top (g := w.heap.size) (by simp) (by simp) 1 rfl
      have HK := Lib.hid (K0.out.trans0 hk)
      clear hk
      go_wp2_with fail
      go_ret
      exact ⟨by rw [hv.out]; rfl, HK.out⟩
    | true =>
      by_cases hn : n = 0
      · subst hn
        have hv : Hid (bigFault true xs = 1) := bigFault_form hz HL.out
        clear hz
        go_enter Try.func65, Try.ntmps65
        go_wp2_with fail
        refine (sNatFault_any _ _ _ _ _ (HR.out.kept0 K0.out)).mono ?_
        rintro e w1 ⟨rfl, hk⟩
        rw [hz'.out]
        obtain ⟨c1, _, _⟩ := hk.top (g := w.heap.size) (by simp) (by simp) 0 rfl
        obtain ⟨c2, _, _⟩ := hk.top (g := w.heap.size) (by simp) (by simp) 1 rfl
        have HK := Lib.hid (K0.out.trans0 hk)
        clear hk
        go_wp2_with fail
        go_ret
        exact ⟨by rw [hv.out]; rfl, HK.out⟩
      · have hv : Hid (bigFault true xs = 0) := bigFault_ok hz (fun _ => by rw [HL.out]; exact hn)
        have hn' : ((n : Int) == 0) = false := by rw [beq_eq_false_iff_ne]; omega
        clear hz
        go_enter Try.func65, Try.ntmps65
        go_wp2_with fail
        refine (sNatFault_any _ _ _ _ _ (HR.out.kept0 K0.out)).mono ?_
        rintro e w1 ⟨rfl, hk⟩
        rw [hz'.out]
        obtain ⟨c1, _, _⟩ := hk.top (g := w.heap.size) (by simp) (by simp) 0 rfl
        obtain ⟨c2, _, _⟩ := hk.top (g := w.heap.size) (by simp) (by simp) 1 rfl
        have HK := Lib.hid (K0.out.trans0 hk)
        clear hk
        go_wp2_with fail
        go_ret
        exact ⟨by rw [hv.out]; rfl, HK.out⟩
  · have hv : Hid (bigFault b xs = natFault xs) := bigFault_nat hz
    generalize hf : natFault xs = f at *
    have hne : (f == 0) = false := by rw [beq_eq_false_iff_ne]; exact hz
    have HF := Lib.hid hf
    clear hf hz
    go_enter Try.func65, Try.ntmps65
    go_wp2_with fail
    refine (sNatFault_any _ _ _ _ _ (HR.out.kept0 K0.out)).mono ?_
    rintro e w1 ⟨rfl, hk⟩
    rw [HF.out]
    have HK := Lib.hid (K0.out.trans0 hk)
    clear hk
    go_wp2_with fail
    go_ret
    exact ⟨by rw [hv.out]; rfl, HK.out⟩

/-- The first fault of two is the one of the first, or else that of the second. -/
theorem bigFault2_first {na nb : Bool} {xs ys : List Int} (h : bigFault na xs ≠ 0) : bigFault2 na xs nb ys = bigFault na xs := if_neg h
theorem bigFault2_second {na nb : Bool} {xs ys : List Int} (h : bigFault na xs = 0) : bigFault2 na xs nb ys = bigFault nb ys := if_pos h

set_option maxHeartbeats 400000 in
theorem l2Two_any (p q : Bool) (a b : Option Addr) (n c m d : Nat) (xs ys : List Int) (w : World) (h : Rd w a n xs) (h' : Rd w b m ys) :
    Calls Try.prog 60 #[.agg #[.bool p, .slice a n c], .agg #[.bool q, .slice b m d]] w (Ans w (.int .i64 (bigFault2 p xs q ys))) := by
  have HR := Lib.hid h
  have HR' := Lib.hid h'
  clear h h'
  have k0 : Kept [] w ((w.alloc (.cells #[.bool p, .slice a n c] 26)).alloc (.cells #[.bool q, .slice b m d] 26)) := ((Kept.refl [] w).alloc _).alloc _
  have K0 := Lib.hid k0
  clear k0
  by_cases hz : bigFault p xs = 0
  · have hv : Hid (bigFault2 p xs q ys = bigFault q ys) := bigFault2_second hz
    have hz' := Lib.hid hz
    clear hz
    go_enter Try.func60, Try.ntmps60
    go_wp2_with fail
    refine (sBigFault_any _ _ _ _ _ _ (HR.out.kept0 K0.out)).mono ?_
    rintro e w1 ⟨rfl, hk⟩
    rw [hz'.out]
    obtain ⟨c1, _, _⟩ := hk.top (g := w.heap.size + 1) (by simp) (by simp) 0 rfl
    obtain ⟨c2, _, _⟩ := hk.top (g := w.heap.size + 1) (by simp) (by simp) 1 rfl
    have HK := Lib.hid (K0.out.trans0 hk)
    clear hk
    go_wp2_with fail
    refine (sBigFault_any _ _ _ _ _ _ (HR'.out.kept0 HK.out)).mono ?_
    rintro e w2 ⟨rfl, hk⟩
    have HK2 := Lib.hid (HK.out.trans0 hk)
    clear hk
    go_wp2_with fail
    go_ret
    exact ⟨by rw [hv.out]; rfl, HK2.out⟩
  · have hv : Hid (bigFault2 p xs q ys = bigFault p xs) := bigFault2_first hz
    generalize hf : bigFault p xs = f at *
    have hne : (f == 0) = false := by rw [beq_eq_false_iff_ne]; exact hz
    have HF := Lib.hid hf
    clear hf hz
    go_enter Try.func60, Try.ntmps60
    go_wp2_with fail
    refine (sBigFault_any _ _ _ _ _ _ (HR.out.kept0 K0.out)).mono ?_
    rintro e w1 ⟨rfl, hk⟩
    rw [HF.out]
    have HK := Lib.hid (K0.out.trans0 hk)
    clear hk
    go_wp2_with fail
    go_ret
    exact ⟨by rw [hv.out]; rfl, HK.out⟩

set_option maxHeartbeats 1000000 in
theorem firstBigFault_two (g : Nat) (p q : Bool) (a b : Option Addr) (n c m d : Nat) (xs ys : List Int) (w : World) (hg : g = w.heap.size) (h : Rd w a n xs) (h' : Rd w b m ys) :
    Calls Try.prog 45 #[.func (.func 46) #[] #[], .slice (some ⟨g, 0, none⟩) 2 2] (w.alloc (.cells #[.bool p, .slice a n c, .bool q, .slice b m d] 26)) (Ans w (.int .i64 (bigFault2 p xs q ys))) := by
  subst hg
  have HR := Lib.hid h
  have HR' := Lib.hid h'
  clear h h'
  have k0 : Kept [] w (w.alloc (.cells #[.bool p, .slice a n c, .bool q, .slice b m d] 26)) := (Kept.refl [] w).alloc _
  have HK0 := Lib.hid k0
  clear k0
  go_enter Try.func45, Try.ntmps45
  go_wp2
  go_loopw [10] (fun i wr => Hid (Kept [] (w.alloc (.cells #[.bool p, .slice a n c, .bool q, .slice b m d] 26)) wr) ∧ ((i = .int .i64 0) ∨ (i = .int .i64 1 ∧ Hid (bigFault p xs = 0)) ∨ (i = .int .i64 2 ∧ Hid (bigFault p xs = 0) ∧ Hid (bigFault q ys = 0)))) (fun i _ => 2 - (intOf i).toNat)
  case atStart => exact ⟨Kept.refl [] _, Or.inl rfl⟩
  case round =>
    obtain ⟨hK, hrel⟩ := hrel
    have hd : Rd wr a n xs := (HR.out.kept0 HK0.out).kept0 hK.out
    have HD := Lib.hid hd
    have hd' : Rd wr b m ys := (HR'.out.kept0 HK0.out).kept0 hK.out
    have HD' := Lib.hid hd'
    obtain ⟨c0, _, _⟩ := hK.out.top (g := w.heap.size) (by simp) (by simp) 0 rfl
    obtain ⟨c1, _, _⟩ := hK.out.top (g := w.heap.size) (by simp) (by simp) 1 rfl
    obtain ⟨c2, _, _⟩ := hK.out.top (g := w.heap.size) (by simp) (by simp) 2 rfl
    obtain ⟨c3, _, _⟩ := hK.out.top (g := w.heap.size) (by simp) (by simp) 3 rfl
    clear hd hd'
    rcases hrel with rfl | ⟨rfl, hx⟩ | ⟨rfl, hx, hy⟩
    · have hk1 : Kept [] wr (wr.alloc (.cells #[.bool p, .slice a n c] 26)) := (Kept.refl [] wr).alloc _
      have HK1 := Lib.hid hk1
      clear hk1
      by_cases hz : bigFault p xs = 0
      · have hz' := Lib.hid hz
        clear hz
        go_wp2_with (go_at_call 46; refine (BigFault_any _ _ _ _ _ _ (HD.out.kept0 HK1.out)).mono ?_; rintro e w1 ⟨rfl, hq⟩; rw [hz'.out])
        have hK2 := Lib.hid ((hK.out.trans0 HK1.out).trans0 hq)
        clear hK hq
        go_roundw
        case rel => exact ⟨hK2, Or.inr (Or.inl ⟨rfl, hz'⟩)⟩
        case measure => simp [intOf]
      · have hv : Hid (bigFault2 p xs q ys = bigFault p xs) := bigFault2_first hz
        generalize hf : bigFault p xs = f at *
        have hne : (f == 0) = false := by rw [beq_eq_false_iff_ne]; exact hz
        have HF := Lib.hid hf
        clear hf hz
        go_wp2_with (go_at_call 46; refine (BigFault_any _ _ _ _ _ _ (HD.out.kept0 HK1.out)).mono ?_; rintro e w1 ⟨rfl, hq⟩; rw [HF.out])
        have hK2 := Lib.hid ((HK0.out.trans0 hK.out).trans0 (HK1.out.trans0 hq))
        clear hK hq
        go_ret
        exact ⟨by rw [hv.out]; rfl, hK2.out⟩
    · have hk1 : Kept [] wr (wr.alloc (.cells #[.bool q, .slice b m d] 26)) := (Kept.refl [] wr).alloc _
      have HK1 := Lib.hid hk1
      clear hk1
      by_cases hz : bigFault q ys = 0
      · have hz' := Lib.hid hz
        clear hz
        go_wp2_with (go_at_call 46; refine (BigFault_any _ _ _ _ _ _ (HD'.out.kept0 HK1.out)).mono ?_; rintro e w1 ⟨rfl, hq⟩; rw [hz'.out])
        have hK2 := Lib.hid ((hK.out.trans0 HK1.out).trans0 hq)
        clear hK hq
        go_roundw
        case rel => exact ⟨hK2, Or.inr (Or.inr ⟨rfl, hx, hz'⟩)⟩
        case measure => simp [intOf]
      · have hv : Hid (bigFault2 p xs q ys = bigFault q ys) := bigFault2_second hx.out
        generalize hf : bigFault q ys = f at *
        have hne : (f == 0) = false := by rw [beq_eq_false_iff_ne]; exact hz
        have HF := Lib.hid hf
        clear hf hz
        go_wp2_with (go_at_call 46; refine (BigFault_any _ _ _ _ _ _ (HD'.out.kept0 HK1.out)).mono ?_; rintro e w1 ⟨rfl, hq⟩; rw [HF.out])
        have hK2 := Lib.hid ((HK0.out.trans0 hK.out).trans0 (HK1.out.trans0 hq))
        clear hK hq
        go_ret
        exact ⟨by rw [hv.out]; rfl, hK2.out⟩
    · have hv : Hid (bigFault2 p xs q ys = 0) := (bigFault2_second hx.out).trans hy.out
      go_wp2
      go_ret
      exact ⟨by rw [hv.out]; rfl, HK0.out.trans0 hK.out⟩

end Go.Proofs.Ytlhiahhpmjiioaa

namespace Go.Proofs.Ytlhiahhpmjiioaa
open Go.RowKit

theorem mask_i64 (u : Int) (h : -4611686018427387904 ≤ u ∧ u ≤ 4611686018427387904) : bits BinOp.and IntKind.i64 u 65535 = u % 65536 := by
  show IntKind.i64.wrap ((BitVec.ofInt 64 u &&& BitVec.ofInt 64 65535).toNat : Int) = _
  have e : (BitVec.ofInt 64 u &&& BitVec.ofInt 64 65535).toNat = (u % 65536).toNat := by
    rw [BitVec.toNat_and, BitVec.toNat_ofInt, show (BitVec.ofInt 64 65535).toNat = 2 ^ 16 - 1 by decide, Nat.and_two_pow_sub_one_eq_mod]
    omega
  rw [e, Int.toNat_of_nonneg (by omega)]
  exact IntWalk.i64_in _ (by omega)

/-- What a pass of addTimes answers: the carry; the limbs in the block from off on are out. -/
def AddTR (w : World) (g off : Nat) (cs : List Int) (n : Nat) (T : Int) (e : Ending) (w' : World) : Prop :=
  ∃ (out ds : List Int) (cy : Int), e = .returned (.int .i64 cy) ∧ out.length = n ∧ AllLimbs out ∧ ap out cy = T ∧ Upd cs off out ds ∧ Blk w' g ds ∧ Kept [g] w w' ∧ -2097152 ≤ cy ∧ cy ≤ 2097152

end Go.Proofs.Ytlhiahhpmjiioaa

namespace Go.Proofs.Ytlhiahhpmjiioaa
open Go.RowKit

theorem getD_map {xs : List Int} {j : Nat} {u : Value} (h : (xs.map (Value.int .i64))[j]? = some u) : j < xs.length ∧ u = .int .i64 (xs.getD j 0) := by
  have hj : j < xs.length := by simpa using (List.getElem?_eq_some_iff.1 h).1
  refine ⟨hj, ?_⟩
  rw [List.getElem?_map, List.getElem?_eq_getElem hj] at h
  simp at h
  rw [← h]; simp [List.getD_eq_getElem?_getD, hj]

/-- The list cs, its head overwritten by xs. -/
def over (cs xs : List Int) : List Int := xs ++ cs.drop xs.length
theorem over_zeros (xs : List Int) (n : Nat) : over (List.replicate n 0) xs = xs ++ List.replicate (n - xs.length) 0 := by simp [over]

theorem copyT (T : TypeId) {w : World} {ops : Array Oper} {rest : List Oper} {o : Oper} {a : Act} {Q : Exit → Act → World → Prop} (hgd : o.guard = none) (d s : Operand)
    (ho : o.op = .call { callee := .builtin .copy, args := #[d, s], argTypes := #[24, 24] })
    (g dLen dCap n sCap : Nat) (sp : Option Addr) (hd : a.eval d = .slice (some ⟨g, 0, none⟩) dLen dCap) (hs : a.eval s = .slice sp n sCap)
    (cs xs : List Int) (hg : w.heap[g]? = some (.cells (ints cs) T (0, 0))) (hr : Rd w sp n xs) (hn : n ≤ dLen) (hdl : dLen ≤ cs.length)
    (h : ∀ w', Blk w' g (over cs xs) → Kept [g] w w' → wpList Try.prog ops Q rest (a.put o.dst (goInt n)) w') :
    wpList Try.prog ops Q (o :: rest) a w := by
  obtain ⟨i0, hi, hz0, hz1, hz2⟩ := info_parts Try.info64
  have hsz : (Try.prog.info? 2).map (·.size) = some 1 := by rw [hi]; simp [hz1]
  have hxl := hr.1
  by_cases h0 : n = 0
  · subst h0
    have hx : xs = [] := List.eq_nil_of_length_eq_zero hxl
    subst hx
    refine wpList_copy_nothing hgd d s 24 24 ho 2 Try.underlying24 hsz _ _ _ _ _ _ hd hs (by simp) ?_
    refine h w ?_ (Kept.refl _ _)
    exact ⟨(ints cs, T), hg, by simp [ints, over], fun k hk => by simpa [over] using ints_get cs k (by simpa [over] using hk)⟩
  · obtain ⟨g', off, rfl, _⟩ := hr.2.2 0 (by omega)
    refine wpList_copy_own hgd d s 24 24 ho 2 Try.underlying24 hsz g 0 dLen dCap ⟨g', off, none⟩ n sCap hd hs (ints cs) T hg (xs.map (Value.int .i64)) (by rw [List.length_map, hxl]; exact (Nat.min_eq_left hn).symm)
      (fun j v hj => ?_) (by rw [ints_size, List.length_map, hxl]; omega) (fun v hv => by obtain ⟨_, _, rfl⟩ := List.mem_map.1 hv; rfl) ?_
    · obtain ⟨hj', rfl⟩ := getD_map hj
      obtain ⟨g2, off2, he, hc⟩ := hr.2.2 j (by omega)
      cases he
      rw [Addr.add_lit]; exact hc
    · have e : (xs.map (Value.int .i64)).length = n := by rw [List.length_map, hxl]
      rw [e]
      refine h _ ?_ ⟨rfl, rfl, rfl, by simp, fun k _ hk => setRow_other w g k _ (by simpa using hk)⟩
      unfold over at *
      rw [hxl]
      refine ⟨(_, _), setRow_heap w g _ _ _ _ hg, ?_, fun k hk => ?_⟩
      · simp [ints, hxl]
      · simp only [Nat.zero_add]
        have : ((ints cs).toList.take 0 ++ (xs.map (Value.int .i64) ++ (ints cs).toList.drop n)).toArray = ints (xs ++ cs.drop n) := by simp [ints]
        show (((ints cs).toList.take 0 ++ (xs.map (Value.int .i64) ++ (ints cs).toList.drop n)).toArray)[k]? = _
        rw [this, ints_get _ k hk]
theorem copy1 {w : World} {ops : Array Oper} {rest : List Oper} {o : Oper} {a : Act} {Q : Exit → Act → World → Prop} (hgd : o.guard = none) (d s : Operand)
    (ho : o.op = .call { callee := .builtin .copy, args := #[d, s], argTypes := #[24, 24] })
    (g dLen dCap n sCap : Nat) (sp : Option Addr) (hd : a.eval d = .slice (some ⟨g, 0, none⟩) dLen dCap) (hs : a.eval s = .slice sp n sCap)
    (cs xs : List Int) (hg : w.heap[g]? = some (.cells (ints cs) 2 (0, 0))) (hr : Rd w sp n xs) (hn : n ≤ dLen) (hdl : dLen ≤ cs.length)
    (h : ∀ w', Blk w' g (over cs xs) → Kept [g] w w' → wpList Try.prog ops Q rest (a.put o.dst (goInt n)) w') :
    wpList Try.prog ops Q (o :: rest) a w :=
  copyT 2 hgd d s ho g dLen dCap n sCap sp hd hs cs xs hg hr hn hdl h

/-- A whole slice appended to one that the call owns. -/
theorem appS {w : World} {ops : Array Oper} {rest : List Oper} {o : Oper} {a : Act} {Q : Exit → Act → World → Prop} (hgd : o.guard = none) (s x : Operand)
    (ho : o.op = .call { callee := .builtin .append, args := #[s, x], argTypes := #[24, 24] })
    (base : Nat) (v : Value) (xs : List Int) (hs : a.eval s = v) (hown : Ow base w v xs)
    (b : Option Addr) (m c : Nat) (ys : List Int) (hx : a.eval x = .slice b m c) (hr : Rd w b m ys) (hbc : b = none → m = 0 ∧ c = 0)
    (hlen : xs.length + m ≤ 1099511627776) (hbase : base ≤ w.heap.size)
    (h : ∀ v' w', Ow base w' v' (xs ++ ys) → w.grownBy w' v.ownBlock → wpList Try.prog ops Q rest (a.put o.dst v') w') :
    wpList Try.prog ops Q (o :: rest) a w := by
  obtain ⟨i0, hi, hz0, hz1, hz2⟩ := info_parts Try.info64
  have hyl := hr.1
  cases b with
  | none =>
    obtain ⟨rfl, rfl⟩ := hbc rfl
    have hy : ys = [] := List.eq_nil_of_length_eq_zero hyl
    subst hy
    refine wpList_append_own_none hgd s x 24 ho base 2 i0 1 Try.underlying24 hi v xs.length _ hs hown hx ?_
    exact h v w (by rw [List.append_nil]; exact hown) (World.grownBy.refl w _)
  | some ad =>
    refine wpList_append_own w hgd s x 24 ho base 2 i0 (.int .i64 0) 1 8 Try.underlying24 hi hz0 hz1 hz2 rfl (by decide) v xs.length _ hs hown ad m c (ys.map (Value.int .i64)) hx (by rw [List.length_map, hyl, Nat.mul_one]) ?_ ?_ ?_ ?_ hbase ?_
    · intro j u hj
      obtain ⟨hj', rfl⟩ := getD_map hj
      obtain ⟨g2, off2, he, hc⟩ := hr.2.2 j (by omega)
      cases he
      rw [Addr.add_lit]; exact hc
    · exact fun v hv => by obtain ⟨_, _, rfl⟩ := List.mem_map.1 hv; rfl
    · unfold maxLen; omega
    · omega
    · intro v' w' h1 h2 _
      refine h v' w' ?_ h2
      unfold Ow
      rw [List.length_append, hyl, List.map_append]
      exact h1

end Go.Proofs.Ytlhiahhpmjiioaa

namespace Go.Proofs.Ytlhiahhpmjiioaa
open Go.RowKit

/-- The code and the limbs of an answer: none where there are too many. -/
def fitCode (v : Int) : Int := if 40 < (digits v).length then 7 else 0
def fitList (v : Int) : List Int := if 40 < (digits v).length then [] else digits v

/-- What natResult answers: the limbs lie where they lay. -/
def FitR (w : World) (a : Option Addr) (v : Int) (e : Ending) (w' : World) : Prop :=
  ∃ b c, e = .returned (.agg #[.int .i64 (fitCode v), .slice b (fitList v).length c]) ∧ Sl w' b (fitList v).length c (fitList v) ∧ (0 < (fitList v).length → b = a) ∧ Kept [] w w'

theorem Sl.front {w : World} {a : Option Addr} {n c : Nat} {xs : List Int} (h : Sl w a n c xs) (k : Nat) (hk : k ≤ n) : Sl w a k c (xs.take k) := by
  obtain ⟨h1, h2, h3, h5, h4⟩ := h
  refine ⟨by rw [List.length_take]; omega, by omega, h3, h5, ?_⟩
  by_cases h0 : k = 0
  · exact Or.inl h0
  · rcases h4 with h4 | ⟨g, off, cs, ha, hb, hl, he⟩
    · omega
    · exact Or.inr ⟨g, off, cs, ha, hb, by omega, fun i hi => by
        rw [he i (by omega)]
        simp only [List.getD_eq_getElem?_getD, List.getElem?_take, hi, if_true]⟩

theorem allLimbs_replicate (n : Nat) : AllLimbs (List.replicate n 0) := fun i hi => by
  have : i < n := by simpa using hi
  simp [List.getD_eq_getElem?_getD, this]
theorem allLimbs_pad {xs : List Int} (h : AllLimbs xs) (n : Nat) : AllLimbs (xs ++ List.replicate n 0) := fun i hi => by
  by_cases e : i < xs.length
  · have := h i e
    simp only [List.getD_eq_getElem?_getD, List.getElem?_append_left e] at this ⊢; exact this
  · have h2 : i - xs.length < n := by simp at hi; omega
    simp only [List.getD_eq_getElem?_getD, List.getElem?_append_right (Nat.not_lt.1 e)]
    simp [h2]
theorem val_pad : ∀ (xs : List Int) (n : Nat), val (xs ++ List.replicate n 0) = val xs
  | [], 0 => rfl
  | [], n + 1 => by
    have := val_pad [] n
    simp only [List.nil_append, List.replicate_succ, val] at this ⊢
    omega
  | x :: xs, n => by simp only [List.cons_append, val]; rw [val_pad xs n]

/-- What fits so many limbs has nothing carried out of them. -/
theorem no_carryN {out : List Int} {cy T : Int} {n : Nat} (ho : AllLimbs out) (hl : out.length = n) (hT : 0 ≤ T ∧ T < pw n) (h : ap out cy = T) : cy = 0 ∧ val out = T := by
  have h1 := ho.val
  rw [ap_pw, hl] at h
  rw [hl] at h1
  have hp := pw_pos n
  generalize pw n = P at *
  have hc : cy = 0 := by
    rcases Int.lt_trichotomy cy 0 with hc | hc | hc
    · have : P * cy ≤ P * (-1) := Int.mul_le_mul_of_nonneg_left (by omega) (by omega)
      omega
    · exact hc
    · have : P * 1 ≤ P * cy := Int.mul_le_mul_of_nonneg_left (by omega) (by omega)
      omega
  subst hc
  simp at h; exact ⟨rfl, h⟩

/-- A sum of two numbers fits one limb more than either; nothing is carried out of it. -/
theorem no_carry {out : List Int} {cy A B : Int} {n : Nat} (ho : AllLimbs out) (hl : out.length = n + 1) (hA : 0 ≤ A ∧ A < pw n) (hB : 0 ≤ B ∧ B < pw n) (h : ap out cy = A + B) : val out = A + B := by
  have h1 := ho.val
  rw [ap_pw, hl] at h
  rw [hl] at h1
  simp only [pw] at h h1
  have hp := pw_pos n
  generalize pw n = P at *
  have hc : cy = 0 := by
    rcases Int.lt_trichotomy cy 0 with hc | hc | hc
    · have : 65536 * P * cy ≤ 65536 * P * (-1) := Int.mul_le_mul_of_nonneg_left (by omega) (by omega)
      omega
    · exact hc
    · have : 65536 * P * 1 ≤ 65536 * P * cy := Int.mul_le_mul_of_nonneg_left (by omega) (by omega)
      omega
  subst hc
  simp at h; exact h

theorem val_pw_le {xs : List Int} (h : AllLimbs xs) {n : Nat} (hn : xs.length ≤ n) : 0 ≤ val xs ∧ val xs < pw n := by
  have h1 := h.val
  have h2 := pw_mono xs.length n hn
  omega

end Go.Proofs.Ytlhiahhpmjiioaa

namespace Go.Proofs.Ytlhiahhpmjiioaa
open Go.RowKit

set_option maxHeartbeats 400000 in
theorem l1At_at (a : Option Addr) (n c : Nat) (xs : List Int) (k : Nat) (y : Int) (w : World) (h : Rd w a n xs) (_hk : k ≤ 9223372036854775807) (hv : xs.getD k 0 = y) :
    Calls Try.prog 57 #[.slice a n c, .int .i64 k] w fun e w' => e = .returned (.int .i64 y) ∧ w = w' := by
  have HR := Lib.hid h
  have hmax := h.2.1
  have HL := Lib.hid h.1
  have HV := Lib.hid hv
  clear h hv
  by_cases hlt : k < n
  · obtain ⟨g, off, rfl, hc⟩ := HR.out.2.2 k hlt
    rw [HV.out] at hc
    go_enter Try.func57, Try.ntmps57
    go_wp2
    go_ret
    exact ⟨rfl, rfl⟩
  · have h0 : Hid (y = 0) := by show y = 0; rw [← HV.out]; exact getD_past (by rw [HL.out]; omega)
    go_enter Try.func57, Try.ntmps57
    go_wp2
    go_ret
    exact ⟨by rw [h0.out]; rfl, rfl⟩

set_option maxHeartbeats 2000000 in
theorem l1Add_any (a b : Option Addr) (n c m c' : Nat) (xs ys : List Int) (w : World) (h : Rd w a n xs) (h' : Rd w b m ys) (hx : Canon xs) (hy : Canon ys) (hn : n ≤ 1000000) (hm : m ≤ 1000000) :
    Calls Try.prog 44 #[.slice a n c, .slice b m c'] w (SlR w (digits (val xs + val ys))) := by
  have HR := Lib.hid h
  have HR' := Lib.hid h'
  have HL := Lib.hid h.1
  have HL' := Lib.hid h'.1
  have HXL := Lib.hid (canon_limbs hx)
  have HYL := Lib.hid (canon_limbs hy)
  have HCX := Lib.hid hx
  have HCY := Lib.hid hy
  obtain ⟨T, hT⟩ : ∃ T, T = val xs + val ys := ⟨_, rfl⟩
  rw [← hT]
  have HT := Lib.hid hT
  clear h h' hx hy hT
  go_enter Try.func44, Try.ntmps44
  go_wp2
  go_loopw [5, 6, 7] (fun v q i wr => ∃ (k : Nat) (out : List Int) (cy : Int), k ≤ 1000001 ∧ q = .int .i64 cy ∧ i = .int .i64 k ∧ 0 ≤ cy ∧ cy ≤ 1 ∧ Hid (out.length = k) ∧ Hid (AllLimbs out) ∧ Hid (ap out (cy + (val (xs.drop k) + val (ys.drop k))) = T) ∧ Hid (n < k → m < k → cy = 0) ∧ Hid (n ≤ k → m ≤ k → 0 < cy ∨ (0 < k → out.getD (out.length - 1) 0 ≠ 0)) ∧ Hid (Ow w.heap.size wr v out) ∧ Hid (Kept [] w wr)) (fun _ q i _ => 1000002 - (intOf i).toNat)
  case atStart => exact ⟨0, [], 0, by omega, rfl, rfl, by omega, by omega, rfl, fun i hi => by simp at hi, by show ap _ _ = T; rw [HT.out]; simp [ap], fun _ _ => rfl, fun _ _ => Or.inr (fun h => by omega), Ow.empty _ w (Nat.le_refl _), (Kept.refl [] w).alloc _⟩
  case round =>
    obtain ⟨k, out, cy, hk, rfl, rfl, hc1, hc2, hOL, hO, hAp, hCZ, hT, hW, hK⟩ := hrel
    have hcz : n < k → m < k → cy = 0 := hCZ.out
    have hgo : (k < n) ∨ (¬ k < n ∧ k < m) ∨ (¬ k < n ∧ ¬ k < m ∧ 0 < cy) ∨ (¬ k < n ∧ ¬ k < m ∧ ¬ 0 < cy) := by omega
    rcases hgo with h1 | ⟨h1, h2⟩ | ⟨h1, h2, h3⟩ | ⟨h1, h2, h3⟩
    · have hd1 : decide ((k : Int) < (n : Int)) = true := decide_eq_true (by omega)
      have hav := HR.out.kept0 hK.out
      have hbv := HR'.out.kept0 hK.out
      have HAV := Lib.hid hav
      have HBV := Lib.hid hbv
      have ha0 := getD_limb HXL.out k
      have hb0 := getD_limb HYL.out k
      have hst := val_drop xs k
      have hst' := val_drop ys k
      have htx : k + 1 = xs.length → 0 < xs.getD k 0 := canon_top HCX.out k
      have hty : k + 1 = ys.length → 0 < ys.getD k 0 := canon_top HCY.out k
      have hpx : xs.length ≤ k → xs.getD k 0 = 0 := getD_past
      have hpy : ys.length ≤ k → ys.getD k 0 = 0 := getD_past
      rw [HL.out] at htx hpx
      rw [HL'.out] at hty hpy
      generalize hx0 : xs.getD k 0 = x0 at *
      generalize hy0 : ys.getD k 0 = y0 at *
      have HX0 := Lib.hid hx0
      have HY0 := Lib.hid hy0
      obtain ⟨s, hs⟩ : ∃ s, s = x0 + y0 + cy := ⟨_, rfl⟩
      have hs1 : 0 ≤ s := by omega
      have hs2 : s ≤ 131071 := by omega
      have hO2 : Hid (AllLimbs (out ++ [s % 65536])) := hO.out.snoc (by omega)
      have hAp2 : Hid (ap (out ++ [s % 65536]) (s / 65536 + (val (xs.drop (k + 1)) + val (ys.drop (k + 1)))) = T) := by
        show ap _ _ = T
        rw [ap_snoc, ← hAp.out]
        congr 1
        omega
      have hOL2 : Hid ((out ++ [s % 65536]).length = k + 1) := by show _ = _; rw [List.length_append, hOL.out]; rfl
      have hT2 : Hid (n ≤ k + 1 → m ≤ k + 1 → 0 < s / 65536 ∨ (0 < k + 1 → (out ++ [s % 65536]).getD ((out ++ [s % 65536]).length - 1) 0 ≠ 0)) := fun q1 q2 => by
        rw [getD_last]
        by_cases q3 : 0 < s / 65536
        · exact Or.inl q3
        · exact Or.inr (fun _ => by omega)
      have hk2 : k + 1 ≤ 1000001 := by omega
      have hCZ2 : Hid (n < k + 1 → m < k + 1 → s / 65536 = 0) := fun q1 q2 => by
        have := hpx (by omega); have := hpy (by omega); omega
      have hol : out.length ≤ 1000001 := by rw [hOL.out]; omega
      have hszr : w.heap.size ≤ wr.heap.size := hK.out.size
      have HS := Lib.hid hs
      have e1 : IntKind.i64.wrap (x0 + y0) = x0 + y0 := IntWalk.i64_in _ (by omega)
      have e2 : IntKind.i64.wrap (x0 + y0 + cy) = s := by rw [← hs]; exact IntWalk.i64_in _ (by omega)
      obtain ⟨ha1, ha2⟩ := ha0
      obtain ⟨hb1, hb2⟩ := hb0
      have HTX := Lib.hid htx
      have HTY := Lib.hid hty
      clear hcz hst hst' htx hty hpx hpy hx0 hy0 hs hO hAp hOL hav hbv hT
      go_wp2_with fail
      refine (l1At_at _ _ _ _ k x0 _ HAV.out (by omega) HX0.out).mono ?_
      rintro e w2 ⟨rfl, rfl⟩
      go_wp2_with fail
      refine (l1At_at _ _ _ _ k y0 _ HBV.out (by omega) HY0.out).mono ?_
      rintro e w2 ⟨rfl, rfl⟩
      go_wp2_with (at_builtin; refine app1 rfl _ _ rfl w.heap.size u5 out rfl (hW.out.alloc _) wr.heap.size (s % 65536) rfl (by simp) (by omega) (by simp; omega) ?_)
      intro v' w1 hW2 hG
      have HW2 := Lib.hid hW2
      have HK2 : Hid (Kept [] w w1) := kept_grown (hK.out.alloc _) (hW.out.alloc _) hG (Nat.le_refl _)
      clear hW2 hG
      go_wp2
      go_roundw
      case rel => exact ⟨k + 1, out ++ [s % 65536], s / 65536, by omega, rfl, by go_num, by omega, by omega, hOL2, hO2, hAp2, hCZ2, hT2, HW2.out, HK2⟩
      case measure => simp [intOf]; omega
    · have hd1 : decide ((k : Int) < (n : Int)) = false := decide_eq_false (by omega)
      have hd2 : decide ((k : Int) < (m : Int)) = true := decide_eq_true (by omega)
      have hav := HR.out.kept0 hK.out
      have hbv := HR'.out.kept0 hK.out
      have HAV := Lib.hid hav
      have HBV := Lib.hid hbv
      have ha0 := getD_limb HXL.out k
      have hb0 := getD_limb HYL.out k
      have hst := val_drop xs k
      have hst' := val_drop ys k
      have htx : k + 1 = xs.length → 0 < xs.getD k 0 := canon_top HCX.out k
      have hty : k + 1 = ys.length → 0 < ys.getD k 0 := canon_top HCY.out k
      have hpx : xs.length ≤ k → xs.getD k 0 = 0 := getD_past
      have hpy : ys.length ≤ k → ys.getD k 0 = 0 := getD_past
      rw [HL.out] at htx hpx
      rw [HL'.out] at hty hpy
      generalize hx0 : xs.getD k 0 = x0 at *
      generalize hy0 : ys.getD k 0 = y0 at *
      have HX0 := Lib.hid hx0
      have HY0 := Lib.hid hy0
      obtain ⟨s, hs⟩ : ∃ s, s = x0 + y0 + cy := ⟨_, rfl⟩
      have hs1 : 0 ≤ s := by omega
      have hs2 : s ≤ 131071 := by omega
      have hO2 : Hid (AllLimbs (out ++ [s % 65536])) := hO.out.snoc (by omega)
      have hAp2 : Hid (ap (out ++ [s % 65536]) (s / 65536 + (val (xs.drop (k + 1)) + val (ys.drop (k + 1)))) = T) := by
        show ap _ _ = T
        rw [ap_snoc, ← hAp.out]
        congr 1
        omega
      have hOL2 : Hid ((out ++ [s % 65536]).length = k + 1) := by show _ = _; rw [List.length_append, hOL.out]; rfl
      have hT2 : Hid (n ≤ k + 1 → m ≤ k + 1 → 0 < s / 65536 ∨ (0 < k + 1 → (out ++ [s % 65536]).getD ((out ++ [s % 65536]).length - 1) 0 ≠ 0)) := fun q1 q2 => by
        rw [getD_last]
        by_cases q3 : 0 < s / 65536
        · exact Or.inl q3
        · exact Or.inr (fun _ => by omega)
      have hk2 : k + 1 ≤ 1000001 := by omega
      have hCZ2 : Hid (n < k + 1 → m < k + 1 → s / 65536 = 0) := fun q1 q2 => by
        have := hpx (by omega); have := hpy (by omega); omega
      have hol : out.length ≤ 1000001 := by rw [hOL.out]; omega
      have hszr : w.heap.size ≤ wr.heap.size := hK.out.size
      have HS := Lib.hid hs
      have e1 : IntKind.i64.wrap (x0 + y0) = x0 + y0 := IntWalk.i64_in _ (by omega)
      have e2 : IntKind.i64.wrap (x0 + y0 + cy) = s := by rw [← hs]; exact IntWalk.i64_in _ (by omega)
      obtain ⟨ha1, ha2⟩ := ha0
      obtain ⟨hb1, hb2⟩ := hb0
      have HTX := Lib.hid htx
      have HTY := Lib.hid hty
      clear hcz hst hst' htx hty hpx hpy hx0 hy0 hs hO hAp hOL hav hbv hT
      go_wp2_with fail
      refine (l1At_at _ _ _ _ k x0 _ HAV.out (by omega) HX0.out).mono ?_
      rintro e w2 ⟨rfl, rfl⟩
      go_wp2_with fail
      refine (l1At_at _ _ _ _ k y0 _ HBV.out (by omega) HY0.out).mono ?_
      rintro e w2 ⟨rfl, rfl⟩
      go_wp2_with (at_builtin; refine app1 rfl _ _ rfl w.heap.size u5 out rfl (hW.out.alloc _) wr.heap.size (s % 65536) rfl (by simp) (by omega) (by simp; omega) ?_)
      intro v' w1 hW2 hG
      have HW2 := Lib.hid hW2
      have HK2 : Hid (Kept [] w w1) := kept_grown (hK.out.alloc _) (hW.out.alloc _) hG (Nat.le_refl _)
      clear hW2 hG
      go_wp2
      go_roundw
      case rel => exact ⟨k + 1, out ++ [s % 65536], s / 65536, by omega, rfl, by go_num, by omega, by omega, hOL2, hO2, hAp2, hCZ2, hT2, HW2.out, HK2⟩
      case measure => simp [intOf]; omega
    · have hd1 : decide ((k : Int) < (n : Int)) = false := decide_eq_false (by omega)
      have hd2 : decide ((k : Int) < (m : Int)) = false := decide_eq_false (by omega)
      have hd3 : decide (0 < cy) = true := decide_eq_true h3
      have hav := HR.out.kept0 hK.out
      have hbv := HR'.out.kept0 hK.out
      have HAV := Lib.hid hav
      have HBV := Lib.hid hbv
      have ha0 := getD_limb HXL.out k
      have hb0 := getD_limb HYL.out k
      have hst := val_drop xs k
      have hst' := val_drop ys k
      have htx : k + 1 = xs.length → 0 < xs.getD k 0 := canon_top HCX.out k
      have hty : k + 1 = ys.length → 0 < ys.getD k 0 := canon_top HCY.out k
      have hpx : xs.length ≤ k → xs.getD k 0 = 0 := getD_past
      have hpy : ys.length ≤ k → ys.getD k 0 = 0 := getD_past
      rw [HL.out] at htx hpx
      rw [HL'.out] at hty hpy
      generalize hx0 : xs.getD k 0 = x0 at *
      generalize hy0 : ys.getD k 0 = y0 at *
      have HX0 := Lib.hid hx0
      have HY0 := Lib.hid hy0
      obtain ⟨s, hs⟩ : ∃ s, s = x0 + y0 + cy := ⟨_, rfl⟩
      have hs1 : 0 ≤ s := by omega
      have hs2 : s ≤ 131071 := by omega
      have hO2 : Hid (AllLimbs (out ++ [s % 65536])) := hO.out.snoc (by omega)
      have hAp2 : Hid (ap (out ++ [s % 65536]) (s / 65536 + (val (xs.drop (k + 1)) + val (ys.drop (k + 1)))) = T) := by
        show ap _ _ = T
        rw [ap_snoc, ← hAp.out]
        congr 1
        omega
      have hOL2 : Hid ((out ++ [s % 65536]).length = k + 1) := by show _ = _; rw [List.length_append, hOL.out]; rfl
      have hT2 : Hid (n ≤ k + 1 → m ≤ k + 1 → 0 < s / 65536 ∨ (0 < k + 1 → (out ++ [s % 65536]).getD ((out ++ [s % 65536]).length - 1) 0 ≠ 0)) := fun q1 q2 => by
        rw [getD_last]
        by_cases q3 : 0 < s / 65536
        · exact Or.inl q3
        · exact Or.inr (fun _ => by omega)
      have hk2 : k + 1 ≤ 1000001 := by omega
      have hCZ2 : Hid (n < k + 1 → m < k + 1 → s / 65536 = 0) := fun q1 q2 => by
        have := hpx (by omega); have := hpy (by omega); omega
      have hol : out.length ≤ 1000001 := by rw [hOL.out]; omega
      have hszr : w.heap.size ≤ wr.heap.size := hK.out.size
      have HS := Lib.hid hs
      have e1 : IntKind.i64.wrap (x0 + y0) = x0 + y0 := IntWalk.i64_in _ (by omega)
      have e2 : IntKind.i64.wrap (x0 + y0 + cy) = s := by rw [← hs]; exact IntWalk.i64_in _ (by omega)
      obtain ⟨ha1, ha2⟩ := ha0
      obtain ⟨hb1, hb2⟩ := hb0
      have HTX := Lib.hid htx
      have HTY := Lib.hid hty
      clear hcz hst hst' htx hty hpx hpy hx0 hy0 hs hO hAp hOL hav hbv hT
      go_wp2_with fail
      refine (l1At_at _ _ _ _ k x0 _ HAV.out (by omega) HX0.out).mono ?_
      rintro e w2 ⟨rfl, rfl⟩
      go_wp2_with fail
      refine (l1At_at _ _ _ _ k y0 _ HBV.out (by omega) HY0.out).mono ?_
      rintro e w2 ⟨rfl, rfl⟩
      go_wp2_with (at_builtin; refine app1 rfl _ _ rfl w.heap.size u5 out rfl (hW.out.alloc _) wr.heap.size (s % 65536) rfl (by simp) (by omega) (by simp; omega) ?_)
      intro v' w1 hW2 hG
      have HW2 := Lib.hid hW2
      have HK2 : Hid (Kept [] w w1) := kept_grown (hK.out.alloc _) (hW.out.alloc _) hG (Nat.le_refl _)
      clear hW2 hG
      go_wp2
      go_roundw
      case rel => exact ⟨k + 1, out ++ [s % 65536], s / 65536, by omega, rfl, by go_num, by omega, by omega, hOL2, hO2, hAp2, hCZ2, hT2, HW2.out, HK2⟩
      case measure => simp [intOf]; omega
    · have hd1 : decide ((k : Int) < (n : Int)) = false := decide_eq_false (by omega)
      have hd2 : decide ((k : Int) < (m : Int)) = false := decide_eq_false (by omega)
      have hd3 : decide (0 < cy) = false := decide_eq_false h3
      obtain rfl : cy = 0 := by omega
      clear hcz
      have hx2 : Hid (out = digits T) := by
        have h5 := hAp.out
        rw [List.drop_of_length_le (by rw [HL.out]; omega), List.drop_of_length_le (by rw [HL'.out]; omega)] at h5
        simp only [val, Int.add_zero] at h5
        rw [ap_zero] at h5
        show out = digits T
        rw [← h5]
        refine digits_of_limbs hO.out (fun hp => ?_)
        rcases hT.out (by omega) (by omega) with h6 | h6
        · omega
        · exact h6 (by rw [← hOL.out]; exact hp)
      go_wp2
      go_ret
      exact ⟨u5, rfl, by rw [← hx2.out]; exact hW.out, hK.out⟩

theorem fit_len (v : Int) (c : Prop) [Decidable c] : (if c then fitList v else []).length ≤ 4000000 := by
  split
  · unfold fitList
    split
    · simp
    · omega
  · simp

end Go.Proofs.Ytlhiahhpmjiioaa

namespace Go.Proofs.Ytlhiahhpmjiioaa
open Go.RowKit

/-- A call that answers a code and a big in memory of its own. -/
def BigR (w : World) (r : BV) (e : Ending) (w' : World) : Prop :=
  ∃ a c, e = .returned (.agg #[.int .i64 r.code, .bool r.neg, .slice a r.limbs.length c]) ∧ Sl w' a r.limbs.length c r.limbs ∧ Fr w.heap.size a r.limbs.length ∧ Kept [] w w'
/-- A call that answers a big that is the number z; its limbs lie in memory from block B on. -/
def BigV (B : Nat) (w : World) (z : Int) (e : Ending) (w' : World) : Prop :=
  ∃ a c, e = .returned (.agg #[.bool (isNeg z), .slice a (mag z).length c]) ∧ Sl w' a (mag z).length c (mag z) ∧ Fr B a (mag z).length ∧ Kept [] w w'
/-- A call that answers this value and leaves old memory alone. -/
def Val (w : World) (v : Value) (e : Ending) (w' : World) : Prop := e = .returned v ∧ Kept [] w w'

set_option maxHeartbeats 400000 in
theorem l2Big_any (b : Bool) (a : Option Addr) (n c : Nat) (v : Int) (w : World) (hv : 0 ≤ v) (hn : (digits v).length = n) :
    Calls Try.prog 39 #[.bool b, .slice a n c] w (Val w (.agg #[.bool (isNeg (sg b v)), .slice a n c])) := by
  have e := isNeg_sg (neg := b) hv
  rw [hn] at e
  rw [e]
  clear e
  cases b with
  | false =>
    have e : (false && decide (0 < n)) = false := rfl
    rw [e]
    clear e
    go_enter Try.func39, Try.ntmps39
    go_wp2
    exact bodyPost_ret (v := .agg #[.bool false, .slice a n c]) (by simp [results, Try.results39, go_sem]) rfl ⟨rfl, (Kept.refl [] w).alloc _⟩
  | true =>
    by_cases h0 : 0 < n
    · have e : (true && decide (0 < n)) = true := by rw [decide_eq_true h0]; rfl
      rw [e]
      have h1 : decide ((0 : Int) < (n : Int)) = true := decide_eq_true (by omega)
      clear e
      go_enter Try.func39, Try.ntmps39
      go_wp2
      exact bodyPost_ret (v := .agg #[.bool true, .slice a n c]) (by simp [results, Try.results39, go_sem]) rfl ⟨rfl, (Kept.refl [] w).alloc _⟩
    · have e : (true && decide (0 < n)) = false := by rw [decide_eq_false h0]; rfl
      rw [e]
      obtain rfl : n = 0 := by omega
      clear e h0
      go_enter Try.func39, Try.ntmps39
      go_wp2
      exact bodyPost_ret (v := .agg #[.bool false, .slice a 0 c]) (by simp [results, Try.results39, go_sem]) rfl ⟨rfl, (Kept.refl [] w).alloc _⟩

/-- The cells of a result's block, stored. -/
theorem box_bool {w w1 : World} {b : Bool} {a : Option Addr} {n c : Nat} {T : TypeId} {x y : Value} (hK : Kept [] (w.alloc (.cells #[x, y] T)) w1) :
    Kept [] w ((w1.setCell ⟨w.heap.size, 0, none⟩ (.bool b)).setCell ⟨w.heap.size, 1, none⟩ (.slice a n c)) :=
  (((Kept.refl [] w).alloc _).trans0 hK).setCell _ _ (by simp) |>.setCell _ _ (by simp)

/-- The opposite of a big that is the number z. -/
theorem sg_not {b : Bool} {v : Int} : sg (!b) v = - sg b v := by cases b <;> simp [sg]

set_option maxHeartbeats 400000 in
theorem l2Neg_any (a : Option Addr) (n c : Nat) (z : Int) (b : Bool) (w : World) (hb : sg b (val (mag z)) = z) (hn : (mag z).length = n) :
    Calls Try.prog 50 #[.agg #[.bool b, .slice a n c]] w (Val w (.agg #[.bool (isNeg (-z)), .slice a n c])) := by
  have hv := val_mag_nonneg z
  have hd : (digits (val (mag z))).length = n := by rw [digits_val (mag_canon z)]; exact hn
  have he : - z = sg (!b) (val (mag z)) := by rw [sg_not, hb]
  rw [he]
  generalize val (mag z) = v at *
  have HV := Lib.hid hv
  have HD := Lib.hid hd
  clear hb he hn hd hv
  go_enter Try.func50, Try.ntmps50
  go_wp2_with fail
  refine (l2Big_any _ _ _ _ _ _ HV.out HD.out).mono ?_
  rintro e w1 ⟨rfl, hk⟩
  obtain ⟨c1, f1, _⟩ := hk.top (g := w.heap.size + 1) (by simp) (by simp) 0 rfl
  obtain ⟨c2, f2, _⟩ := hk.top (g := w.heap.size + 1) (by simp) (by simp) 1 rfl
  have HK := Lib.hid (((((Kept.refl [] w).alloc _).alloc _).trans0 hk))
  clear hk
  obtain ⟨r, hr⟩ : ∃ r, r = isNeg (sg (!b) v) := ⟨_, rfl⟩
  have HR := Lib.hid hr
  rw [← hr]
  clear hr
  obtain ⟨_, eb, ec⟩ := cells2 (.bool r) (.slice a n c) c1 c2
  go_wp2_with fail
  exact bodyPost_ret (v := .agg #[.bool r, .slice a n c]) (by simp [results, Try.results50, go_sem, eb, ec]) rfl ⟨by rw [← HR.out], (HK.out.setCell _ _ (by simp)).setCell _ _ (by simp)⟩

/-- What bigResult and l2Whole answer: the limbs lie where they lay. -/
def FitB (w : World) (a : Option Addr) (r : BV) (e : Ending) (w' : World) : Prop :=
  ∃ b c, e = .returned (.agg #[.int .i64 r.code, .bool r.neg, .slice b r.limbs.length c]) ∧ Sl w' b r.limbs.length c r.limbs ∧ (0 < r.limbs.length → b = a) ∧ Kept [] w w'

theorem fitB_many {z : Int} (h : 40 < (mag z).length) : fitB z = noBig 7 := if_pos h
theorem fitB_ok {z : Int} (h : ¬ 40 < (mag z).length) : fitB z = ⟨0, isNeg z, mag z⟩ := if_neg h

theorem Kept.undrew {L : List Nat} {w w1 : World} (h : Kept L w.drew w1) : Kept L w w1 := ⟨h.os, h.tape, h.output, h.size, h.block⟩
theorem drew_alloc_cell {w : World} {o : Obj} {p : Addr} {v : Value} (h : w.cell? p = some v) : (w.alloc o).drew.cell? p = some v := alloc_cell h
/-- Three cells of one block, stored one behind the other. -/
theorem cells3' {w : World} {g : Nat} {x y z : Value} (u v t : Value) (h0 : w.cell? ⟨g, 0, none⟩ = some x) (h1 : w.cell? ⟨g, 1, none⟩ = some y) (h2 : w.cell? ⟨g, 2, none⟩ = some z) :
    (((w.setCell ⟨g, 0, none⟩ u).setCell ⟨g, 1, none⟩ v).setCell ⟨g, 2, none⟩ t).cell? ⟨g, 0, none⟩ = some u ∧ (((w.setCell ⟨g, 0, none⟩ u).setCell ⟨g, 1, none⟩ v).setCell ⟨g, 2, none⟩ t).cell? ⟨g, 1, none⟩ = some v ∧ (((w.setCell ⟨g, 0, none⟩ u).setCell ⟨g, 1, none⟩ v).setCell ⟨g, 2, none⟩ t).cell? ⟨g, 2, none⟩ = some t := by
  obtain ⟨_, e2, e3⟩ := cells2 u v h0 h1
  have e4 : ((w.setCell ⟨g, 0, none⟩ u).setCell ⟨g, 1, none⟩ v).cell? ⟨g, 2, none⟩ = some z := by
    rw [World.cell?_setCell_other _ _ _ _ (by simp), World.cell?_setCell_other _ _ _ _ (by simp)]; exact h2
  exact ⟨by rw [World.cell?_setCell_other _ _ _ _ (by simp)]; exact e2, by rw [World.cell?_setCell_other _ _ _ _ (by simp)]; exact e3, World.cell?_setCell_same _ _ _ e4⟩
theorem Rd.lt {w : World} {a : Option Addr} {n : Nat} {xs : List Int} (h : Rd w a n xs) (hn : 0 < n) : ∀ x, a = some x → x.block < w.heap.size := by
  intro x hx
  obtain ⟨g, off, ha, hc⟩ := h.2.2 0 hn
  rw [ha] at hx; cases hx
  exact World.block_lt_of_cell? _ _ hc
/-- What a statement of a law leaves: a new box with a big result, in new memory. -/
def BoxR (w0 : World) (r : BV) (s : Value) (w : World) : Prop :=
  ∃ g a c, s = .pointer (some ⟨g, 0, none⟩) ∧ w.cell? ⟨g, 0, none⟩ = some (.int .i64 r.code) ∧ w.cell? ⟨g, 1, none⟩ = some (.bool r.neg) ∧ w.cell? ⟨g, 2, none⟩ = some (.slice a r.limbs.length c) ∧
    w0.heap.size ≤ g ∧ g < w.heap.size ∧ Sl w a r.limbs.length c r.limbs ∧ Fr w0.heap.size a r.limbs.length ∧ Kept [] w0 w
theorem boxR_last {W v : World} {B : Nat} {r : BV} {a : Option Addr} {c : Nat} {T : TypeId} (hB : W.heap.size ≤ B) (hS : Sl v a r.limbs.length c r.limbs) (hF : Fr B a r.limbs.length) (hk : Hid (Kept [] W v)) :
    BoxR W r (.pointer (some ⟨v.heap.size, 0, none⟩)) (v.alloc (.cells #[.int .i64 r.code, .bool r.neg, .slice a r.limbs.length c] T)) :=
  ⟨v.heap.size, a, c, rfl, by rw [World.cell?_alloc_new]; rfl, by rw [World.cell?_alloc_new]; rfl, by rw [World.cell?_alloc_new]; rfl, hk.out.size, by simp, hS.kept0 ((Kept.refl [] v).alloc _), hF.mono hB, hk.out.alloc _⟩
theorem boxR_set {W v : World} {B g : Nat} {r : BV} {a : Option Addr} {c : Nat} {x y z : Value} (hg : W.heap.size ≤ g) (hB : g < B) (hS : Sl v a r.limbs.length c r.limbs) (hF : Fr B a r.limbs.length)
    (h0 : v.cell? ⟨g, 0, none⟩ = some x) (h1 : v.cell? ⟨g, 1, none⟩ = some y) (h2 : v.cell? ⟨g, 2, none⟩ = some z) (hk : Hid (Kept [] W v)) :
    BoxR W r (.pointer (some ⟨g, 0, none⟩)) (((v.setCell ⟨g, 0, none⟩ (.int .i64 r.code)).setCell ⟨g, 1, none⟩ (.bool r.neg)).setCell ⟨g, 2, none⟩ (.slice a r.limbs.length c)) := by
  obtain ⟨ea, eb, ec⟩ := cells3' (.int .i64 r.code) (.bool r.neg) (.slice a r.limbs.length c) h0 h1 h2
  have hlt := World.block_lt_of_cell? _ _ h0
  exact ⟨g, a, c, rfl, ea, eb, ec, hg, by simpa using hlt, hS.kept ((((Kept.refl [g] v).setCell _ _ (by simp)).setCell _ _ (by simp)).setCell _ _ (by simp)) (fun hn x hx => by have := hF hn x hx; simp; omega), hF.mono (by omega),
    ((hk.out.setCell _ _ (by simp; omega)).setCell _ _ (by simp; omega)).setCell _ _ (by simp; omega)⟩
theorem Kept.set3n {W w2 : World} {g : Nat} {v1 v2 v3 : Value} (h : Hid (Kept [] W w2)) (hg : W.heap.size ≤ g) : Hid (Kept [] W (((w2.setCell ⟨g, 0, none⟩ v1).setCell ⟨g, 1, none⟩ v2).setCell ⟨g, 2, none⟩ v3)) :=
  Lib.hid (((h.out.setCell _ _ (by simp; omega)).setCell _ _ (by simp; omega)).setCell _ _ (by simp; omega))

end Go.Proofs.Ytlhiahhpmjiioaa

namespace Go.Proofs.Ytlhiahhpmjiioaa
open Go.RowKit

theorem val_nonneg {xs : List Int} (h : Nat40 xs) : 0 ≤ val xs := (canon_nonneg h.canon).1
theorem len_of_le {xs ys : List Int} (hx : Nat40 xs) (hy : Nat40 ys) (h : val ys ≤ val xs) : ys.length ≤ xs.length := by
  rcases Nat.lt_or_ge xs.length ys.length with h1 | h1
  · have := val_lt_len hx hy h1; omega
  · exact h1
theorem fit_small {v : Int} {n : Nat} (h : v < pw n) (hn : n ≤ 40) : fitCode v = 0 ∧ fitList v = digits v := by
  have := digits_len n v h
  unfold fitCode fitList
  rw [if_neg (by omega), if_neg (by omega)]; exact ⟨rfl, rfl⟩

/-- The code and the limbs of a difference. -/
def subCode (xs ys : List Int) : Int := if fault2 xs ys = 0 then (if val xs < val ys then 3 else 0) else fault2 xs ys
def subList (xs ys : List Int) : List Int := if fault2 xs ys = 0 then (if val xs < val ys then [] else digits (val xs - val ys)) else []

end Go.Proofs.Ytlhiahhpmjiioaa

namespace Go.Proofs.Ytlhiahhpmjiioaa
open Go.RowKit
attribute [local go_sem ↓] Go.wp_at_zero Go.wp_at_succ

theorem fitB_of {b : Bool} {v : Int} (h : 0 ≤ v) (c : Int) (l : List Int) (hc : fitCode v = c) (hl : fitList v = l) : (c ≠ 0 → fitB (sg b v) = noBig c) ∧ (c = 0 → l = digits v ∧ fitB (sg b v) = ⟨0, isNeg (sg b v), mag (sg b v)⟩) := by
  unfold fitCode at hc
  unfold fitList at hl
  have hm := mag_sg (neg := b) h
  by_cases h40 : 40 < (digits v).length
  · rw [if_pos h40] at hc hl
    subst hc hl
    exact ⟨fun _ => fitB_many (by rw [hm]; exact h40), fun h => by omega⟩
  · rw [if_neg h40] at hc hl
    subst hc hl
    exact ⟨fun h => absurd rfl h, fun _ => ⟨rfl, fitB_ok (by rw [hm]; exact h40)⟩⟩

theorem sum_same {p : Bool} {x y : Int} : sg p x + sg p y = sg p (x + y) := by cases p <;> simp [sg] <;> omega
theorem Kept.free' {L : List Nat} {w w' : World} {p : Addr} {v : Value} (h : Kept L w w') (hc : w.cell? p = some v) (hf : w.frozen? p = false) (hg : p.block ∉ L) : w'.frozen? p = false :=
  h.free hf (World.block_lt_of_cell? w p hc) hg
theorem Kept.set3 {W w2 : World} {g : Nat} {v1 v2 v3 : Value} (h : Hid (Kept [g] W w2)) : Hid (Kept [g] W (((w2.setCell ⟨g, 0, none⟩ v1).setCell ⟨g, 1, none⟩ v2).setCell ⟨g, 2, none⟩ v3)) :=
  Lib.hid (((h.out.setCell _ _ (by simp)).setCell _ _ (by simp)).setCell _ _ (by simp))
theorem cell_set3 {w2 : World} {g : Nat} {p : Addr} {v v1 v2 v3 : Value} (h : w2.cell? p = some v) (hg : p.block ≠ g) : (((w2.setCell ⟨g, 0, none⟩ v1).setCell ⟨g, 1, none⟩ v2).setCell ⟨g, 2, none⟩ v3).cell? p = some v :=
  ((((Kept.refl [g] w2).setCell _ _ (by simp)).setCell _ _ (by simp)).setCell _ _ (by simp)).cell h (by simpa using hg)
theorem cell_set2 {w2 : World} {g : Nat} {p : Addr} {v v1 v2 : Value} (h : w2.cell? p = some v) (hg : p.block ≠ g) : ((w2.setCell ⟨g, 0, none⟩ v1).setCell ⟨g, 1, none⟩ v2).cell? p = some v :=
  (((Kept.refl [g] w2).setCell _ _ (by simp)).setCell _ _ (by simp)).cell h (by simpa using hg)
theorem drew_cell {w : World} {p : Addr} {v : Value} (h : w.cell? p = some v) : w.drew.cell? p = some v := h
theorem Kept.set2 {W w2 : World} {g : Nat} {v1 v2 : Value} (h : Hid (Kept [g] W w2)) : Hid (Kept [g] W ((w2.setCell ⟨g, 0, none⟩ v1).setCell ⟨g, 1, none⟩ v2)) :=
  Lib.hid ((h.out.setCell _ _ (by simp)).setCell _ _ (by simp))
/-- A big answer, stored into the result's block. -/
theorem bigR_fin {w w0 w1 : World} {g : Nat} {r : BV} {a : Option Addr} {c : Nat} (hg : w.heap.size ≤ g) (hS : Sl w1 a r.limbs.length c r.limbs) (hF : Fr w0.heap.size a r.limbs.length) (hg0 : g < w0.heap.size) (hk : Kept [] w w1) :
    BigR w r (.returned (.agg #[.int .i64 r.code, .bool r.neg, .slice a r.limbs.length c])) (((w1.setCell ⟨g, 0, none⟩ (.int .i64 r.code)).setCell ⟨g, 1, none⟩ (.bool r.neg)).setCell ⟨g, 2, none⟩ (.slice a r.limbs.length c)) :=
  ⟨a, c, rfl, hS.kept ((((Kept.refl [g] w1).setCell _ _ (by simp)).setCell _ _ (by simp)).setCell _ _ (by simp)) (fun hn x hx => by have := hF hn x hx; simp; omega), hF.mono (by omega),
    ((hk.setCell _ _ (by simp; omega)).setCell _ _ (by simp; omega)).setCell _ _ (by simp; omega)⟩

end Go.Proofs.Ytlhiahhpmjiioaa
