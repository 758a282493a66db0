/-
  Contracts of the law's helpers over DivResult. Conditions: the slices read as lists of numbers and are short.
-/
import Derived.Test.YtgplghjameiciaaJ4
namespace Go.Proofs.Ytgplghjameiciaa
open Go.RowKit

set_option maxHeartbeats 400000 in
theorem eqDivResult_yes (v : Int) (a b : Option Addr) (n c c' : Nat) (xs : List Int) (a2 b2 : Option Addr) (n2 c2 c2' : Nat) (xs2 : List Int) (w : World) (h : Rd w a n xs) (h' : Rd w b n xs) (h2 : Rd w a2 n2 xs2) (h2' : Rd w b2 n2 xs2) :
    Calls Try.prog 30 #[.agg #[.int .i64 v, .slice a n c, .slice a2 n2 c2], .agg #[.int .i64 v, .slice b n c', .slice b2 n2 c2']] w (Ans w (.bool true)) := by
  have HR := Lib.hid h
  have HR' := Lib.hid h'
  have HR2 := Lib.hid h2
  have HR2' := Lib.hid h2'
  clear h h' h2 h2'
  go_enter Try.func30, Try.ntmps30
  go_wp2_with fail
  have k0 : Kept [] w ((w.alloc (.cells #[.int .i64 v, .slice a n c, .slice a2 n2 c2] 32)).alloc (.cells #[.int .i64 v, .slice b n c', .slice b2 n2 c2'] 32)) := ((Kept.refl [] w).alloc _).alloc _
  have HK0 := Lib.hid k0
  clear k0
  refine (eqInt64S_yes _ _ _ _ _ _ _ (HR.out.kept0 HK0.out) (HR'.out.kept0 HK0.out)).mono ?_
  rintro e w1 ⟨rfl, hq⟩
  have c1 := hq.cell (p := ⟨w.heap.size, 2, none⟩) (v := .slice a2 n2 c2) (by rw [World.cell?_alloc_lt _ _ _ (by simp)]; simp) (by simp)
  have c3 := hq.cell (p := ⟨w.heap.size + 1, 2, none⟩) (v := .slice b2 n2 c2') (by rw [show w.heap.size + 1 = (w.alloc (.cells #[.int .i64 v, .slice a n c, .slice a2 n2 c2] 32)).heap.size by simp, World.cell?_alloc_new]; simp) (by simp)
  have HQ := Lib.hid (HK0.out.trans0 hq)
  clear hq
  go_wp2_with fail
  refine (eqInt64S_yes _ _ _ _ _ _ _ (HR2.out.kept0 HQ.out) (HR2'.out.kept0 HQ.out)).mono ?_
  rintro e w2 ⟨rfl, hq⟩
  have HQ2 := Lib.hid (HQ.out.trans0 hq)
  clear hq
  go_wp2_with fail
  go_ret
  exact ⟨rfl, HQ2.out⟩

theorem blk2_ge {B n n' x : Nat} {a a' : Option Addr} (hF : Fr B a n) (hF' : Fr B a' n') (h : x ∈ blkOf a n ++ blkOf a' n') : B ≤ x := by
  rcases List.mem_append.1 h with h | h
  · obtain ⟨hn, y, hy, rfl⟩ := blkOf_mem h; exact hF hn y hy
  · obtain ⟨hn, y, hy, rfl⟩ := blkOf_mem h; exact hF' hn y hy
theorem blk2_lt {S n n' x : Nat} {a a' : Option Addr} (h1 : 0 < n → ∀ y, a = some y → y.block < S) (h2 : 0 < n' → ∀ y, a' = some y → y.block < S) (h : x ∈ blkOf a n ++ blkOf a' n') : x < S := by
  rcases List.mem_append.1 h with h | h
  · obtain ⟨hn, y, hy, rfl⟩ := blkOf_mem h; exact h1 hn y hy
  · obtain ⟨hn, y, hy, rfl⟩ := blkOf_mem h; exact h2 hn y hy

/-- The marks of a division's answer. -/
def MarkR (w : World) (a : Option Addr) (n c : Nat) (a' : Option Addr) (n' c' : Nat) (k : Int) (e : Ending) (w' : World) : Prop :=
  e = .returned (.int .i64 (k + n + n')) ∧ Sl w' a n c (cnt k n) ∧ Sl w' a' n' c' (cnt (k + n) n') ∧ Kept (blkOf a n ++ blkOf a' n') w w'

set_option maxHeartbeats 1000000 in
theorem markDivResult_any (v : Int) (a : Option Addr) (n c : Nat) (xs : List Int) (a' : Option Addr) (n' c' : Nat) (xs' : List Int) (k : Int) (w : World) (h : Sl w a n c xs) (h' : Sl w a' n' c' xs') (hn : n ≤ 1000000) (hn' : n' ≤ 1000000) (hk : 0 ≤ k ∧ k ≤ 1000000)
    (hd : 0 < n → 0 < n' → ∀ x y, a = some x → a' = some y → x.block ≠ y.block) :
    Calls Try.prog 31 #[.agg #[.int .i64 v, .slice a n c, .slice a' n' c'], .int .i64 k] w (MarkR w a n c a' n' c' k) := by
  have hlt := h.lt
  have HR := Lib.hid h
  have HR' := Lib.hid h'
  have HD := Lib.hid hd
  have HLT := Lib.hid hlt
  obtain ⟨hk1, hk2⟩ := hk
  clear h h' hd hlt
  go_enter Try.func31, Try.ntmps31
  go_wp2_with fail
  have k0 : Kept [] w (w.alloc (.cells #[.int .i64 v, .slice a n c, .slice a' n' c'] 32)) := (Kept.refl [] w).alloc _
  have HK0 := Lib.hid k0
  clear k0
  refine (markInt64S_any _ _ _ _ _ _ (HR.out.kept0 HK0.out) (by omega) (by omega)).mono ?_
  rintro e w1 ⟨rfl, hS, hq⟩
  have hbx : w.heap.size ∉ blkOf a n := fun hm => by obtain ⟨h1, y, hy, e⟩ := blkOf_mem hm; have := HLT.out h1 y hy; omega
  have c2 := hq.cell (p := ⟨w.heap.size, 2, none⟩) (v := .slice a' n' c') (by simp) hbx
  have HS := Lib.hid hS
  have HQ : Hid (Kept (blkOf a n) w w1) := (HK0.out.mono (by simp)).trans hq (fun x hx _ => hx)
  have HR1 := Lib.hid (HR'.out.kept HQ.out (fun hn0 y hy hm => by obtain ⟨h1, z, hz, e⟩ := blkOf_mem hm; exact HD.out h1 hn0 z y hz hy e))
  clear hq hS hbx
  go_wp2_with fail
  refine (markInt64S_any _ _ _ _ _ _ HR1.out (by omega) (by omega)).mono ?_
  rintro e w2 ⟨rfl, hS2, hq2⟩
  have HS2 := Lib.hid hS2
  have HS1 := Lib.hid (HS.out.kept hq2 (fun hn0 y hy hm => by obtain ⟨h1, z, hz, e⟩ := blkOf_mem hm; exact HD.out hn0 h1 y z hy hz e.symm))
  have HQ2 : Hid (Kept (blkOf a n ++ blkOf a' n') w w2) := (HQ.out.mono (fun x hx _ => List.mem_append.2 (Or.inl hx))).trans hq2 (fun x hx _ => List.mem_append.2 (Or.inr hx))
  clear hq2 hS2 c2
  go_wp2_with fail
  go_ret
  exact ⟨rfl, HS1.out, HS2.out, HQ2.out⟩

set_option maxHeartbeats 1000000 in
theorem heldDivResult_any (v : Int) (a : Option Addr) (n c : Nat) (a' : Option Addr) (n' c' : Nat) (k : Int) (w : World) (h : Rd w a n (cnt k n)) (h' : Rd w a' n' (cnt (k + n) n')) (hn : n ≤ 1000000) (hn' : n' ≤ 1000000) (hk : 0 ≤ k ∧ k ≤ 1000000) :
    Calls Try.prog 32 #[.agg #[.int .i64 v, .slice a n c, .slice a' n' c'], .int .i64 k] w (Ans w (.int .i64 (k + n + n'))) := by
  have HR := Lib.hid h
  have HR' := Lib.hid h'
  obtain ⟨hk1, hk2⟩ := hk
  have hp1 : (0 : Int) ≤ k + n := by omega
  have hp2 : (0 : Int) ≤ k + n + n' := by omega
  have hd1 : decide (k + (n : Int) < 0) = false := decide_eq_false (by omega)
  have hd2 : decide (k + (n : Int) + (n' : Int) < 0) = false := decide_eq_false (by omega)
  clear h h'
  go_enter Try.func32, Try.ntmps32
  go_wp2_with fail
  have k0 : Kept [] w (w.alloc (.cells #[.int .i64 v, .slice a n c, .slice a' n' c'] 32)) := (Kept.refl [] w).alloc _
  have HK0 := Lib.hid k0
  clear k0
  refine (heldInt64S_any _ _ _ _ _ (HR.out.kept0 HK0.out) (by omega) (by omega)).mono ?_
  rintro e w1 ⟨rfl, hq⟩
  have c2 := hq.cell (p := ⟨w.heap.size, 2, none⟩) (v := .slice a' n' c') (by simp) (by simp)
  have HQ := Lib.hid (HK0.out.trans0 hq)
  clear hq
  go_wp2_with fail
  refine (heldInt64S_any _ _ _ _ _ (HR'.out.kept0 HQ.out) (by omega) (by omega)).mono ?_
  rintro e w2 ⟨rfl, hq⟩
  have HQ2 := Lib.hid (HQ.out.trans0 hq)
  clear hq
  go_wp2_with fail
  go_ret
  exact ⟨rfl, HQ2.out⟩

end Go.Proofs.Ytgplghjameiciaa
