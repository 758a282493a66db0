/-
  The laws' helpers over spans' results: eqSpanResult, markSpan, heldSpan, markSpanResult, heldSpanResult. Conditions: the limbs read as lists of numbers and are short; both ends lie apart where they are marked.
-/
import Derived.Test.YtjndjjdffifgcaaSpanA
namespace Go.Proofs.Ytjndjjdffifgcaa
open Go.RowKit

set_option maxHeartbeats 2000000 in
set_option maxRecDepth 20000 in
theorem eqSpanResult_yes (u : Int) (p q : Bool) (a b a' b' : Option Addr) (n c m d c' d' : Nat) (xs ys : List Int) (w : World) (h1 : Rd w a n xs) (h2 : Rd w a' n xs) (h3 : Rd w b m ys) (h4 : Rd w b' m ys) :
    Calls Try.prog 26 #[.agg #[.int .i64 u, .bool p, .slice a n c, .bool q, .slice b m d], .agg #[.int .i64 u, .bool p, .slice a' n c', .bool q, .slice b' m d']] w (Ans w (.bool true)) := by
  have H1 := Lib.hid h1
  have H2 := Lib.hid h2
  have H3 := Lib.hid h3
  have H4 := Lib.hid h4
  clear h1 h2 h3 h4
  go_enter Try.func26, Try.ntmps26
  go_wp2_with fail
  generalize hW : ((w.alloc (.cells #[.int .i64 u, .bool p, .slice a n c, .bool q, .slice b m d] 38)).alloc (.cells #[.int .i64 u, .bool p, .slice a' n c', .bool q, .slice b' m d'] 38)) = ww0
  have hkk : Kept [] ((w.alloc (.cells #[.int .i64 u, .bool p, .slice a n c, .bool q, .slice b m d] 38)).alloc (.cells #[.int .i64 u, .bool p, .slice a' n c', .bool q, .slice b' m d'] 38)) ww0 := by rw [hW]; exact Kept.refl _ _
  have zzA : w.heap.size + 1 + 1 = ww0.heap.size := by rw [← hW]; simp
  have nA0 := Lib.hid (hkk.peel.top (g := w.heap.size) (by simp) (by simp) 0 (v := .int .i64 u) rfl).1
  have nA1 := Lib.hid (hkk.peel.top (g := w.heap.size) (by simp) (by simp) 1 (v := .bool p) rfl).1
  have nA2 := Lib.hid (hkk.peel.top (g := w.heap.size) (by simp) (by simp) 2 (v := .slice a n c) rfl).1
  have nA3 := Lib.hid (hkk.peel.top (g := w.heap.size) (by simp) (by simp) 3 (v := .bool q) rfl).1
  have nA4 := Lib.hid (hkk.peel.top (g := w.heap.size) (by simp) (by simp) 4 (v := .slice b m d) rfl).1
  have nB0 := Lib.hid (hkk.top (g := w.heap.size + 1) (by simp) (by simp) 0 (v := .int .i64 u) rfl).1
  have nB1 := Lib.hid (hkk.top (g := w.heap.size + 1) (by simp) (by simp) 1 (v := .bool p) rfl).1
  have nB2 := Lib.hid (hkk.top (g := w.heap.size + 1) (by simp) (by simp) 2 (v := .slice a' n c') rfl).1
  have nB3 := Lib.hid (hkk.top (g := w.heap.size + 1) (by simp) (by simp) 3 (v := .bool q) rfl).1
  have nB4 := Lib.hid (hkk.top (g := w.heap.size + 1) (by simp) (by simp) 4 (v := .slice b' m d') rfl).1
  have hk := hkk.peel.peel
  clear hkk hW
  have z0 := hk.size
  have KT := Lib.hid hk
  clear hk
  replace H1 := Lib.hid (H1.out.kept0 KT.out)
  replace H2 := Lib.hid (H2.out.kept0 KT.out)
  replace H3 := Lib.hid (H3.out.kept0 KT.out)
  replace H4 := Lib.hid (H4.out.kept0 KT.out)
  refine (eqSpan_yes _ _ _ _ _ _ _ _ _ _ _ _ _ _ _ H1.out H2.out H3.out H4.out).mono ?_
  rintro e ww1 ⟨rfl, hk⟩
  have z1 := hk.size
  replace nA0 := Lib.hid (hk.cell (p := ⟨w.heap.size, 0, none⟩) nA0.out (by simp))
  replace nA1 := Lib.hid (hk.cell (p := ⟨w.heap.size, 1, none⟩) nA1.out (by simp))
  replace nA2 := Lib.hid (hk.cell (p := ⟨w.heap.size, 2, none⟩) nA2.out (by simp))
  replace nA3 := Lib.hid (hk.cell (p := ⟨w.heap.size, 3, none⟩) nA3.out (by simp))
  replace nA4 := Lib.hid (hk.cell (p := ⟨w.heap.size, 4, none⟩) nA4.out (by simp))
  replace nB0 := Lib.hid (hk.cell (p := ⟨w.heap.size + 1, 0, none⟩) nB0.out (by simp))
  replace nB1 := Lib.hid (hk.cell (p := ⟨w.heap.size + 1, 1, none⟩) nB1.out (by simp))
  replace nB2 := Lib.hid (hk.cell (p := ⟨w.heap.size + 1, 2, none⟩) nB2.out (by simp))
  replace nB3 := Lib.hid (hk.cell (p := ⟨w.heap.size + 1, 3, none⟩) nB3.out (by simp))
  replace nB4 := Lib.hid (hk.cell (p := ⟨w.heap.size + 1, 4, none⟩) nB4.out (by simp))
  replace H1 := Lib.hid (H1.out.kept0 hk)
  replace H2 := Lib.hid (H2.out.kept0 hk)
  replace H3 := Lib.hid (H3.out.kept0 hk)
  replace H4 := Lib.hid (H4.out.kept0 hk)
  replace KT := Lib.hid (KT.out.trans0 hk)
  clear hk
  go_wp2_with fail
  go_ret
  exact ⟨rfl, KT.out⟩

set_option maxHeartbeats 4000000 in
set_option maxRecDepth 20000 in
theorem markSpan_any (p q : Bool) (a b : Option Addr) (n c m d : Nat) (xs ys : List Int) (k : Int) (w : World) (h : Sl w a n c xs) (h' : Sl w b m d ys) (hne : ∀ x y, 0 < n → 0 < m → a = some x → b = some y → x.block ≠ y.block) (hn : n ≤ 2000000) (hm : m ≤ 2000000) (hk0 : 0 ≤ k ∧ k ≤ 2305843009213693952) :
    Calls Try.prog 27 #[.agg #[.bool p, .slice a n c, .bool q, .slice b m d], .int .i64 k] w fun e w' => e = .returned (.int .i64 (k + n + m)) ∧ Sl w' a n c (cnt k n) ∧ Sl w' b m d (cnt (k + n) m) ∧ Kept (blkOf a n ++ blkOf b m) w w' := by
  have HS := Lib.hid h
  have HS' := Lib.hid h'
  have FS := Lib.hid h.lt
  have FS' := Lib.hid h'.lt
  have HNE := Lib.hid hne
  clear h h' hne
  go_enter Try.func27, Try.ntmps27
  go_wp2_with fail
  generalize hW : (w.alloc (.cells #[.bool p, .slice a n c, .bool q, .slice b m d] 31)) = ww0
  have hkk : Kept [] (w.alloc (.cells #[.bool p, .slice a n c, .bool q, .slice b m d] 31)) ww0 := by rw [hW]; exact Kept.refl _ _
  have zzA : w.heap.size + 1 = ww0.heap.size := by rw [← hW]; simp
  have nA0 := Lib.hid (hkk.top (g := w.heap.size) (by simp) (by simp) 0 (v := .bool p) rfl).1
  have nA1 := Lib.hid (hkk.top (g := w.heap.size) (by simp) (by simp) 1 (v := .slice a n c) rfl).1
  have nA2 := Lib.hid (hkk.top (g := w.heap.size) (by simp) (by simp) 2 (v := .bool q) rfl).1
  have nA3 := Lib.hid (hkk.top (g := w.heap.size) (by simp) (by simp) 3 (v := .slice b m d) rfl).1
  have hk := hkk.peel
  clear hkk hW
  have z0 := hk.size
  have KT := Lib.hid hk
  clear hk
  replace HS := Lib.hid (HS.out.kept0 KT.out)
  replace HS' := Lib.hid (HS'.out.kept0 KT.out)
  refine (markBig_any _ _ _ _ _ k _ HS.out (by omega) (by omega)).mono ?_
  rintro e ww1 ⟨rfl, hs, hk⟩
  have S1 := Lib.hid hs
  clear hs
  have KT2 := Lib.hid (KT.out.mono (M := blkOf a n ++ blkOf b m) (fun x hx _ => by simp at hx))
  clear KT
  have KT := KT2
  clear KT2
  have z1 := hk.size
  replace nA0 := Lib.hid (hk.cell (p := ⟨w.heap.size, 0, none⟩) nA0.out (fun hm => by obtain ⟨hn2, u, hu, e⟩ := blkOf_mem hm; have h9 := FS.out hn2 u hu; simp at e; omega))
  replace nA1 := Lib.hid (hk.cell (p := ⟨w.heap.size, 1, none⟩) nA1.out (fun hm => by obtain ⟨hn2, u, hu, e⟩ := blkOf_mem hm; have h9 := FS.out hn2 u hu; simp at e; omega))
  replace nA2 := Lib.hid (hk.cell (p := ⟨w.heap.size, 2, none⟩) nA2.out (fun hm => by obtain ⟨hn2, u, hu, e⟩ := blkOf_mem hm; have h9 := FS.out hn2 u hu; simp at e; omega))
  replace nA3 := Lib.hid (hk.cell (p := ⟨w.heap.size, 3, none⟩) nA3.out (fun hm => by obtain ⟨hn2, u, hu, e⟩ := blkOf_mem hm; have h9 := FS.out hn2 u hu; simp at e; omega))
  replace HS' := Lib.hid (HS'.out.kept hk (fun hn y hy hm => by obtain ⟨hn2, u, hu, e⟩ := blkOf_mem hm; have h9 := FS.out hn2 u hu; exact (HNE.out u y hn2 hn hu hy) e))
  replace KT := Lib.hid (KT.out.trans hk (fun hx0 hx hlt => by obtain ⟨hn2, u, hu, e⟩ := blkOf_mem hx; have h9 := FS.out hn2 u hu; simp only [List.mem_append]; left; exact hx))
  clear hk
  have tA0 := nA0.out
  have tA1 := nA1.out
  have tA2 := nA2.out
  have tA3 := nA3.out
  go_wp2_with fail
  clear tA0 tA1 tA2 tA3
  refine (markBig_any _ _ _ _ _ (k + (n : Int)) _ HS'.out (by omega) (by omega)).mono ?_
  rintro e ww2 ⟨rfl, hs, hk⟩
  have S2 := Lib.hid hs
  clear hs
  have z2 := hk.size
  replace nA0 := Lib.hid (hk.cell (p := ⟨w.heap.size, 0, none⟩) nA0.out (fun hm => by obtain ⟨hn2, u, hu, e⟩ := blkOf_mem hm; have h9 := FS'.out hn2 u hu; simp at e; omega))
  replace nA1 := Lib.hid (hk.cell (p := ⟨w.heap.size, 1, none⟩) nA1.out (fun hm => by obtain ⟨hn2, u, hu, e⟩ := blkOf_mem hm; have h9 := FS'.out hn2 u hu; simp at e; omega))
  replace nA2 := Lib.hid (hk.cell (p := ⟨w.heap.size, 2, none⟩) nA2.out (fun hm => by obtain ⟨hn2, u, hu, e⟩ := blkOf_mem hm; have h9 := FS'.out hn2 u hu; simp at e; omega))
  replace nA3 := Lib.hid (hk.cell (p := ⟨w.heap.size, 3, none⟩) nA3.out (fun hm => by obtain ⟨hn2, u, hu, e⟩ := blkOf_mem hm; have h9 := FS'.out hn2 u hu; simp at e; omega))
  replace S1 := Lib.hid (S1.out.kept hk (fun hn y hy hm => by obtain ⟨hn2, u, hu, e⟩ := blkOf_mem hm; have h9 := FS'.out hn2 u hu; exact (HNE.out y u hn hn2 hy hu) e.symm))
  replace KT := Lib.hid (KT.out.trans hk (fun hx0 hx hlt => by obtain ⟨hn2, u, hu, e⟩ := blkOf_mem hx; have h9 := FS'.out hn2 u hu; simp only [List.mem_append]; right; exact hx))
  clear hk
  go_wp2_with fail
  go_ret
  exact ⟨rfl, S1.out, S2.out, KT.out⟩

set_option maxHeartbeats 4000000 in
set_option maxRecDepth 20000 in
theorem heldSpan_any (p q : Bool) (a b : Option Addr) (n c m d : Nat) (k : Int) (w : World) (h : Rd w a n (cnt k n)) (h' : Rd w b m (cnt (k + n) m)) (hn : n ≤ 2000000) (hm : m ≤ 2000000) (hk0 : 0 ≤ k ∧ k ≤ 2305843009213693952) :
    Calls Try.prog 63 #[.agg #[.bool p, .slice a n c, .bool q, .slice b m d], .int .i64 k] w (Ans w (.int .i64 (k + n + m))) := by
  have H1 := Lib.hid h
  have H2 := Lib.hid h'
  clear h h'
  have e1 : decide (k + (n : Int) < 0) = false := decide_eq_false (by omega)
  have e2 : decide (k + (n : Int) + (m : Int) < 0) = false := decide_eq_false (by omega)
  have e3 : (0 : Int) ≤ k + (n : Int) := by omega
  have e4 : (0 : Int) ≤ k + (n : Int) + (m : Int) := by omega
  go_enter Try.func63, Try.ntmps63
  go_wp2_with fail
  generalize hW : (w.alloc (.cells #[.bool p, .slice a n c, .bool q, .slice b m d] 31)) = ww0
  have hkk : Kept [] (w.alloc (.cells #[.bool p, .slice a n c, .bool q, .slice b m d] 31)) ww0 := by rw [hW]; exact Kept.refl _ _
  have zzA : w.heap.size + 1 = ww0.heap.size := by rw [← hW]; simp
  have nA0 := Lib.hid (hkk.top (g := w.heap.size) (by simp) (by simp) 0 (v := .bool p) rfl).1
  have nA1 := Lib.hid (hkk.top (g := w.heap.size) (by simp) (by simp) 1 (v := .slice a n c) rfl).1
  have nA2 := Lib.hid (hkk.top (g := w.heap.size) (by simp) (by simp) 2 (v := .bool q) rfl).1
  have nA3 := Lib.hid (hkk.top (g := w.heap.size) (by simp) (by simp) 3 (v := .slice b m d) rfl).1
  have hk := hkk.peel
  clear hkk hW
  have z0 := hk.size
  have KT := Lib.hid hk
  clear hk
  replace H1 := Lib.hid (H1.out.kept0 KT.out)
  replace H2 := Lib.hid (H2.out.kept0 KT.out)
  refine (heldBig_any _ _ _ _ k _ H1.out (by omega) (by omega)).mono ?_
  rintro e ww1 ⟨rfl, hk⟩
  have z1 := hk.size
  replace nA0 := Lib.hid (hk.cell (p := ⟨w.heap.size, 0, none⟩) nA0.out (by simp))
  replace nA1 := Lib.hid (hk.cell (p := ⟨w.heap.size, 1, none⟩) nA1.out (by simp))
  replace nA2 := Lib.hid (hk.cell (p := ⟨w.heap.size, 2, none⟩) nA2.out (by simp))
  replace nA3 := Lib.hid (hk.cell (p := ⟨w.heap.size, 3, none⟩) nA3.out (by simp))
  replace H1 := Lib.hid (H1.out.kept0 hk)
  replace H2 := Lib.hid (H2.out.kept0 hk)
  replace KT := Lib.hid (KT.out.trans0 hk)
  clear hk
  have tA0 := nA0.out
  have tA1 := nA1.out
  have tA2 := nA2.out
  have tA3 := nA3.out
  go_wp2_with fail
  clear tA0 tA1 tA2 tA3
  refine (heldBig_any _ _ _ _ (k + (n : Int)) _ H2.out (by omega) (by omega)).mono ?_
  rintro e ww2 ⟨rfl, hk⟩
  have z2 := hk.size
  replace nA0 := Lib.hid (hk.cell (p := ⟨w.heap.size, 0, none⟩) nA0.out (by simp))
  replace nA1 := Lib.hid (hk.cell (p := ⟨w.heap.size, 1, none⟩) nA1.out (by simp))
  replace nA2 := Lib.hid (hk.cell (p := ⟨w.heap.size, 2, none⟩) nA2.out (by simp))
  replace nA3 := Lib.hid (hk.cell (p := ⟨w.heap.size, 3, none⟩) nA3.out (by simp))
  replace H1 := Lib.hid (H1.out.kept0 hk)
  replace H2 := Lib.hid (H2.out.kept0 hk)
  replace KT := Lib.hid (KT.out.trans0 hk)
  clear hk
  go_wp2_with fail
  go_ret
  exact ⟨rfl, KT.out⟩

set_option maxHeartbeats 4000000 in
set_option maxRecDepth 20000 in
theorem heldSpanResult_any (u : Int) (p q : Bool) (a b : Option Addr) (n c m d : Nat) (k : Int) (w : World) (h : Rd w a n (cnt k n)) (h' : Rd w b m (cnt (k + n) m)) (hn : n ≤ 2000000) (hm : m ≤ 2000000) (hk0 : 0 ≤ k ∧ k ≤ 2305843009213693952) :
    Calls Try.prog 29 #[.agg #[.int .i64 u, .bool p, .slice a n c, .bool q, .slice b m d], .int .i64 k] w (Ans w (.int .i64 (k + n + m))) := by
  have H1 := Lib.hid h
  have H2 := Lib.hid h'
  clear h h'
  have e2 : decide (k + (n : Int) + (m : Int) < 0) = false := decide_eq_false (by omega)
  have e4 : (0 : Int) ≤ k + (n : Int) + (m : Int) := by omega
  go_enter Try.func29, Try.ntmps29
  go_wp2_with fail
  generalize hW : (w.alloc (.cells #[.int .i64 u, .bool p, .slice a n c, .bool q, .slice b m d] 38)) = ww0
  have hkk : Kept [] (w.alloc (.cells #[.int .i64 u, .bool p, .slice a n c, .bool q, .slice b m d] 38)) ww0 := by rw [hW]; exact Kept.refl _ _
  have zzA : w.heap.size + 1 = ww0.heap.size := by rw [← hW]; simp
  have nA0 := Lib.hid (hkk.top (g := w.heap.size) (by simp) (by simp) 0 (v := .int .i64 u) rfl).1
  have nA1 := Lib.hid (hkk.top (g := w.heap.size) (by simp) (by simp) 1 (v := .bool p) rfl).1
  have nA2 := Lib.hid (hkk.top (g := w.heap.size) (by simp) (by simp) 2 (v := .slice a n c) rfl).1
  have nA3 := Lib.hid (hkk.top (g := w.heap.size) (by simp) (by simp) 3 (v := .bool q) rfl).1
  have nA4 := Lib.hid (hkk.top (g := w.heap.size) (by simp) (by simp) 4 (v := .slice b m d) rfl).1
  have hk := hkk.peel
  clear hkk hW
  have z0 := hk.size
  have KT := Lib.hid hk
  clear hk
  replace H1 := Lib.hid (H1.out.kept0 KT.out)
  replace H2 := Lib.hid (H2.out.kept0 KT.out)
  refine (heldSpan_any _ _ _ _ _ _ _ _ k _ H1.out H2.out hn hm hk0).mono ?_
  rintro e ww1 ⟨rfl, hk⟩
  have z1 := hk.size
  replace nA0 := Lib.hid (hk.cell (p := ⟨w.heap.size, 0, none⟩) nA0.out (by simp))
  replace nA1 := Lib.hid (hk.cell (p := ⟨w.heap.size, 1, none⟩) nA1.out (by simp))
  replace nA2 := Lib.hid (hk.cell (p := ⟨w.heap.size, 2, none⟩) nA2.out (by simp))
  replace nA3 := Lib.hid (hk.cell (p := ⟨w.heap.size, 3, none⟩) nA3.out (by simp))
  replace nA4 := Lib.hid (hk.cell (p := ⟨w.heap.size, 4, none⟩) nA4.out (by simp))
  replace H1 := Lib.hid (H1.out.kept0 hk)
  replace H2 := Lib.hid (H2.out.kept0 hk)
  replace KT := Lib.hid (KT.out.trans0 hk)
  clear hk
  go_wp2_with fail
  go_ret
  exact ⟨rfl, KT.out⟩

set_option maxHeartbeats 4000000 in
set_option maxRecDepth 20000 in
theorem markSpanResult_any (u : Int) (p q : Bool) (a b : Option Addr) (n c m d : Nat) (xs ys : List Int) (k : Int) (w : World) (h : Sl w a n c xs) (h' : Sl w b m d ys) (hne : ∀ x y, 0 < n → 0 < m → a = some x → b = some y → x.block ≠ y.block) (hn : n ≤ 2000000) (hm : m ≤ 2000000) (hk0 : 0 ≤ k ∧ k ≤ 2305843009213693952) :
    Calls Try.prog 28 #[.agg #[.int .i64 u, .bool p, .slice a n c, .bool q, .slice b m d], .int .i64 k] w fun e w' => e = .returned (.int .i64 (k + n + m)) ∧ Sl w' a n c (cnt k n) ∧ Sl w' b m d (cnt (k + n) m) ∧ Kept (blkOf a n ++ blkOf b m) w w' := by
  have HS := Lib.hid h
  have HS' := Lib.hid h'
  have FS := Lib.hid h.lt
  have FS' := Lib.hid h'.lt
  have HNE := Lib.hid hne
  clear h h' hne
  go_enter Try.func28, Try.ntmps28
  go_wp2_with fail
  generalize hW : (w.alloc (.cells #[.int .i64 u, .bool p, .slice a n c, .bool q, .slice b m d] 38)) = ww0
  have hkk : Kept [] (w.alloc (.cells #[.int .i64 u, .bool p, .slice a n c, .bool q, .slice b m d] 38)) ww0 := by rw [hW]; exact Kept.refl _ _
  have zzA : w.heap.size + 1 = ww0.heap.size := by rw [← hW]; simp
  have nA0 := Lib.hid (hkk.top (g := w.heap.size) (by simp) (by simp) 0 (v := .int .i64 u) rfl).1
  have nA1 := Lib.hid (hkk.top (g := w.heap.size) (by simp) (by simp) 1 (v := .bool p) rfl).1
  have nA2 := Lib.hid (hkk.top (g := w.heap.size) (by simp) (by simp) 2 (v := .slice a n c) rfl).1
  have nA3 := Lib.hid (hkk.top (g := w.heap.size) (by simp) (by simp) 3 (v := .bool q) rfl).1
  have nA4 := Lib.hid (hkk.top (g := w.heap.size) (by simp) (by simp) 4 (v := .slice b m d) rfl).1
  have hk := hkk.peel
  clear hkk hW
  have z0 := hk.size
  have KT := Lib.hid hk
  clear hk
  replace HS := Lib.hid (HS.out.kept0 KT.out)
  replace HS' := Lib.hid (HS'.out.kept0 KT.out)
  refine (markSpan_any _ _ _ _ _ _ _ _ _ _ k _ HS.out HS'.out HNE.out hn hm hk0).mono ?_
  rintro e ww1 ⟨rfl, hs, hs', hk⟩
  have S1 := Lib.hid hs
  have S2 := Lib.hid hs'
  clear hs hs'
  have KT2 := Lib.hid (KT.out.mono (M := blkOf a n ++ blkOf b m) (fun x hx _ => by simp at hx))
  clear KT
  have KT := KT2
  clear KT2
  have z1 := hk.size
  replace nA0 := Lib.hid (hk.cell (p := ⟨w.heap.size, 0, none⟩) nA0.out (fun hm => by rcases List.mem_append.1 hm with hm | hm <;> obtain ⟨hn2, u, hu, e⟩ := blkOf_mem hm <;> first | (have h9 := FS.out hn2 u hu; simp at e; omega) | (have h9 := FS'.out hn2 u hu; simp at e; omega)))
  replace nA1 := Lib.hid (hk.cell (p := ⟨w.heap.size, 1, none⟩) nA1.out (fun hm => by rcases List.mem_append.1 hm with hm | hm <;> obtain ⟨hn2, u, hu, e⟩ := blkOf_mem hm <;> first | (have h9 := FS.out hn2 u hu; simp at e; omega) | (have h9 := FS'.out hn2 u hu; simp at e; omega)))
  replace nA2 := Lib.hid (hk.cell (p := ⟨w.heap.size, 2, none⟩) nA2.out (fun hm => by rcases List.mem_append.1 hm with hm | hm <;> obtain ⟨hn2, u, hu, e⟩ := blkOf_mem hm <;> first | (have h9 := FS.out hn2 u hu; simp at e; omega) | (have h9 := FS'.out hn2 u hu; simp at e; omega)))
  replace nA3 := Lib.hid (hk.cell (p := ⟨w.heap.size, 3, none⟩) nA3.out (fun hm => by rcases List.mem_append.1 hm with hm | hm <;> obtain ⟨hn2, u, hu, e⟩ := blkOf_mem hm <;> first | (have h9 := FS.out hn2 u hu; simp at e; omega) | (have h9 := FS'.out hn2 u hu; simp at e; omega)))
  replace nA4 := Lib.hid (hk.cell (p := ⟨w.heap.size, 4, none⟩) nA4.out (fun hm => by rcases List.mem_append.1 hm with hm | hm <;> obtain ⟨hn2, u, hu, e⟩ := blkOf_mem hm <;> first | (have h9 := FS.out hn2 u hu; simp at e; omega) | (have h9 := FS'.out hn2 u hu; simp at e; omega)))
  replace KT := Lib.hid (KT.out.trans hk (fun hx0 hx hlt => by exact hx))
  clear hk
  go_wp2_with fail
  go_ret
  exact ⟨rfl, S1.out, S2.out, KT.out⟩

end Go.Proofs.Ytjndjjdffifgcaa
