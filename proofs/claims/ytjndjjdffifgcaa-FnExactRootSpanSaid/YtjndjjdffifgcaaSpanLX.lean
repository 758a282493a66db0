/-
  Several of my texts in one, each as it was: SpanL, SpanX. No condition but theirs.
-/
import Derived.Test.YtjndjjdffifgcaaSpanA
import Derived.Test.YtjndjjdffifgcaaSpanE
namespace Go.Proofs.Ytjndjjdffifgcaa

open Go.RowKit

set_option maxHeartbeats 2000000 in
set_option maxRecDepth 20000 in
theorem eqSpanResult_yes (u : Int) (p q : Bool) (a b a' b' : Option Addr) (n c m d c' d' : Nat) (xs ys : List Int) (w : World) (h1 : Rd w a n xs) (h2 : Rd w a' n xs) (h3 : Rd w b m ys) (h4 : Rd w b' m ys) :
    Calls Try.prog 26 #[.agg #[.int .i64 u, .bool p, .slice a n c, .bool q, .slice b m d], .agg #[.int .i64 u, .bool p, .slice a' n c', .bool q, .slice b' m d']] w (Ans w (.bool true)) := by
  have H1 := Lib.hid h1
  have H2 := Lib.hid h2
  have H3 := Lib.hid h3
  have H4 := Lib.hid h4
  clear h1 h2 h3 h4
  go_enter Try.func26, Try.ntmps26
  go_wp2_with fail
  generalize hW : ((w.alloc (.cells #[.int .i64 u, .bool p, .slice a n c, .bool q, .slice b m d] 38)).alloc (.cells #[.int .i64 u, .bool p, .slice a' n c', .bool q, .slice b' m d'] 38)) = ww0
  have hkk : Kept [] ((w.alloc (.cells #[.int .i64 u, .bool p, .slice a n c, .bool q, .slice b m d] 38)).alloc (.cells #[.int .i64 u, .bool p, .slice a' n c', .bool q, .slice b' m d'] 38)) ww0 := by rw [hW]; exact Kept.refl _ _
  have zzA : w.heap.size + 1 + 1 = ww0.heap.size := by rw [← hW]; simp
  have nA0 := Lib.hid (hkk.peel.top (g := w.heap.size) (by simp) (by simp) 0 (v := .int .i64 u) rfl).1
  have nA1 := Lib.hid (hkk.peel.top (g := w.heap.size) (by simp) (by simp) 1 (v := .bool p) rfl).1
  have nA2 := Lib.hid (hkk.peel.top (g := w.heap.size) (by simp) (by simp) 2 (v := .slice a n c) rfl).1
  have nA3 := Lib.hid (hkk.peel.top (g := w.heap.size) (by simp) (by simp) 3 (v := .bool q) rfl).1
  have nA4 := Lib.hid (hkk.peel.top (g := w.heap.size) (by simp) (by simp) 4 (v := .slice b m d) rfl).1
  have nB0 := Lib.hid (hkk.top (g := w.heap.size + 1) (by simp) (by simp) 0 (v := .int .i64 u) rfl).1
  have nB1 := Lib.hid (hkk.top (g := w.heap.size + 1) (by simp) (by simp) 1 (v := .bool p) rfl).1
  have nB2 := Lib.hid (hkk.top (g := w.heap.size + 1) (by simp) (by simp) 2 (v := .slice a' n c') rfl).1
  have nB3 := Lib.hid (hkk.top (g := w.heap.size + 1) (by simp) (by simp) 3 (v := .bool q) rfl).1
  have nB4 := Lib.hid (hkk.top (g := w.heap.size + 1) (by simp) (by simp) 4 (v := .slice b' m d') rfl).1
  have hk := hkk.peel.peel
  clear hkk hW
  have z0 := hk.size
  have KT := Lib.hid hk
  clear hk
  replace H1 := Lib.hid (H1.out.kept0 KT.out)
  replace H2 := Lib.hid (H2.out.kept0 KT.out)
  replace H3 := Lib.hid (H3.out.kept0 KT.out)
  replace H4 := Lib.hid (H4.out.kept0 KT.out)
  refine (eqSpan_yes _ _ _ _ _ _ _ _ _ _ _ _ _ _ _ H1.out H2.out H3.out H4.out).mono ?_
  rintro e ww1 ⟨rfl, hk⟩
  have z1 := hk.size
  replace nA0 := Lib.hid (hk.cell (p := ⟨w.heap.size, 0, none⟩) nA0.out (by simp))
  replace nA1 := Lib.hid (hk.cell (p := ⟨w.heap.size, 1, none⟩) nA1.out (by simp))
  replace nA2 := Lib.hid (hk.cell (p := ⟨w.heap.size, 2, none⟩) nA2.out (by simp))
  replace nA3 := Lib.hid (hk.cell (p := ⟨w.heap.size, 3, none⟩) nA3.out (by simp))
  replace nA4 := Lib.hid (hk.cell (p := ⟨w.heap.size, 4, none⟩) nA4.out (by simp))
  replace nB0 := Lib.hid (hk.cell (p := ⟨w.heap.size + 1, 0, none⟩) nB0.out (by simp))
  replace nB1 := Lib.hid (hk.cell (p := ⟨w.heap.size + 1, 1, none⟩) nB1.out (by simp))
  replace nB2 := Lib.hid (hk.cell (p := ⟨w.heap.size + 1, 2, none⟩) nB2.out (by simp))
  replace nB3 := Lib.hid (hk.cell (p := ⟨w.heap.size + 1, 3, none⟩) nB3.out (by simp))
  replace nB4 := Lib.hid (hk.cell (p := ⟨w.heap.size + 1, 4, none⟩) nB4.out (by simp))
  replace H1 := Lib.hid (H1.out.kept0 hk)
  replace H2 := Lib.hid (H2.out.kept0 hk)
  replace H3 := Lib.hid (H3.out.kept0 hk)
  replace H4 := Lib.hid (H4.out.kept0 hk)
  replace KT := Lib.hid (KT.out.trans0 hk)
  clear hk
  go_wp2_with fail
  go_ret
  exact ⟨rfl, KT.out⟩

set_option maxHeartbeats 4000000 in
set_option maxRecDepth 20000 in
theorem markSpan_any (p q : Bool) (a b : Option Addr) (n c m d : Nat) (xs ys : List Int) (k : Int) (w : World) (h : Sl w a n c xs) (h' : Sl w b m d ys) (hne : ∀ x y, 0 < n → 0 < m → a = some x → b = some y → x.block ≠ y.block) (hn : n ≤ 2000000) (hm : m ≤ 2000000) (hk0 : 0 ≤ k ∧ k ≤ 2305843009213693952) :
    Calls Try.prog 27 #[.agg #[.bool p, .slice a n c, .bool q, .slice b m d], .int .i64 k] w fun e w' => e = .returned (.int .i64 (k + n + m)) ∧ Sl w' a n c (cnt k n) ∧ Sl w' b m d (cnt (k + n) m) ∧ Kept (blkOf a n ++ blkOf b m) w w' := by
  have HS := Lib.hid h
  have HS' := Lib.hid h'
  have FS := Lib.hid h.lt
  have FS' := Lib.hid h'.lt
  have HNE := Lib.hid hne
  clear h h' hne
  go_enter Try.func27, Try.ntmps27
  go_wp2_with fail
  generalize hW : (w.alloc (.cells #[.bool p, .slice a n c, .bool q, .slice b m d] 31)) = ww0
  have hkk : Kept [] (w.alloc (.cells #[.bool p, .slice a n c, .bool q, .slice b m d] 31)) ww0 := by rw [hW]; exact Kept.refl _ _
  have zzA : w.heap.size + 1 = ww0.heap.size := by rw [← hW]; simp
  have nA0 := Lib.hid (hkk.top (g := w.heap.size) (by simp) (by simp) 0 (v := .bool p) rfl).1
  have nA1 := Lib.hid (hkk.top (g := w.heap.size) (by simp) (by simp) 1 (v := .slice a n c) rfl).1
  have nA2 := Lib.hid (hkk.top (g := w.heap.size) (by simp) (by simp) 2 (v := .bool q) rfl).1
  have nA3 := Lib.hid (hkk.top (g := w.heap.size) (by simp) (by simp) 3 (v := .slice b m d) rfl).1
  have hk := hkk.peel
  clear hkk hW
  have z0 := hk.size
  have KT := Lib.hid hk
  clear hk
  replace HS := Lib.hid (HS.out.kept0 KT.out)
  replace HS' := Lib.hid (HS'.out.kept0 KT.out)
  refine (markBig_any _ _ _ _ _ k _ HS.out (by omega) (by omega)).mono ?_
  rintro e ww1 ⟨rfl, hs, hk⟩
  have S1 := Lib.hid hs
  clear hs
  have KT2 := Lib.hid (KT.out.mono (M := blkOf a n ++ blkOf b m) (fun x hx _ => by simp at hx))
  clear KT
  have KT := KT2
  clear KT2
  have z1 := hk.size
  replace nA0 := Lib.hid (hk.cell (p := ⟨w.heap.size, 0, none⟩) nA0.out (fun hm => by obtain ⟨hn2, u, hu, e⟩ := blkOf_mem hm; have h9 := FS.out hn2 u hu; simp at e; omega))
  replace nA1 := Lib.hid (hk.cell (p := ⟨w.heap.size, 1, none⟩) nA1.out (fun hm => by obtain ⟨hn2, u, hu, e⟩ := blkOf_mem hm; have h9 := FS.out hn2 u hu; simp at e; omega))
  replace nA2 := Lib.hid (hk.cell (p := ⟨w.heap.size, 2, none⟩) nA2.out (fun hm => by obtain ⟨hn2, u, hu, e⟩ := blkOf_mem hm; have h9 := FS.out hn2 u hu; simp at e; omega))
  replace nA3 := Lib.hid (hk.cell (p := ⟨w.heap.size, 3, none⟩) nA3.out (fun hm => by obtain ⟨hn2, u, hu, e⟩ := blkOf_mem hm; have h9 := FS.out hn2 u hu; simp at e; omega))
  replace HS' := Lib.hid (HS'.out.kept hk (fun hn y hy hm => by obtain ⟨hn2, u, hu, e⟩ := blkOf_mem hm; have h9 := FS.out hn2 u hu; exact (HNE.out u y hn2 hn hu hy) e))
  replace KT := Lib.hid (KT.out.trans hk (fun hx0 hx hlt => by obtain ⟨hn2, u, hu, e⟩ := blkOf_mem hx; have h9 := FS.out hn2 u hu; simp only [List.mem_append]; left; exact hx))
  clear hk
  have tA0 := nA0.out
  have tA1 := nA1.out
  have tA2 := nA2.out
  have tA3 := nA3.out
  go_wp2_with fail
  clear tA0 tA1 tA2 tA3
  refine (markBig_any _ _ _ _ _ (k + (n : Int)) _ HS'.out (by omega) (by omega)).mono ?_
  rintro e ww2 ⟨rfl, hs, hk⟩
  have S2 := Lib.hid hs
  clear hs
  have z2 := hk.size
  replace nA0 := Lib.hid (hk.cell (p := ⟨w.heap.size, 0, none⟩) nA0.out (fun hm => by obtain ⟨hn2, u, hu, e⟩ := blkOf_mem hm; have h9 := FS'.out hn2 u hu; simp at e; omega))
  replace nA1 := Lib.hid (hk.cell (p := ⟨w.heap.size, 1, none⟩) nA1.out (fun hm => by obtain ⟨hn2, u, hu, e⟩ := blkOf_mem hm; have h9 := FS'.out hn2 u hu; simp at e; omega))
  replace nA2 := Lib.hid (hk.cell (p := ⟨w.heap.size, 2, none⟩) nA2.out (fun hm => by obtain ⟨hn2, u, hu, e⟩ := blkOf_mem hm; have h9 := FS'.out hn2 u hu; simp at e; omega))
  replace nA3 := Lib.hid (hk.cell (p := ⟨w.heap.size, 3, none⟩) nA3.out (fun hm => by obtain ⟨hn2, u, hu, e⟩ := blkOf_mem hm; have h9 := FS'.out hn2 u hu; simp at e; omega))
  replace S1 := Lib.hid (S1.out.kept hk (fun hn y hy hm => by obtain ⟨hn2, u, hu, e⟩ := blkOf_mem hm; have h9 := FS'.out hn2 u hu; exact (HNE.out y u hn hn2 hy hu) e.symm))
  replace KT := Lib.hid (KT.out.trans hk (fun hx0 hx hlt => by obtain ⟨hn2, u, hu, e⟩ := blkOf_mem hx; have h9 := FS'.out hn2 u hu; simp only [List.mem_append]; right; exact hx))
  clear hk
  go_wp2_with fail
  go_ret
  exact ⟨rfl, S1.out, S2.out, KT.out⟩

set_option maxHeartbeats 4000000 in
set_option maxRecDepth 20000 in
theorem heldSpan_any (p q : Bool) (a b : Option Addr) (n c m d : Nat) (k : Int) (w : World) (h : Rd w a n (cnt k n)) (h' : Rd w b m (cnt (k + n) m)) (hn : n ≤ 2000000) (hm : m ≤ 2000000) (hk0 : 0 ≤ k ∧ k ≤ 2305843009213693952) :
    Calls Try.prog 63 #[.agg #[.bool p, .slice a n c, .bool q, .slice b m d], .int .i64 k] w (Ans w (.int .i64 (k + n + m))) := by
  have H1 := Lib.hid h
  have H2 := Lib.hid h'
  clear h h'
  have e1 : decide (k + (n : Int) < 0) = false := decide_eq_false (by omega)
  have e2 : decide (k + (n : Int) + (m : Int) < 0) = false := decide_eq_false (by omega)
  have e3 : (0 : Int) ≤ k + (n : Int) := by omega
  have e4 : (0 : Int) ≤ k + (n : Int) + (m : Int) := by omega
  go_enter Try.func63, Try.ntmps63
  go_wp2_with fail
  generalize hW : (w.alloc (.cells #[.bool p, .slice a n c, .bool q, .slice b m d] 31)) = ww0
  have hkk : Kept [] (w.alloc (.cells #[.bool p, .slice a n c, .bool q, .slice b m d] 31)) ww0 := by rw [hW]; exact Kept.refl _ _
  have zzA : w.heap.size + 1 = ww0.heap.size := by rw [← hW]; simp
  have nA0 := Lib.hid (hkk.top (g := w.heap.size) (by simp) (by simp) 0 (v := .bool p) rfl).1
  have nA1 := Lib.hid (hkk.top (g := w.heap.size) (by simp) (by simp) 1 (v := .slice a n c) rfl).1
  have nA2 := Lib.hid (hkk.top (g := w.heap.size) (by simp) (by simp) 2 (v := .bool q) rfl).1
  have nA3 := Lib.hid (hkk.top (g := w.heap.size) (by simp) (by simp) 3 (v := .slice b m d) rfl).1
  have hk := hkk.peel
  clear hkk hW
  have z0 := hk.size
  have KT := Lib.hid hk
  clear hk
  replace H1 := Lib.hid (H1.out.kept0 KT.out)
  replace H2 := Lib.hid (H2.out.kept0 KT.out)
  refine (heldBig_any _ _ _ _ k _ H1.out (by omega) (by omega)).mono ?_
  rintro e ww1 ⟨rfl, hk⟩
  have z1 := hk.size
  replace nA0 := Lib.hid (hk.cell (p := ⟨w.heap.size, 0, none⟩) nA0.out (by simp))
  replace nA1 := Lib.hid (hk.cell (p := ⟨w.heap.size, 1, none⟩) nA1.out (by simp))
  replace nA2 := Lib.hid (hk.cell (p := ⟨w.heap.size, 2, none⟩) nA2.out (by simp))
  replace nA3 := Lib.hid (hk.cell (p := ⟨w.heap.size, 3, none⟩) nA3.out (by simp))
  replace H1 := Lib.hid (H1.out.kept0 hk)
  replace H2 := Lib.hid (H2.out.kept0 hk)
  replace KT := Lib.hid (KT.out.trans0 hk)
  clear hk
  have tA0 := nA0.out
  have tA1 := nA1.out
  have tA2 := nA2.out
  have tA3 := nA3.out
  go_wp2_with fail
  clear tA0 tA1 tA2 tA3
  refine (heldBig_any _ _ _ _ (k + (n : Int)) _ H2.out (by omega) (by omega)).mono ?_
  rintro e ww2 ⟨rfl, hk⟩
  have z2 := hk.size
  replace nA0 := Lib.hid (hk.cell (p := ⟨w.heap.size, 0, none⟩) nA0.out (by simp))
  replace nA1 := Lib.hid (hk.cell (p := ⟨w.heap.size, 1, none⟩) nA1.out (by simp))
  replace nA2 := Lib.hid (hk.cell (p := ⟨w.heap.size, 2, none⟩) nA2.out (by simp))
  replace nA3 := Lib.hid (hk.cell (p := ⟨w.heap.size, 3, none⟩) nA3.out (by simp))
  replace H1 := Lib.hid (H1.out.kept0 hk)
  replace H2 := Lib.hid (H2.out.kept0 hk)
  replace KT := Lib.hid (KT.out.trans0 hk)
  clear hk
  go_wp2_with fail
  go_ret
  exact ⟨rfl, KT.out⟩

set_option maxHeartbeats 4000000 in
set_option maxRecDepth 20000 in
theorem heldSpanResult_any (u : Int) (p q : Bool) (a b : Option Addr) (n c m d : Nat) (k : Int) (w : World) (h : Rd w a n (cnt k n)) (h' : Rd w b m (cnt (k + n) m)) (hn : n ≤ 2000000) (hm : m ≤ 2000000) (hk0 : 0 ≤ k ∧ k ≤ 2305843009213693952) :
    Calls Try.prog 29 #[.agg #[.int .i64 u, .bool p, .slice a n c, .bool q, .slice b m d], .int .i64 k] w (Ans w (.int .i64 (k + n + m))) := by
  have H1 := Lib.hid h
  have H2 := Lib.hid h'
  clear h h'
  have e2 : decide (k + (n : Int) + (m : Int) < 0) = false := decide_eq_false (by omega)
  have e4 : (0 : Int) ≤ k + (n : Int) + (m : Int) := by omega
  go_enter Try.func29, Try.ntmps29
  go_wp2_with fail
  generalize hW : (w.alloc (.cells #[.int .i64 u, .bool p, .slice a n c, .bool q, .slice b m d] 38)) = ww0
  have hkk : Kept [] (w.alloc (.cells #[.int .i64 u, .bool p, .slice a n c, .bool q, .slice b m d] 38)) ww0 := by rw [hW]; exact Kept.refl _ _
  have zzA : w.heap.size + 1 = ww0.heap.size := by rw [← hW]; simp
  have nA0 := Lib.hid (hkk.top (g := w.heap.size) (by simp) (by simp) 0 (v := .int .i64 u) rfl).1
  have nA1 := Lib.hid (hkk.top (g := w.heap.size) (by simp) (by simp) 1 (v := .bool p) rfl).1
  have nA2 := Lib.hid (hkk.top (g := w.heap.size) (by simp) (by simp) 2 (v := .slice a n c) rfl).1
  have nA3 := Lib.hid (hkk.top (g := w.heap.size) (by simp) (by simp) 3 (v := .bool q) rfl).1
  have nA4 := Lib.hid (hkk.top (g := w.heap.size) (by simp) (by simp) 4 (v := .slice b m d) rfl).1
  have hk := hkk.peel
  clear hkk hW
  have z0 := hk.size
  have KT := Lib.hid hk
  clear hk
  replace H1 := Lib.hid (H1.out.kept0 KT.out)
  replace H2 := Lib.hid (H2.out.kept0 KT.out)
  refine (heldSpan_any _ _ _ _ _ _ _ _ k _ H1.out H2.out hn hm hk0).mono ?_
  rintro e ww1 ⟨rfl, hk⟩
  have z1 := hk.size
  replace nA0 := Lib.hid (hk.cell (p := ⟨w.heap.size, 0, none⟩) nA0.out (by simp))
  replace nA1 := Lib.hid (hk.cell (p := ⟨w.heap.size, 1, none⟩) nA1.out (by simp))
  replace nA2 := Lib.hid (hk.cell (p := ⟨w.heap.size, 2, none⟩) nA2.out (by simp))
  replace nA3 := Lib.hid (hk.cell (p := ⟨w.heap.size, 3, none⟩) nA3.out (by simp))
  replace nA4 := Lib.hid (hk.cell (p := ⟨w.heap.size, 4, none⟩) nA4.out (by simp))
  replace H1 := Lib.hid (H1.out.kept0 hk)
  replace H2 := Lib.hid (H2.out.kept0 hk)
  replace KT := Lib.hid (KT.out.trans0 hk)
  clear hk
  go_wp2_with fail
  go_ret
  exact ⟨rfl, KT.out⟩

set_option maxHeartbeats 4000000 in
set_option maxRecDepth 20000 in
theorem markSpanResult_any (u : Int) (p q : Bool) (a b : Option Addr) (n c m d : Nat) (xs ys : List Int) (k : Int) (w : World) (h : Sl w a n c xs) (h' : Sl w b m d ys) (hne : ∀ x y, 0 < n → 0 < m → a = some x → b = some y → x.block ≠ y.block) (hn : n ≤ 2000000) (hm : m ≤ 2000000) (hk0 : 0 ≤ k ∧ k ≤ 2305843009213693952) :
    Calls Try.prog 28 #[.agg #[.int .i64 u, .bool p, .slice a n c, .bool q, .slice b m d], .int .i64 k] w fun e w' => e = .returned (.int .i64 (k + n + m)) ∧ Sl w' a n c (cnt k n) ∧ Sl w' b m d (cnt (k + n) m) ∧ Kept (blkOf a n ++ blkOf b m) w w' := by
  have HS := Lib.hid h
  have HS' := Lib.hid h'
  have FS := Lib.hid h.lt
  have FS' := Lib.hid h'.lt
  have HNE := Lib.hid hne
  clear h h' hne
  go_enter Try.func28, Try.ntmps28
  go_wp2_with fail
  generalize hW : (w.alloc (.cells #[.int .i64 u, .bool p, .slice a n c, .bool q, .slice b m d] 38)) = ww0
  have hkk : Kept [] (w.alloc (.cells #[.int .i64 u, .bool p, .slice a n c, .bool q, .slice b m d] 38)) ww0 := by rw [hW]; exact Kept.refl _ _
  have zzA : w.heap.size + 1 = ww0.heap.size := by rw [← hW]; simp
  have nA0 := Lib.hid (hkk.top (g := w.heap.size) (by simp) (by simp) 0 (v := .int .i64 u) rfl).1
  have nA1 := Lib.hid (hkk.top (g := w.heap.size) (by simp) (by simp) 1 (v := .bool p) rfl).1
  have nA2 := Lib.hid (hkk.top (g := w.heap.size) (by simp) (by simp) 2 (v := .slice a n c) rfl).1
  have nA3 := Lib.hid (hkk.top (g := w.heap.size) (by simp) (by simp) 3 (v := .bool q) rfl).1
  have nA4 := Lib.hid (hkk.top (g := w.heap.size) (by simp) (by simp) 4 (v := .slice b m d) rfl).1
  have hk := hkk.peel
  clear hkk hW
  have z0 := hk.size
  have KT := Lib.hid hk
  clear hk
  replace HS := Lib.hid (HS.out.kept0 KT.out)
  replace HS' := Lib.hid (HS'.out.kept0 KT.out)
  refine (markSpan_any _ _ _ _ _ _ _ _ _ _ k _ HS.out HS'.out HNE.out hn hm hk0).mono ?_
  rintro e ww1 ⟨rfl, hs, hs', hk⟩
  have S1 := Lib.hid hs
  have S2 := Lib.hid hs'
  clear hs hs'
  have KT2 := Lib.hid (KT.out.mono (M := blkOf a n ++ blkOf b m) (fun x hx _ => by simp at hx))
  clear KT
  have KT := KT2
  clear KT2
  have z1 := hk.size
  replace nA0 := Lib.hid (hk.cell (p := ⟨w.heap.size, 0, none⟩) nA0.out (fun hm => by rcases List.mem_append.1 hm with hm | hm <;> obtain ⟨hn2, u, hu, e⟩ := blkOf_mem hm <;> first | (have h9 := FS.out hn2 u hu; simp at e; omega) | (have h9 := FS'.out hn2 u hu; simp at e; omega)))
  replace nA1 := Lib.hid (hk.cell (p := ⟨w.heap.size, 1, none⟩) nA1.out (fun hm => by rcases List.mem_append.1 hm with hm | hm <;> obtain ⟨hn2, u, hu, e⟩ := blkOf_mem hm <;> first | (have h9 := FS.out hn2 u hu; simp at e; omega) | (have h9 := FS'.out hn2 u hu; simp at e; omega)))
  replace nA2 := Lib.hid (hk.cell (p := ⟨w.heap.size, 2, none⟩) nA2.out (fun hm => by rcases List.mem_append.1 hm with hm | hm <;> obtain ⟨hn2, u, hu, e⟩ := blkOf_mem hm <;> first | (have h9 := FS.out hn2 u hu; simp at e; omega) | (have h9 := FS'.out hn2 u hu; simp at e; omega)))
  replace nA3 := Lib.hid (hk.cell (p := ⟨w.heap.size, 3, none⟩) nA3.out (fun hm => by rcases List.mem_append.1 hm with hm | hm <;> obtain ⟨hn2, u, hu, e⟩ := blkOf_mem hm <;> first | (have h9 := FS.out hn2 u hu; simp at e; omega) | (have h9 := FS'.out hn2 u hu; simp at e; omega)))
  replace nA4 := Lib.hid (hk.cell (p := ⟨w.heap.size, 4, none⟩) nA4.out (fun hm => by rcases List.mem_append.1 hm with hm | hm <;> obtain ⟨hn2, u, hu, e⟩ := blkOf_mem hm <;> first | (have h9 := FS.out hn2 u hu; simp at e; omega) | (have h9 := FS'.out hn2 u hu; simp at e; omega)))
  replace KT := Lib.hid (KT.out.trans hk (fun hx0 hx hlt => by exact hx))
  clear hk
  go_wp2_with fail
  go_ret
  exact ⟨rfl, S1.out, S2.out, KT.out⟩

open Go.RowKit
/-- A new box with a span's result, its ends in new memory; BoxSm: of the model, whose ends need not lie apart. -/
def BoxSm (w0 : World) (r : SV) (s : Value) (w : World) : Prop :=
  ∃ g a c b d, s = .pointer (some ⟨g, 0, none⟩) ∧ w.cell? ⟨g, 0, none⟩ = some (.int .i64 r.code) ∧ w.cell? ⟨g, 1, none⟩ = some (.bool (isNeg r.lo)) ∧ w.cell? ⟨g, 2, none⟩ = some (.slice a (mag r.lo).length c) ∧
    w.cell? ⟨g, 3, none⟩ = some (.bool (isNeg r.hi)) ∧ w.cell? ⟨g, 4, none⟩ = some (.slice b (mag r.hi).length d) ∧ w0.heap.size ≤ g ∧ g < w.heap.size ∧ Sl w a (mag r.lo).length c (mag r.lo) ∧ Sl w b (mag r.hi).length d (mag r.hi) ∧
    Fr w0.heap.size a (mag r.lo).length ∧ Fr w0.heap.size b (mag r.hi).length ∧ Kept [] w0 w
def BoxS (w0 : World) (r : SV) (s : Value) (w : World) : Prop :=
  ∃ g a c b d, s = .pointer (some ⟨g, 0, none⟩) ∧ w.cell? ⟨g, 0, none⟩ = some (.int .i64 r.code) ∧ w.cell? ⟨g, 1, none⟩ = some (.bool (isNeg r.lo)) ∧ w.cell? ⟨g, 2, none⟩ = some (.slice a (mag r.lo).length c) ∧
    w.cell? ⟨g, 3, none⟩ = some (.bool (isNeg r.hi)) ∧ w.cell? ⟨g, 4, none⟩ = some (.slice b (mag r.hi).length d) ∧ w0.heap.size ≤ g ∧ g < w.heap.size ∧ Sl w a (mag r.lo).length c (mag r.lo) ∧ Sl w b (mag r.hi).length d (mag r.hi) ∧
    Fr w0.heap.size a (mag r.lo).length ∧ Fr w0.heap.size b (mag r.hi).length ∧ (∀ x y, 0 < (mag r.lo).length → 0 < (mag r.hi).length → a = some x → b = some y → x.block ≠ y.block) ∧ Kept [] w0 w
theorem Kept.set5n {W w2 : World} {g : Nat} {v1 v2 v3 v4 v5 : Value} (h : Hid (Kept [] W w2)) (hg : W.heap.size ≤ g) : Hid (Kept [] W (((((w2.setCell ⟨g, 0, none⟩ v1).setCell ⟨g, 1, none⟩ v2).setCell ⟨g, 2, none⟩ v3).setCell ⟨g, 3, none⟩ v4).setCell ⟨g, 4, none⟩ v5)) :=
  Lib.hid (((((h.out.setCell _ _ (by simp; omega)).setCell _ _ (by simp; omega)).setCell _ _ (by simp; omega)).setCell _ _ (by simp; omega)).setCell _ _ (by simp; omega))
theorem cells5at {w : World} {g : Nat} {x0 x1 x2 x3 x4 : Value} (v0 v1 v2 v3 v4 : Value) (h0 : w.cell? ⟨g, 0, none⟩ = some x0) (h1 : w.cell? ⟨g, 1, none⟩ = some x1) (h2 : w.cell? ⟨g, 2, none⟩ = some x2) (h3 : w.cell? ⟨g, 3, none⟩ = some x3) (h4 : w.cell? ⟨g, 4, none⟩ = some x4) :
    let W := ((((w.setCell ⟨g, 0, none⟩ v0).setCell ⟨g, 1, none⟩ v1).setCell ⟨g, 2, none⟩ v2).setCell ⟨g, 3, none⟩ v3).setCell ⟨g, 4, none⟩ v4
    W.cell? ⟨g, 0, none⟩ = some v0 ∧ W.cell? ⟨g, 1, none⟩ = some v1 ∧ W.cell? ⟨g, 2, none⟩ = some v2 ∧ W.cell? ⟨g, 3, none⟩ = some v3 ∧ W.cell? ⟨g, 4, none⟩ = some v4 := by
  intro W
  obtain ⟨e0, e1, e2, e3⟩ := cells4at v0 v1 v2 v3 h0 h1 h2 h3
  have e4 : ((((w.setCell ⟨g, 0, none⟩ v0).setCell ⟨g, 1, none⟩ v1).setCell ⟨g, 2, none⟩ v2).setCell ⟨g, 3, none⟩ v3).cell? ⟨g, 4, none⟩ = some x4 := by
    rw [World.cell?_setCell_other _ _ _ _ (by simp), World.cell?_setCell_other _ _ _ _ (by simp), World.cell?_setCell_other _ _ _ _ (by simp), World.cell?_setCell_other _ _ _ _ (by simp)]; exact h4
  exact ⟨by rw [World.cell?_setCell_other _ _ _ _ (by simp)]; exact e0, by rw [World.cell?_setCell_other _ _ _ _ (by simp)]; exact e1, by rw [World.cell?_setCell_other _ _ _ _ (by simp)]; exact e2, by rw [World.cell?_setCell_other _ _ _ _ (by simp)]; exact e3, World.cell?_setCell_same _ _ _ e4⟩
theorem boxSm_last {W v : World} {B : Nat} {r : SV} {a b : Option Addr} {c d : Nat} {T : TypeId} (hB : W.heap.size ≤ B) (hS : Sl v a (mag r.lo).length c (mag r.lo)) (hS' : Sl v b (mag r.hi).length d (mag r.hi)) (hF : Fr B a (mag r.lo).length) (hF' : Fr B b (mag r.hi).length) (hk : Hid (Kept [] W v)) :
    BoxSm W r (.pointer (some ⟨v.heap.size, 0, none⟩)) (v.alloc (.cells #[.int .i64 r.code, .bool (isNeg r.lo), .slice a (mag r.lo).length c, .bool (isNeg r.hi), .slice b (mag r.hi).length d] T)) :=
  ⟨v.heap.size, a, c, b, d, rfl, by rw [World.cell?_alloc_new]; rfl, by rw [World.cell?_alloc_new]; rfl, by rw [World.cell?_alloc_new]; rfl, by rw [World.cell?_alloc_new]; rfl, by rw [World.cell?_alloc_new]; rfl, hk.out.size, by simp, hS.kept0 ((Kept.refl [] v).alloc _), hS'.kept0 ((Kept.refl [] v).alloc _), hF.mono hB, hF'.mono hB, hk.out.alloc _⟩
theorem boxSm_set {W v : World} {B g : Nat} {r : SV} {a b : Option Addr} {c d : Nat} {x0 x1 x2 x3 x4 : Value} (hg : W.heap.size ≤ g) (hB : g < B) (hS : Sl v a (mag r.lo).length c (mag r.lo)) (hS' : Sl v b (mag r.hi).length d (mag r.hi)) (hF : Fr B a (mag r.lo).length) (hF' : Fr B b (mag r.hi).length)
    (h0 : v.cell? ⟨g, 0, none⟩ = some x0) (h1 : v.cell? ⟨g, 1, none⟩ = some x1) (h2 : v.cell? ⟨g, 2, none⟩ = some x2) (h3 : v.cell? ⟨g, 3, none⟩ = some x3) (h4 : v.cell? ⟨g, 4, none⟩ = some x4) (hk : Hid (Kept [] W v)) :
    BoxSm W r (.pointer (some ⟨g, 0, none⟩)) (((((v.setCell ⟨g, 0, none⟩ (.int .i64 r.code)).setCell ⟨g, 1, none⟩ (.bool (isNeg r.lo))).setCell ⟨g, 2, none⟩ (.slice a (mag r.lo).length c)).setCell ⟨g, 3, none⟩ (.bool (isNeg r.hi))).setCell ⟨g, 4, none⟩ (.slice b (mag r.hi).length d)) := by
  obtain ⟨e0, e1, e2, e3, e4⟩ := cells5at (.int .i64 r.code) (.bool (isNeg r.lo)) (.slice a (mag r.lo).length c) (.bool (isNeg r.hi)) (.slice b (mag r.hi).length d) h0 h1 h2 h3 h4
  have hlt := World.block_lt_of_cell? v _ h0
  have hq := (Kept.set5 (v1 := .int .i64 r.code) (v2 := .bool (isNeg r.lo)) (v3 := .slice a (mag r.lo).length c) (v4 := .bool (isNeg r.hi)) (v5 := .slice b (mag r.hi).length d) (Lib.hid (Kept.refl [g] v))).out
  exact ⟨g, a, c, b, d, rfl, e0, e1, e2, e3, e4, hg, Nat.lt_of_lt_of_le hlt hq.size, hS.kept hq (fun hn x hx => by have := hF hn x hx; simp; omega), hS'.kept hq (fun hn x hx => by have := hF' hn x hx; simp; omega), hF.mono (by omega), hF'.mono (by omega), (Kept.set5n hk hg).out⟩
theorem boxS_last {W v : World} {B : Nat} {r : SV} {a b : Option Addr} {c d : Nat} {T : TypeId} (hB : W.heap.size ≤ B) (hS : Sl v a (mag r.lo).length c (mag r.lo)) (hS' : Sl v b (mag r.hi).length d (mag r.hi)) (hF : Fr B a (mag r.lo).length) (hF' : Fr B b (mag r.hi).length) (hne : ∀ x y, 0 < (mag r.lo).length → 0 < (mag r.hi).length → a = some x → b = some y → x.block ≠ y.block) (hk : Hid (Kept [] W v)) :
    BoxS W r (.pointer (some ⟨v.heap.size, 0, none⟩)) (v.alloc (.cells #[.int .i64 r.code, .bool (isNeg r.lo), .slice a (mag r.lo).length c, .bool (isNeg r.hi), .slice b (mag r.hi).length d] T)) :=
  ⟨v.heap.size, a, c, b, d, rfl, by rw [World.cell?_alloc_new]; rfl, by rw [World.cell?_alloc_new]; rfl, by rw [World.cell?_alloc_new]; rfl, by rw [World.cell?_alloc_new]; rfl, by rw [World.cell?_alloc_new]; rfl, hk.out.size, by simp, hS.kept0 ((Kept.refl [] v).alloc _), hS'.kept0 ((Kept.refl [] v).alloc _), hF.mono hB, hF'.mono hB, hne, hk.out.alloc _⟩
theorem boxS_set {W v : World} {B g : Nat} {r : SV} {a b : Option Addr} {c d : Nat} {x0 x1 x2 x3 x4 : Value} (hg : W.heap.size ≤ g) (hB : g < B) (hS : Sl v a (mag r.lo).length c (mag r.lo)) (hS' : Sl v b (mag r.hi).length d (mag r.hi)) (hF : Fr B a (mag r.lo).length) (hF' : Fr B b (mag r.hi).length) (hne : ∀ x y, 0 < (mag r.lo).length → 0 < (mag r.hi).length → a = some x → b = some y → x.block ≠ y.block)
    (h0 : v.cell? ⟨g, 0, none⟩ = some x0) (h1 : v.cell? ⟨g, 1, none⟩ = some x1) (h2 : v.cell? ⟨g, 2, none⟩ = some x2) (h3 : v.cell? ⟨g, 3, none⟩ = some x3) (h4 : v.cell? ⟨g, 4, none⟩ = some x4) (hk : Hid (Kept [] W v)) :
    BoxS W r (.pointer (some ⟨g, 0, none⟩)) (((((v.setCell ⟨g, 0, none⟩ (.int .i64 r.code)).setCell ⟨g, 1, none⟩ (.bool (isNeg r.lo))).setCell ⟨g, 2, none⟩ (.slice a (mag r.lo).length c)).setCell ⟨g, 3, none⟩ (.bool (isNeg r.hi))).setCell ⟨g, 4, none⟩ (.slice b (mag r.hi).length d)) := by
  obtain ⟨e0, e1, e2, e3, e4⟩ := cells5at (.int .i64 r.code) (.bool (isNeg r.lo)) (.slice a (mag r.lo).length c) (.bool (isNeg r.hi)) (.slice b (mag r.hi).length d) h0 h1 h2 h3 h4
  have hlt := World.block_lt_of_cell? v _ h0
  have hq := (Kept.set5 (v1 := .int .i64 r.code) (v2 := .bool (isNeg r.lo)) (v3 := .slice a (mag r.lo).length c) (v4 := .bool (isNeg r.hi)) (v5 := .slice b (mag r.hi).length d) (Lib.hid (Kept.refl [g] v))).out
  exact ⟨g, a, c, b, d, rfl, e0, e1, e2, e3, e4, hg, Nat.lt_of_lt_of_le hlt hq.size, hS.kept hq (fun hn x hx => by have := hF hn x hx; simp; omega), hS'.kept hq (fun hn x hx => by have := hF' hn x hx; simp; omega), hF.mono (by omega), hF'.mono (by omega), hne, (Kept.set5n hk hg).out⟩

end Go.Proofs.Ytjndjjdffifgcaa
