/-
 The walk of the law on RadSpan. No condition but that the arguments' limbs read as lists of numbers.
-/
import Derived.Deep.RegionHeld3
import Derived.Deep.DrawnRows
import Derived.Deep.DeepCutAuto
import Derived.Test.YtfafjijoeanbhaaGreatJ3
import Derived.Test.YtfafjijoeanbhaaGreatRadSpec
import Derived.Test.YtfafjijoeanbhaaGreatRadProg
namespace Go.Proofs.YtfafjijoeanbhaaGreat
open Go.RowKit
attribute [local go_sem ↓] Go.wp_at_zero Go.wp_at_succ

set_option maxHeartbeats 4000000 in
set_option maxRecDepth 100000 in
theorem FnExactRadSpan_walk (P : Int) (n : Int) (w : World) (_hP : (Lit.int .i64 P).wf = true) (_hn : (Lit.int .i64 n).wf = true) :
  Calls Tryz.prog 3 #[.int .i64 P, .int .i64 n] w (Ans w (.bool true)) := by
 have HZ := Lib.hid (show Short (radS P n) from radS_short _ _)
 go_enter Tryz.func3, Tryz.ntmps3
 go_wp2_with fail
 refine (sRadSpan_any P n _).mono ?_
 rintro e ww1 ⟨a1, c1, b1, d1, rfl, hs, hs', hf, hf', hk⟩
 obtain ⟨rv, hv⟩ : ∃ r : SV, r = radS P n := ⟨_, rfl⟩
 (try rw [← hv] at e0 e1 e2 e3 e4)
 rw [← hv] at hs hs' hf hf'
 (try rw [← hv])
 rw [← hv] at HZ
 have HV := Lib.hid hv
 clear hv
 have S1a := Lib.hid hs
 have S1b := Lib.hid hs'
 have f1a := Lib.hid hs.lt
 have f1b := Lib.hid hs'.lt
 have F1a := Lib.hid hf
 have F1b := Lib.hid hf'
 clear hs hs' hf hf'
 have hz1 := HZ.out.1
 have hz2 := HZ.out.2
 have z1 := hk.size
 have kq1 := Lib.hid hk
 have KT := kq1
 clear hk
 go_wp2_with fail
 generalize hW : (ww1.alloc (.cells #[.int .i64 rv.code, .bool (isNeg rv.lo), .slice a1 (mag rv.lo).length c1, .bool (isNeg rv.hi), .slice b1 (mag rv.hi).length d1] 28)) = ww2
 have hk : Kept [] ww1 ww2 := by rw [← hW]; exact (Kept.refl [] _).alloc _
 have zzW : ww1.heap.size + 1 = ww2.heap.size := by rw [← hW]; simp
 have nW0 := Lib.hid (show ww2.cell? ⟨ww1.heap.size, 0, none⟩ = some (.int .i64 rv.code) by rw [← hW, World.cell?_alloc_new]; rfl)
 have nW1 := Lib.hid (show ww2.cell? ⟨ww1.heap.size, 1, none⟩ = some (.bool (isNeg rv.lo)) by rw [← hW, World.cell?_alloc_new]; rfl)
 have nW2 := Lib.hid (show ww2.cell? ⟨ww1.heap.size, 2, none⟩ = some (.slice a1 (mag rv.lo).length c1) by rw [← hW, World.cell?_alloc_new]; rfl)
 have nW3 := Lib.hid (show ww2.cell? ⟨ww1.heap.size, 3, none⟩ = some (.bool (isNeg rv.hi)) by rw [← hW, World.cell?_alloc_new]; rfl)
 have nW4 := Lib.hid (show ww2.cell? ⟨ww1.heap.size, 4, none⟩ = some (.slice b1 (mag rv.hi).length d1) by rw [← hW, World.cell?_alloc_new]; rfl)
 clear hW
 have z2 := hk.size
 have kq2 := Lib.hid hk
 clear hk
 refine (RadSpan_any P n _).mono ?_
 rintro e ww3 ⟨a2, c2, b2, d2, rfl, hs, hs', hf, hf', hne, hk⟩
 (try rw [← HV.out] at e0 e1 e2 e3 e4)
 rw [← HV.out] at hs hs' hf hf' hne
 (try rw [← HV.out])
 have S2a := Lib.hid hs
 have S2b := Lib.hid hs'
 have f2a := Lib.hid hs.lt
 have f2b := Lib.hid hs'.lt
 have F2a := Lib.hid hf
 have F2b := Lib.hid hf'
 have NE2 := Lib.hid hne
 clear hs hs' hf hf' hne
 have z3 := hk.size
 have kq3 := Lib.hid hk
 clear hk
 replace nW0 := kc kq3.out nW0
 have tW0 := alloc_cell (o := .cells #[.int .i64 rv.code, .bool (isNeg rv.lo), .slice a2 (mag rv.lo).length c2, .bool (isNeg rv.hi), .slice b2 (mag rv.hi).length d2] 28) nW0.out
 replace nW1 := kc kq3.out nW1
 have tW1 := alloc_cell (o := .cells #[.int .i64 rv.code, .bool (isNeg rv.lo), .slice a2 (mag rv.lo).length c2, .bool (isNeg rv.hi), .slice b2 (mag rv.hi).length d2] 28) nW1.out
 replace nW2 := kc kq3.out nW2
 have tW2 := alloc_cell (o := .cells #[.int .i64 rv.code, .bool (isNeg rv.lo), .slice a2 (mag rv.lo).length c2, .bool (isNeg rv.hi), .slice b2 (mag rv.hi).length d2] 28) nW2.out
 replace nW3 := kc kq3.out nW3
 have tW3 := alloc_cell (o := .cells #[.int .i64 rv.code, .bool (isNeg rv.lo), .slice a2 (mag rv.lo).length c2, .bool (isNeg rv.hi), .slice b2 (mag rv.hi).length d2] 28) nW3.out
 replace nW4 := kc kq3.out nW4
 have tW4 := alloc_cell (o := .cells #[.int .i64 rv.code, .bool (isNeg rv.lo), .slice a2 (mag rv.lo).length c2, .bool (isNeg rv.hi), .slice b2 (mag rv.hi).length d2] 28) nW4.out
 go_wp2_with fail
 clear tW0 tW1 tW2 tW3 tW4
 generalize hW : (ww3.alloc (.cells #[.int .i64 rv.code, .bool (isNeg rv.lo), .slice a2 (mag rv.lo).length c2, .bool (isNeg rv.hi), .slice b2 (mag rv.hi).length d2] 28)) = ww4
 have hk : Kept [] ww3 ww4 := by rw [← hW]; exact (Kept.refl [] _).alloc _
 have zzG : ww3.heap.size + 1 = ww4.heap.size := by rw [← hW]; simp
 have nG0 := Lib.hid (show ww4.cell? ⟨ww3.heap.size, 0, none⟩ = some (.int .i64 rv.code) by rw [← hW, World.cell?_alloc_new]; rfl)
 have nG1 := Lib.hid (show ww4.cell? ⟨ww3.heap.size, 1, none⟩ = some (.bool (isNeg rv.lo)) by rw [← hW, World.cell?_alloc_new]; rfl)
 have nG2 := Lib.hid (show ww4.cell? ⟨ww3.heap.size, 2, none⟩ = some (.slice a2 (mag rv.lo).length c2) by rw [← hW, World.cell?_alloc_new]; rfl)
 have nG3 := Lib.hid (show ww4.cell? ⟨ww3.heap.size, 3, none⟩ = some (.bool (isNeg rv.hi)) by rw [← hW, World.cell?_alloc_new]; rfl)
 have nG4 := Lib.hid (show ww4.cell? ⟨ww3.heap.size, 4, none⟩ = some (.slice b2 (mag rv.hi).length d2) by rw [← hW, World.cell?_alloc_new]; rfl)
 clear hW
 have z4 := hk.size
 have kq4 := Lib.hid hk
 clear hk
 have kj1 := Lib.hid ((kq2.out.trans0 kq3.out).trans0 kq4.out)
 replace S1a := Lib.hid (S1a.out.kept0 kj1.out)
 replace S1b := Lib.hid (S1b.out.kept0 kj1.out)
 replace S2a := Lib.hid (S2a.out.kept0 kq4.out)
 replace S2b := Lib.hid (S2b.out.kept0 kq4.out)
 refine (eqSpanResult_yes _ _ _ _ _ _ _ _ _ _ _ _ _ _ _ _ S2a.out.rd S1a.out.rd S2b.out.rd S1b.out.rd).mono ?_
 rintro e ww5 ⟨rfl, hk⟩
 have z5 := hk.size
 have kq5 := Lib.hid hk
 clear hk
 replace nG0 := kc kq5.out nG0
 have tG0 := nG0.out
 replace nG1 := kc kq5.out nG1
 have tG1 := nG1.out
 replace nG2 := kc kq5.out nG2
 have tG2 := nG2.out
 replace nG3 := kc kq5.out nG3
 have tG3 := nG3.out
 replace nG4 := kc kq5.out nG4
 have tG4 := nG4.out
 go_wp2_with fail
 clear tG0 tG1 tG2 tG3 tG4
 replace S2a := Lib.hid (S2a.out.kept0 kq5.out)
 replace S2b := Lib.hid (S2b.out.kept0 kq5.out)
 refine (markSpanResult_any _ _ _ _ _ _ _ _ _ _ _ 1 _ S2a.out S2b.out NE2.out (by omega) (by omega) (by omega)).mono ?_
 rintro e ww6 ⟨rfl, hs, hs', hk⟩
 have SMa := Lib.hid hs
 have SMb := Lib.hid hs'
 clear hs hs'
 have kj2 := Lib.hid (kj1.out.trans0 kq5.out)
 replace KT := Lib.hid (KT.out.trans0 kj2.out)
 have kj3 := Lib.hid (kq4.out.trans0 kq5.out)
 replace nW0 := kc kj3.out nW0
 replace nW1 := kc kj3.out nW1
 replace nW2 := kc kj3.out nW2
 replace nW3 := kc kj3.out nW3
 replace nW4 := kc kj3.out nW4
 replace S1a := Lib.hid (S1a.out.kept0 kq5.out)
 replace S1b := Lib.hid (S1b.out.kept0 kq5.out)
 have z6 := hk.size
 replace S1a := Lib.hid (S1a.out.kept hk (fun hn y hy hm => by rcases List.mem_append.1 hm with hm | hm; (obtain ⟨hn2, u, hu, e⟩ := blkOf_mem hm; have h9 := F2a.out hn2 u hu; have h8 := f2a.out hn2 u hu; have h7 := f1a.out hn y hy; omega); (obtain ⟨hn2, u, hu, e⟩ := blkOf_mem hm; have h9 := F2b.out hn2 u hu; have h8 := f2b.out hn2 u hu; have h7 := f1a.out hn y hy; omega)))
 replace S1b := Lib.hid (S1b.out.kept hk (fun hn y hy hm => by rcases List.mem_append.1 hm with hm | hm; (obtain ⟨hn2, u, hu, e⟩ := blkOf_mem hm; have h9 := F2a.out hn2 u hu; have h8 := f2a.out hn2 u hu; have h7 := f1b.out hn y hy; omega); (obtain ⟨hn2, u, hu, e⟩ := blkOf_mem hm; have h9 := F2b.out hn2 u hu; have h8 := f2b.out hn2 u hu; have h7 := f1b.out hn y hy; omega)))
 replace nW0 := Lib.hid (hk.cell (p := ⟨ww1.heap.size, 0, none⟩) nW0.out (fun hm => by rcases List.mem_append.1 hm with hm | hm; (obtain ⟨hn2, u, hu, e⟩ := blkOf_mem hm; have h9 := F2a.out hn2 u hu; have h8 := f2a.out hn2 u hu; simp at e; omega); (obtain ⟨hn2, u, hu, e⟩ := blkOf_mem hm; have h9 := F2b.out hn2 u hu; have h8 := f2b.out hn2 u hu; simp at e; omega)))
 replace nW1 := Lib.hid (hk.cell (p := ⟨ww1.heap.size, 1, none⟩) nW1.out (fun hm => by rcases List.mem_append.1 hm with hm | hm; (obtain ⟨hn2, u, hu, e⟩ := blkOf_mem hm; have h9 := F2a.out hn2 u hu; have h8 := f2a.out hn2 u hu; simp at e; omega); (obtain ⟨hn2, u, hu, e⟩ := blkOf_mem hm; have h9 := F2b.out hn2 u hu; have h8 := f2b.out hn2 u hu; simp at e; omega)))
 replace nW2 := Lib.hid (hk.cell (p := ⟨ww1.heap.size, 2, none⟩) nW2.out (fun hm => by rcases List.mem_append.1 hm with hm | hm; (obtain ⟨hn2, u, hu, e⟩ := blkOf_mem hm; have h9 := F2a.out hn2 u hu; have h8 := f2a.out hn2 u hu; simp at e; omega); (obtain ⟨hn2, u, hu, e⟩ := blkOf_mem hm; have h9 := F2b.out hn2 u hu; have h8 := f2b.out hn2 u hu; simp at e; omega)))
 replace nW3 := Lib.hid (hk.cell (p := ⟨ww1.heap.size, 3, none⟩) nW3.out (fun hm => by rcases List.mem_append.1 hm with hm | hm; (obtain ⟨hn2, u, hu, e⟩ := blkOf_mem hm; have h9 := F2a.out hn2 u hu; have h8 := f2a.out hn2 u hu; simp at e; omega); (obtain ⟨hn2, u, hu, e⟩ := blkOf_mem hm; have h9 := F2b.out hn2 u hu; have h8 := f2b.out hn2 u hu; simp at e; omega)))
 replace nW4 := Lib.hid (hk.cell (p := ⟨ww1.heap.size, 4, none⟩) nW4.out (fun hm => by rcases List.mem_append.1 hm with hm | hm; (obtain ⟨hn2, u, hu, e⟩ := blkOf_mem hm; have h9 := F2a.out hn2 u hu; have h8 := f2a.out hn2 u hu; simp at e; omega); (obtain ⟨hn2, u, hu, e⟩ := blkOf_mem hm; have h9 := F2b.out hn2 u hu; have h8 := f2b.out hn2 u hu; simp at e; omega)))
 replace nG0 := Lib.hid (hk.cell (p := ⟨ww3.heap.size, 0, none⟩) nG0.out (fun hm => by rcases List.mem_append.1 hm with hm | hm; (obtain ⟨hn2, u, hu, e⟩ := blkOf_mem hm; have h9 := F2a.out hn2 u hu; have h8 := f2a.out hn2 u hu; simp at e; omega); (obtain ⟨hn2, u, hu, e⟩ := blkOf_mem hm; have h9 := F2b.out hn2 u hu; have h8 := f2b.out hn2 u hu; simp at e; omega)))
 replace nG1 := Lib.hid (hk.cell (p := ⟨ww3.heap.size, 1, none⟩) nG1.out (fun hm => by rcases List.mem_append.1 hm with hm | hm; (obtain ⟨hn2, u, hu, e⟩ := blkOf_mem hm; have h9 := F2a.out hn2 u hu; have h8 := f2a.out hn2 u hu; simp at e; omega); (obtain ⟨hn2, u, hu, e⟩ := blkOf_mem hm; have h9 := F2b.out hn2 u hu; have h8 := f2b.out hn2 u hu; simp at e; omega)))
 replace nG2 := Lib.hid (hk.cell (p := ⟨ww3.heap.size, 2, none⟩) nG2.out (fun hm => by rcases List.mem_append.1 hm with hm | hm; (obtain ⟨hn2, u, hu, e⟩ := blkOf_mem hm; have h9 := F2a.out hn2 u hu; have h8 := f2a.out hn2 u hu; simp at e; omega); (obtain ⟨hn2, u, hu, e⟩ := blkOf_mem hm; have h9 := F2b.out hn2 u hu; have h8 := f2b.out hn2 u hu; simp at e; omega)))
 replace nG3 := Lib.hid (hk.cell (p := ⟨ww3.heap.size, 3, none⟩) nG3.out (fun hm => by rcases List.mem_append.1 hm with hm | hm; (obtain ⟨hn2, u, hu, e⟩ := blkOf_mem hm; have h9 := F2a.out hn2 u hu; have h8 := f2a.out hn2 u hu; simp at e; omega); (obtain ⟨hn2, u, hu, e⟩ := blkOf_mem hm; have h9 := F2b.out hn2 u hu; have h8 := f2b.out hn2 u hu; simp at e; omega)))
 replace nG4 := Lib.hid (hk.cell (p := ⟨ww3.heap.size, 4, none⟩) nG4.out (fun hm => by rcases List.mem_append.1 hm with hm | hm; (obtain ⟨hn2, u, hu, e⟩ := blkOf_mem hm; have h9 := F2a.out hn2 u hu; have h8 := f2a.out hn2 u hu; simp at e; omega); (obtain ⟨hn2, u, hu, e⟩ := blkOf_mem hm; have h9 := F2b.out hn2 u hu; have h8 := f2b.out hn2 u hu; simp at e; omega)))
 replace KT := Lib.hid (KT.out.trans hk (fun hx0 hx hlt => by rcases List.mem_append.1 hx with hm | hm; (obtain ⟨hn2, u, hu, e⟩ := blkOf_mem hm; have h9 := F2a.out hn2 u hu; have h8 := f2a.out hn2 u hu; omega); (obtain ⟨hn2, u, hu, e⟩ := blkOf_mem hm; have h9 := F2b.out hn2 u hu; have h8 := f2b.out hn2 u hu; omega)))
 clear hk
 have hqn : decide (1 + ((mag rv.lo).length : Int) + ((mag rv.hi).length : Int) < 0) = false := decide_eq_false (by omega)
 have hq0 : (0 : Int) ≤ 1 + ((mag rv.lo).length : Int) + ((mag rv.hi).length : Int) := by omega
 have tG0 := nG0.out
 have tG1 := nG1.out
 have tG2 := nG2.out
 have tG3 := nG3.out
 have tG4 := nG4.out
 go_wp2_with fail
 clear tG0 tG1 tG2 tG3 tG4
 refine (heldSpanResult_any _ _ _ _ _ _ _ _ _ 1 _ SMa.out.rd SMb.out.rd (by omega) (by omega) (by omega)).mono ?_
 rintro e ww7 ⟨rfl, hk⟩
 have z7 := hk.size
 have kq6 := Lib.hid hk
 clear hk
 go_wp2_with fail
 refine (RadSpan_any P n _).mono ?_
 rintro e ww8 ⟨a4, c4, b4, d4, rfl, hs, hs', hf, hf', hne, hk⟩
 (try rw [← HV.out] at e0 e1 e2 e3 e4)
 rw [← HV.out] at hs hs' hf hf' hne
 (try rw [← HV.out])
 have S4a := Lib.hid hs
 have S4b := Lib.hid hs'
 have f4a := Lib.hid hs.lt
 have f4b := Lib.hid hs'.lt
 have F4a := Lib.hid hf
 have F4b := Lib.hid hf'
 have NE4 := Lib.hid hne
 clear hs hs' hf hf' hne
 have z8 := hk.size
 have kq7 := Lib.hid hk
 clear hk
 have kj4 := Lib.hid (kq6.out.trans0 kq7.out)
 replace nW0 := kc kj4.out nW0
 have tW0 := alloc_cell (o := .cells #[.int .i64 rv.code, .bool (isNeg rv.lo), .slice a4 (mag rv.lo).length c4, .bool (isNeg rv.hi), .slice b4 (mag rv.hi).length d4] 28) nW0.out
 replace nW1 := kc kj4.out nW1
 have tW1 := alloc_cell (o := .cells #[.int .i64 rv.code, .bool (isNeg rv.lo), .slice a4 (mag rv.lo).length c4, .bool (isNeg rv.hi), .slice b4 (mag rv.hi).length d4] 28) nW1.out
 replace nW2 := kc kj4.out nW2
 have tW2 := alloc_cell (o := .cells #[.int .i64 rv.code, .bool (isNeg rv.lo), .slice a4 (mag rv.lo).length c4, .bool (isNeg rv.hi), .slice b4 (mag rv.hi).length d4] 28) nW2.out
 replace nW3 := kc kj4.out nW3
 have tW3 := alloc_cell (o := .cells #[.int .i64 rv.code, .bool (isNeg rv.lo), .slice a4 (mag rv.lo).length c4, .bool (isNeg rv.hi), .slice b4 (mag rv.hi).length d4] 28) nW3.out
 replace nW4 := kc kj4.out nW4
 have tW4 := alloc_cell (o := .cells #[.int .i64 rv.code, .bool (isNeg rv.lo), .slice a4 (mag rv.lo).length c4, .bool (isNeg rv.hi), .slice b4 (mag rv.hi).length d4] 28) nW4.out
 go_wp2_with fail
 clear tW0 tW1 tW2 tW3 tW4
 generalize hW : (ww8.alloc (.cells #[.int .i64 rv.code, .bool (isNeg rv.lo), .slice a4 (mag rv.lo).length c4, .bool (isNeg rv.hi), .slice b4 (mag rv.hi).length d4] 28)) = ww9
 have hk : Kept [] ww8 ww9 := by rw [← hW]; exact (Kept.refl [] _).alloc _
 have zzH : ww8.heap.size + 1 = ww9.heap.size := by rw [← hW]; simp
 have nH0 := Lib.hid (show ww9.cell? ⟨ww8.heap.size, 0, none⟩ = some (.int .i64 rv.code) by rw [← hW, World.cell?_alloc_new]; rfl)
 have nH1 := Lib.hid (show ww9.cell? ⟨ww8.heap.size, 1, none⟩ = some (.bool (isNeg rv.lo)) by rw [← hW, World.cell?_alloc_new]; rfl)
 have nH2 := Lib.hid (show ww9.cell? ⟨ww8.heap.size, 2, none⟩ = some (.slice a4 (mag rv.lo).length c4) by rw [← hW, World.cell?_alloc_new]; rfl)
 have nH3 := Lib.hid (show ww9.cell? ⟨ww8.heap.size, 3, none⟩ = some (.bool (isNeg rv.hi)) by rw [← hW, World.cell?_alloc_new]; rfl)
 have nH4 := Lib.hid (show ww9.cell? ⟨ww8.heap.size, 4, none⟩ = some (.slice b4 (mag rv.hi).length d4) by rw [← hW, World.cell?_alloc_new]; rfl)
 clear hW
 have z9 := hk.size
 have kq8 := Lib.hid hk
 clear hk
 have kj5 := Lib.hid (kj4.out.trans0 kq8.out)
 replace S1a := Lib.hid (S1a.out.kept0 kj5.out)
 replace S1b := Lib.hid (S1b.out.kept0 kj5.out)
 replace S4a := Lib.hid (S4a.out.kept0 kq8.out)
 replace S4b := Lib.hid (S4b.out.kept0 kq8.out)
 refine (eqSpanResult_yes _ _ _ _ _ _ _ _ _ _ _ _ _ _ _ _ S4a.out.rd S1a.out.rd S4b.out.rd S1b.out.rd).mono ?_
 rintro e ww10 ⟨rfl, hk⟩
 have z10 := hk.size
 have kq9 := Lib.hid hk
 clear hk
 have kj6 := Lib.hid (kj5.out.trans0 kq9.out)
 replace nG0 := kc kj6.out nG0
 have tG0 := nG0.out
 replace nG1 := kc kj6.out nG1
 have tG1 := nG1.out
 replace nG2 := kc kj6.out nG2
 have tG2 := nG2.out
 replace nG3 := kc kj6.out nG3
 have tG3 := nG3.out
 replace nG4 := kc kj6.out nG4
 have tG4 := nG4.out
 go_wp2_with fail
 clear tG0 tG1 tG2 tG3 tG4
 replace SMa := Lib.hid (SMa.out.kept0 kj6.out)
 replace SMb := Lib.hid (SMb.out.kept0 kj6.out)
 refine (heldSpanResult_any _ _ _ _ _ _ _ _ _ 1 _ SMa.out.rd SMb.out.rd (by omega) (by omega) (by omega)).mono ?_
 rintro e ww11 ⟨rfl, hk⟩
 have z11 := hk.size
 have kq10 := Lib.hid hk
 clear hk
 go_wp2_with fail
 go_ret
 have kj7 := Lib.hid (kj6.out.trans0 kq10.out)
 replace KT := Lib.hid (KT.out.trans0 kj7.out)
 exact ⟨rfl, KT.out⟩

end Go.Proofs.YtfafjijoeanbhaaGreat
