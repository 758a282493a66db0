/-
  The walk of the law on FloorRoot. No condition but that the arguments' limbs read as lists of numbers.
-/
import Derived.Deep.RegionHeld3
import Derived.Deep.DrawnRows
import Derived.Deep.DeepCutAuto
import Derived.Test.YtgplghjameiciaaBigR
namespace Go.Proofs.Ytgplghjameiciaa
open Go.RowKit
attribute [local go_sem ↓] Go.wp_at_zero Go.wp_at_succ

set_option maxHeartbeats 8000000 in
set_option maxRecDepth 100000 in
theorem FnExactFloorRoot_walk (p : Bool) (a : Option Addr) (n c : Nat) (xs : List Int) (w : World) (hA : Rd w a n xs) :
    Calls Try.prog 14 #[.agg #[.bool p, .slice a n c]] w (Ans w (.bool true)) := by
  have hmaxA := hA.2.1
  have HRA := Lib.hid hA
  have HLA := Lib.hid hA.1
  have FRA := Lib.hid hA.lt
  clear hA
  by_cases hbig0 : 1048576 < n
  · go_enter Try.func14, Try.ntmps14
    go_wp2_with fail
    have hk0 : Kept [] w (w.alloc (.cells #[.bool p, .slice a n c] 38)) := (Kept.refl [] w).alloc _
    refine (szBig_no _ _ _ _ _ _ (by omega) (by omega) hmaxA).mono ?_
    rintro e w1 ⟨rfl, hk⟩
    have HK := Lib.hid (hk0.trans0 hk)
    clear hk hk0
    go_wp2_with fail
    go_ret
    exact ⟨rfl, HK.out⟩
  have hsmA : n ≤ 1048576 := by omega
  have hsm : (n : Int) ≤ 1048576 := by omega
  have hng : decide ((1048576 : Int) - (n : Int) < 0) = false := decide_eq_false (by omega)
  have hnp : (0 : Int) ≤ (1048576 : Int) - (n : Int) := by omega
  clear hbig0
  have HZ := Lib.hid (show (rootB isq p xs).limbs.length ≤ 40 from rootB_len (fun _ => isq_le) _ _)
  go_enter Try.func14, Try.ntmps14
  go_wp2_with fail
  generalize hW : (w.alloc (.cells #[.bool p, .slice a n c] 38)) = ww0
  have hk : Kept [] w ww0 := by rw [← hW]; exact (Kept.refl [] w).alloc _
  have hkk : Kept [] (w.alloc (.cells #[.bool p, .slice a n c] 38)) ww0 := by rw [hW]; exact Kept.refl _ _
  have zzA : w.heap.size + 1 = ww0.heap.size := by rw [← hW]; simp
  obtain ⟨⟨nA0, nA1⟩, _⟩ := tp2 hkk (g := w.heap.size) (by simp) (by simp)
  clear hkk hW
  have z0 := hk.size
  have KT := Lib.hid hk
  clear hk
  replace HRA := Lib.hid (HRA.out.kept0 KT.out)
  refine (szBig_yes _ _ _ _ _ _ (by omega) (by omega)).mono ?_
  rintro e ww1 ⟨rfl, hk⟩
  have z1 := hk.size
  replace nA0 := kc hk nA0
  replace nA1 := kc hk nA1
  replace HRA := Lib.hid (HRA.out.kept0 hk)
  replace KT := Lib.hid (KT.out.trans0 hk)
  clear hk
  have tA0 := nA0.out
  have tA1 := nA1.out
  go_wp2_with fail
  clear tA0 tA1
  refine (toBig_any _ _ _ _ _ _ HRA.out (by omega)).mono ?_
  rintro e ww2 ⟨gs0, rfl, qs0, hb, hk⟩
  rw [HLA.out]
  have ls0 := hb.lt
  have Ss0 := Lib.hid (sl_new hb HLA.out (by omega))
  clear hb
  have z2 := hk.size
  replace nA0 := kc hk nA0
  replace nA1 := kc hk nA1
  replace HRA := Lib.hid (HRA.out.kept0 hk)
  replace KT := Lib.hid (KT.out.trans0 hk)
  clear hk
  go_wp2_with fail
  refine (sFloorRoot_any _ _ _ _ _ _ Ss0.out).mono ?_
  rintro e ww3 ⟨a1, x1, rfl, hs, hf, hk⟩
  obtain ⟨⟨cv, cn, zs⟩, hv⟩ : ∃ r : BV, r = rootB isq p xs := ⟨_, rfl⟩
  (try rw [← hv] at e0)
  (try rw [← hv] at e1)
  (try rw [← hv] at e2)
  rw [← hv] at hs hf
  (try rw [← hv])
  rw [← hv] at HZ
  have HV := Lib.hid hv
  (try simp only at e0)
  (try simp only at e1)
  (try simp only at e2)
  simp only at hs hf
  (try simp only)
  have S1 := Lib.hid hs
  have f1 := Lib.hid hs.lt
  clear hs hf hv
  have z3 := hk.size
  replace nA0 := kc hk nA0
  replace nA1 := kc hk nA1
  replace HRA := Lib.hid (HRA.out.kept0 hk)
  replace Ss0 := Lib.hid (Ss0.out.kept0 hk)
  replace KT := Lib.hid (KT.out.trans0 hk)
  clear hk
  have tA0 := alloc_cell (o := .cells #[.int .i64 cv, .bool cn, .slice a1 zs.length x1] 42) nA0.out
  have tA1 := alloc_cell (o := .cells #[.int .i64 cv, .bool cn, .slice a1 zs.length x1] 42) nA1.out
  go_wp2_with fail
  clear tA0 tA1
  generalize hW : (ww3.alloc (.cells #[.int .i64 cv, .bool cn, .slice a1 zs.length x1] 42)) = ww4
  have hk : Kept [] ww3 ww4 := by rw [← hW]; exact (Kept.refl [] _).alloc _
  have zzW : ww3.heap.size + 1 = ww4.heap.size := by rw [← hW]; simp
  have nW0 := Lib.hid (show ww4.cell? ⟨ww3.heap.size, 0, none⟩ = some (.int .i64 cv) by rw [← hW, World.cell?_alloc_new]; rfl)
  have nW1 := Lib.hid (show ww4.cell? ⟨ww3.heap.size, 1, none⟩ = some (.bool cn) by rw [← hW, World.cell?_alloc_new]; rfl)
  have nW2 := Lib.hid (show ww4.cell? ⟨ww3.heap.size, 2, none⟩ = some (.slice a1 zs.length x1) by rw [← hW, World.cell?_alloc_new]; rfl)
  clear hW
  have z4 := hk.size
  replace nA0 := kc hk nA0
  replace nA1 := kc hk nA1
  replace HRA := Lib.hid (HRA.out.kept0 hk)
  replace Ss0 := Lib.hid (Ss0.out.kept0 hk)
  replace S1 := Lib.hid (S1.out.kept0 hk)
  replace KT := Lib.hid (KT.out.trans0 hk)
  clear hk
  refine (toBig_any _ _ _ _ _ _ HRA.out (by omega)).mono ?_
  rintro e ww5 ⟨gx0, rfl, qx0, hb, hk⟩
  rw [HLA.out]
  have lx0 := hb.lt
  have Sx0 := Lib.hid (sl_new hb HLA.out (by omega))
  clear hb
  have z5 := hk.size
  replace nA0 := kc hk nA0
  replace nA1 := kc hk nA1
  replace HRA := Lib.hid (HRA.out.kept0 hk)
  replace Ss0 := Lib.hid (Ss0.out.kept0 hk)
  replace S1 := Lib.hid (S1.out.kept0 hk)
  replace nW0 := kc hk nW0
  replace nW1 := kc hk nW1
  replace nW2 := kc hk nW2
  replace KT := Lib.hid (KT.out.trans0 hk)
  clear hk
  go_wp2_with fail
  generalize hW : (ww5.alloc (.cells #[.bool p, .slice (some ⟨gx0, 0, none⟩) n n] 40)) = ww6
  have hk : Kept [] ww5 ww6 := by rw [← hW]; exact (Kept.refl [] _).alloc _
  have zzX0 : ww5.heap.size + 1 = ww6.heap.size := by rw [← hW]; simp
  have nX00 := Lib.hid (show ww6.cell? ⟨ww5.heap.size, 0, none⟩ = some (.bool p) by rw [← hW, World.cell?_alloc_new]; rfl)
  have nX01 := Lib.hid (show ww6.cell? ⟨ww5.heap.size, 1, none⟩ = some (.slice (some ⟨gx0, 0, none⟩) n n) by rw [← hW, World.cell?_alloc_new]; rfl)
  clear hW
  have z6 := hk.size
  replace nA0 := kc hk nA0
  replace nA1 := kc hk nA1
  replace HRA := Lib.hid (HRA.out.kept0 hk)
  replace Ss0 := Lib.hid (Ss0.out.kept0 hk)
  replace S1 := Lib.hid (S1.out.kept0 hk)
  replace nW0 := kc hk nW0
  replace nW1 := kc hk nW1
  replace nW2 := kc hk nW2
  replace Sx0 := Lib.hid (Sx0.out.kept0 hk)
  replace KT := Lib.hid (KT.out.trans0 hk)
  clear hk
  refine (FloorRoot_any _ _ _ _ _ _ Sx0.out).mono ?_
  rintro e ww7 ⟨a2, x2, rfl, hs, hf, hk⟩
  (try rw [← HV.out] at e0)
  (try rw [← HV.out] at e1)
  (try rw [← HV.out] at e2)
  rw [← HV.out] at hs hf
  (try rw [← HV.out])
  (try simp only at e0)
  (try simp only at e1)
  (try simp only at e2)
  simp only at hs hf
  (try simp only)
  have S2 := Lib.hid hs
  have f2 := Lib.hid hs.lt
  have F2 := Lib.hid hf
  clear hs hf
  have z7 := hk.size
  replace nA0 := kc hk nA0
  replace nA1 := kc hk nA1
  replace HRA := Lib.hid (HRA.out.kept0 hk)
  replace Ss0 := Lib.hid (Ss0.out.kept0 hk)
  replace S1 := Lib.hid (S1.out.kept0 hk)
  replace nW0 := kc hk nW0
  replace nW1 := kc hk nW1
  replace nW2 := kc hk nW2
  replace Sx0 := Lib.hid (Sx0.out.kept0 hk)
  replace nX00 := kc hk nX00
  replace nX01 := kc hk nX01
  replace KT := Lib.hid (KT.out.trans0 hk)
  clear hk
  have tW0 := alloc_cell (o := .cells #[.int .i64 cv, .bool cn, .slice a2 zs.length x2] 42) nW0.out
  have tW1 := alloc_cell (o := .cells #[.int .i64 cv, .bool cn, .slice a2 zs.length x2] 42) nW1.out
  have tW2 := alloc_cell (o := .cells #[.int .i64 cv, .bool cn, .slice a2 zs.length x2] 42) nW2.out
  go_wp2_with fail
  clear tW0 tW1 tW2
  generalize hW : (ww7.alloc (.cells #[.int .i64 cv, .bool cn, .slice a2 zs.length x2] 42)) = ww8
  have hk : Kept [] ww7 ww8 := by rw [← hW]; exact (Kept.refl [] _).alloc _
  have zzG : ww7.heap.size + 1 = ww8.heap.size := by rw [← hW]; simp
  have nG0 := Lib.hid (show ww8.cell? ⟨ww7.heap.size, 0, none⟩ = some (.int .i64 cv) by rw [← hW, World.cell?_alloc_new]; rfl)
  have nG1 := Lib.hid (show ww8.cell? ⟨ww7.heap.size, 1, none⟩ = some (.bool cn) by rw [← hW, World.cell?_alloc_new]; rfl)
  have nG2 := Lib.hid (show ww8.cell? ⟨ww7.heap.size, 2, none⟩ = some (.slice a2 zs.length x2) by rw [← hW, World.cell?_alloc_new]; rfl)
  clear hW
  have z8 := hk.size
  replace nA0 := kc hk nA0
  replace nA1 := kc hk nA1
  replace HRA := Lib.hid (HRA.out.kept0 hk)
  replace Ss0 := Lib.hid (Ss0.out.kept0 hk)
  replace S1 := Lib.hid (S1.out.kept0 hk)
  replace nW0 := kc hk nW0
  replace nW1 := kc hk nW1
  replace nW2 := kc hk nW2
  replace Sx0 := Lib.hid (Sx0.out.kept0 hk)
  replace nX00 := kc hk nX00
  replace nX01 := kc hk nX01
  replace S2 := Lib.hid (S2.out.kept0 hk)
  replace KT := Lib.hid (KT.out.trans0 hk)
  clear hk
  refine (eqBigResult_yes _ _ _ _ _ _ _ _ _ S2.out.rd S1.out.rd).mono ?_
  rintro e ww9 ⟨rfl, hk⟩
  have z9 := hk.size
  replace nA0 := kc hk nA0
  replace nA1 := kc hk nA1
  replace HRA := Lib.hid (HRA.out.kept0 hk)
  replace Ss0 := Lib.hid (Ss0.out.kept0 hk)
  replace S1 := Lib.hid (S1.out.kept0 hk)
  replace nW0 := kc hk nW0
  replace nW1 := kc hk nW1
  replace nW2 := kc hk nW2
  replace Sx0 := Lib.hid (Sx0.out.kept0 hk)
  replace nX00 := kc hk nX00
  replace nX01 := kc hk nX01
  replace S2 := Lib.hid (S2.out.kept0 hk)
  replace nG0 := kc hk nG0
  replace nG1 := kc hk nG1
  replace nG2 := kc hk nG2
  replace KT := Lib.hid (KT.out.trans0 hk)
  clear hk
  have tX00 := nX00.out
  have tX01 := nX01.out
  have tA0 := nA0.out
  have tA1 := nA1.out
  go_wp2_with fail
  clear tX00 tX01 tA0 tA1
  have tX00 := nX00.out
  have tX01 := nX01.out
  have tA0 := nA0.out
  have tA1 := nA1.out
  go_region_held3 (fun w' => w'.cell? ⟨ww5.heap.size, 0, none⟩ = some (.bool p) ∧ w'.cell? ⟨ww5.heap.size, 1, none⟩ = some (.slice (some ⟨gx0, 0, none⟩) n n) ∧ w'.cell? ⟨w.heap.size, 0, none⟩ = some (.bool p) ∧ w'.cell? ⟨w.heap.size, 1, none⟩ = some (.slice a n c) ∧ Hid (Kept [] ww9 w'))
    ((go_split_ands; (try refine ⟨?_, ?_, ?_, ?_, ?_⟩) <;> with_reducible first | exact Lib.hid ((Kept.refl _ _).drew) | exact drew_cell (by assumption) | exact Kept.allocH (by assumption) | exact alloc_cell (by assumption) | exact Lib.hid (Kept.trans0 (Hid.out (by assumption)) (by assumption)) | exact Kept.cell (by assumption) (by assumption) (by simp)))
    (first
      | (go_at_call 37; go_split_ands; refine (toBig_any _ _ _ _ _ _ (HRA.out.kept0 (Kept.refl [] _).drew) (by omega)).mono ?_; rintro e v10 ⟨ge0, rfl, qe0, hb, hk1⟩; rw [HLA.out])
      | (go_at_call 40; go_split_ands; refine (eqBig_yes _ _ _ _ _ _ _ _ ((Sx0.out.kept0 (Kept.refl [] _).drew).kept0 hk1).rd (rd_new hb HLA.out (by omega))).mono ?_; rintro e v11 ⟨rfl, hk2⟩))
  clear tX00 tX01 tA0 tA1
  have hk := ((Kept.refl [] ww9).drew.trans0 hk1).trans0 hk2
  clear hk1 hk2 hb
  have z11 := hk.size
  replace nA0 := kc hk nA0
  replace nA1 := kc hk nA1
  replace HRA := Lib.hid (HRA.out.kept0 hk)
  replace Ss0 := Lib.hid (Ss0.out.kept0 hk)
  replace S1 := Lib.hid (S1.out.kept0 hk)
  replace nW0 := kc hk nW0
  replace nW1 := kc hk nW1
  replace nW2 := kc hk nW2
  replace Sx0 := Lib.hid (Sx0.out.kept0 hk)
  replace nX00 := kc hk nX00
  replace nX01 := kc hk nX01
  replace S2 := Lib.hid (S2.out.kept0 hk)
  replace nG0 := kc hk nG0
  replace nG1 := kc hk nG1
  replace nG2 := kc hk nG2
  replace KT := Lib.hid (KT.out.trans0 hk)
  clear hk
  have tX00 := nX00.out
  have tX01 := nX01.out
  go_wp2_with fail
  clear tX00 tX01
  refine (markBig_any _ _ _ _ _ (1) _ Sx0.out (by omega) (by omega)).mono ?_
  rintro e ww12 ⟨rfl, hs, hk⟩
  clear hs
  have z12 := hk.size
  replace nA0 := Lib.hid (hk.cell (p := ⟨w.heap.size, 0, none⟩) nA0.out (fun hm => by have e := blkOf_one hm; dsimp only at e; omega))
  replace nA1 := Lib.hid (hk.cell (p := ⟨w.heap.size, 1, none⟩) nA1.out (fun hm => by have e := blkOf_one hm; dsimp only at e; omega))
  replace HRA := Lib.hid (HRA.out.kept hk (fun hn y hy hm => by have e := blkOf_one hm; have h9 := FRA.out hn y hy; omega))
  replace Ss0 := Lib.hid (Ss0.out.kept hk (fun hn y hy hm => by cases hy; have e := blkOf_one hm; dsimp only at e; omega))
  replace S1 := Lib.hid (S1.out.kept hk (fun hn y hy hm => by have e := blkOf_one hm; have h9 := f1.out hn y hy; omega))
  replace nW0 := Lib.hid (hk.cell (p := ⟨ww3.heap.size, 0, none⟩) nW0.out (fun hm => by have e := blkOf_one hm; dsimp only at e; omega))
  replace nW1 := Lib.hid (hk.cell (p := ⟨ww3.heap.size, 1, none⟩) nW1.out (fun hm => by have e := blkOf_one hm; dsimp only at e; omega))
  replace nW2 := Lib.hid (hk.cell (p := ⟨ww3.heap.size, 2, none⟩) nW2.out (fun hm => by have e := blkOf_one hm; dsimp only at e; omega))
  replace nX00 := Lib.hid (hk.cell (p := ⟨ww5.heap.size, 0, none⟩) nX00.out (fun hm => by have e := blkOf_one hm; dsimp only at e; omega))
  replace nX01 := Lib.hid (hk.cell (p := ⟨ww5.heap.size, 1, none⟩) nX01.out (fun hm => by have e := blkOf_one hm; dsimp only at e; omega))
  replace S2 := Lib.hid (S2.out.kept hk (fun hn y hy hm => by have e := blkOf_one hm; have h9 := F2.out hn y hy; omega))
  replace nG0 := Lib.hid (hk.cell (p := ⟨ww7.heap.size, 0, none⟩) nG0.out (fun hm => by have e := blkOf_one hm; dsimp only at e; omega))
  replace nG1 := Lib.hid (hk.cell (p := ⟨ww7.heap.size, 1, none⟩) nG1.out (fun hm => by have e := blkOf_one hm; dsimp only at e; omega))
  replace nG2 := Lib.hid (hk.cell (p := ⟨ww7.heap.size, 2, none⟩) nG2.out (fun hm => by have e := blkOf_one hm; dsimp only at e; omega))
  replace KT := Lib.hid (KT.out.trans hk (fun hx0 hx hlt => by have e := blkOf_one hx; omega))
  clear hk
  have hneg : decide (1 + (n : Int) < 0) = false := decide_eq_false (by omega)
  have hpos : (0 : Int) ≤ 1 + (n : Int) := by omega
  have tG0 := nG0.out
  have tG1 := nG1.out
  have tG2 := nG2.out
  have tW0 := nW0.out
  have tW1 := nW1.out
  have tW2 := nW2.out
  go_wp2_with fail
  clear tG0 tG1 tG2 tW0 tW1 tW2
  refine (eqBigResult_yes _ _ _ _ _ _ _ _ _ S2.out.rd S1.out.rd).mono ?_
  rintro e ww13 ⟨rfl, hk⟩
  have z13 := hk.size
  replace nA0 := kc hk nA0
  replace nA1 := kc hk nA1
  replace HRA := Lib.hid (HRA.out.kept0 hk)
  replace Ss0 := Lib.hid (Ss0.out.kept0 hk)
  replace S1 := Lib.hid (S1.out.kept0 hk)
  replace nW0 := kc hk nW0
  replace nW1 := kc hk nW1
  replace nW2 := kc hk nW2
  replace nX00 := kc hk nX00
  replace nX01 := kc hk nX01
  replace S2 := Lib.hid (S2.out.kept0 hk)
  replace nG0 := kc hk nG0
  replace nG1 := kc hk nG1
  replace nG2 := kc hk nG2
  replace KT := Lib.hid (KT.out.trans0 hk)
  clear hk
  have tG0 := nG0.out
  have tG1 := nG1.out
  have tG2 := nG2.out
  go_wp2_with fail
  clear tG0 tG1 tG2
  refine (markBigResult_any _ _ _ _ _ _ 1 _ S2.out (Nat.le_trans HZ.out (by omega)) (by omega)).mono ?_
  rintro e ww14 ⟨rfl, hs, hk⟩
  have SM := Lib.hid hs
  clear hs
  have z14 := hk.size
  replace nA0 := Lib.hid (hk.cell (p := ⟨w.heap.size, 0, none⟩) nA0.out (fun hm => by obtain ⟨hn2, u, hu, e⟩ := blkOf_mem hm; have h9 := F2.out hn2 u hu; have h8 := f2.out hn2 u hu; simp at e; omega))
  replace nA1 := Lib.hid (hk.cell (p := ⟨w.heap.size, 1, none⟩) nA1.out (fun hm => by obtain ⟨hn2, u, hu, e⟩ := blkOf_mem hm; have h9 := F2.out hn2 u hu; have h8 := f2.out hn2 u hu; simp at e; omega))
  replace HRA := Lib.hid (HRA.out.kept hk (fun hn y hy hm => by obtain ⟨hn2, u, hu, e⟩ := blkOf_mem hm; have h9 := F2.out hn2 u hu; have h8 := f2.out hn2 u hu; have := FRA.out hn y hy; omega))
  replace Ss0 := Lib.hid (Ss0.out.kept hk (fun hn y hy hm => by obtain ⟨hn2, u, hu, e⟩ := blkOf_mem hm; have h9 := F2.out hn2 u hu; have h8 := f2.out hn2 u hu; cases hy; simp at e; omega))
  replace S1 := Lib.hid (S1.out.kept hk (fun hn y hy hm => by obtain ⟨hn2, u, hu, e⟩ := blkOf_mem hm; have h9 := F2.out hn2 u hu; have h8 := f2.out hn2 u hu; have := f1.out hn y hy; omega))
  replace nW0 := Lib.hid (hk.cell (p := ⟨ww3.heap.size, 0, none⟩) nW0.out (fun hm => by obtain ⟨hn2, u, hu, e⟩ := blkOf_mem hm; have h9 := F2.out hn2 u hu; have h8 := f2.out hn2 u hu; simp at e; omega))
  replace nW1 := Lib.hid (hk.cell (p := ⟨ww3.heap.size, 1, none⟩) nW1.out (fun hm => by obtain ⟨hn2, u, hu, e⟩ := blkOf_mem hm; have h9 := F2.out hn2 u hu; have h8 := f2.out hn2 u hu; simp at e; omega))
  replace nW2 := Lib.hid (hk.cell (p := ⟨ww3.heap.size, 2, none⟩) nW2.out (fun hm => by obtain ⟨hn2, u, hu, e⟩ := blkOf_mem hm; have h9 := F2.out hn2 u hu; have h8 := f2.out hn2 u hu; simp at e; omega))
  replace nX00 := Lib.hid (hk.cell (p := ⟨ww5.heap.size, 0, none⟩) nX00.out (fun hm => by obtain ⟨hn2, u, hu, e⟩ := blkOf_mem hm; have h9 := F2.out hn2 u hu; have h8 := f2.out hn2 u hu; simp at e; omega))
  replace nX01 := Lib.hid (hk.cell (p := ⟨ww5.heap.size, 1, none⟩) nX01.out (fun hm => by obtain ⟨hn2, u, hu, e⟩ := blkOf_mem hm; have h9 := F2.out hn2 u hu; have h8 := f2.out hn2 u hu; simp at e; omega))
  replace nG0 := Lib.hid (hk.cell (p := ⟨ww7.heap.size, 0, none⟩) nG0.out (fun hm => by obtain ⟨hn2, u, hu, e⟩ := blkOf_mem hm; have h9 := F2.out hn2 u hu; have h8 := f2.out hn2 u hu; simp at e; omega))
  replace nG1 := Lib.hid (hk.cell (p := ⟨ww7.heap.size, 1, none⟩) nG1.out (fun hm => by obtain ⟨hn2, u, hu, e⟩ := blkOf_mem hm; have h9 := F2.out hn2 u hu; have h8 := f2.out hn2 u hu; simp at e; omega))
  replace nG2 := Lib.hid (hk.cell (p := ⟨ww7.heap.size, 2, none⟩) nG2.out (fun hm => by obtain ⟨hn2, u, hu, e⟩ := blkOf_mem hm; have h9 := F2.out hn2 u hu; have h8 := f2.out hn2 u hu; simp at e; omega))
  replace KT := Lib.hid (KT.out.trans hk (fun hx0 hx hlt => by obtain ⟨hn2, u, hu, e⟩ := blkOf_mem hx; have h9 := F2.out hn2 u hu; omega))
  clear hk
  have hqn : decide (1 + (zs.length : Int) < 0) = false := decide_eq_false (by omega)
  have hq0 : (0 : Int) ≤ 1 + (zs.length : Int) := by omega
  have tG0 := nG0.out
  have tG1 := nG1.out
  have tG2 := nG2.out
  go_wp2_with fail
  clear tG0 tG1 tG2
  refine (heldBigResult_any _ _ _ _ _ 1 _ SM.out.rd (Nat.le_trans HZ.out (by omega)) (by omega)).mono ?_
  rintro e ww15 ⟨rfl, hk⟩
  have z15 := hk.size
  replace nA0 := kc hk nA0
  replace nA1 := kc hk nA1
  replace HRA := Lib.hid (HRA.out.kept0 hk)
  replace Ss0 := Lib.hid (Ss0.out.kept0 hk)
  replace S1 := Lib.hid (S1.out.kept0 hk)
  replace nW0 := kc hk nW0
  replace nW1 := kc hk nW1
  replace nW2 := kc hk nW2
  replace nX00 := kc hk nX00
  replace nX01 := kc hk nX01
  replace nG0 := kc hk nG0
  replace nG1 := kc hk nG1
  replace nG2 := kc hk nG2
  replace SM := Lib.hid (SM.out.kept0 hk)
  replace KT := Lib.hid (KT.out.trans0 hk)
  clear hk
  have tA0 := nA0.out
  have tA1 := nA1.out
  go_wp2_with fail
  clear tA0 tA1
  refine (toBig_any _ _ _ _ _ _ HRA.out (by omega)).mono ?_
  rintro e ww16 ⟨gy0, rfl, qy0, hb, hk⟩
  rw [HLA.out]
  have ly0 := hb.lt
  have Sy0 := Lib.hid (sl_new hb HLA.out (by omega))
  clear hb
  have z16 := hk.size
  replace nA0 := kc hk nA0
  replace nA1 := kc hk nA1
  replace HRA := Lib.hid (HRA.out.kept0 hk)
  replace Ss0 := Lib.hid (Ss0.out.kept0 hk)
  replace S1 := Lib.hid (S1.out.kept0 hk)
  replace nW0 := kc hk nW0
  replace nW1 := kc hk nW1
  replace nW2 := kc hk nW2
  replace nX00 := kc hk nX00
  replace nX01 := kc hk nX01
  replace nG0 := kc hk nG0
  replace nG1 := kc hk nG1
  replace nG2 := kc hk nG2
  replace SM := Lib.hid (SM.out.kept0 hk)
  replace KT := Lib.hid (KT.out.trans0 hk)
  clear hk
  go_wp2_with fail
  refine (FloorRoot_any _ _ _ _ _ _ Sy0.out).mono ?_
  rintro e ww17 ⟨a4, x4, rfl, hs, hf, hk⟩
  (try rw [← HV.out] at e0)
  (try rw [← HV.out] at e1)
  (try rw [← HV.out] at e2)
  rw [← HV.out] at hs hf
  (try rw [← HV.out])
  (try simp only at e0)
  (try simp only at e1)
  (try simp only at e2)
  simp only at hs hf
  (try simp only)
  have S4 := Lib.hid hs
  have f4 := Lib.hid hs.lt
  have F4 := Lib.hid hf
  clear hs hf
  have z17 := hk.size
  replace nA0 := kc hk nA0
  replace nA1 := kc hk nA1
  replace HRA := Lib.hid (HRA.out.kept0 hk)
  replace Ss0 := Lib.hid (Ss0.out.kept0 hk)
  replace S1 := Lib.hid (S1.out.kept0 hk)
  replace nW0 := kc hk nW0
  replace nW1 := kc hk nW1
  replace nW2 := kc hk nW2
  replace nX00 := kc hk nX00
  replace nX01 := kc hk nX01
  replace nG0 := kc hk nG0
  replace nG1 := kc hk nG1
  replace nG2 := kc hk nG2
  replace SM := Lib.hid (SM.out.kept0 hk)
  replace Sy0 := Lib.hid (Sy0.out.kept0 hk)
  replace KT := Lib.hid (KT.out.trans0 hk)
  clear hk
  have tW0 := alloc_cell (o := .cells #[.int .i64 cv, .bool cn, .slice a4 zs.length x4] 42) nW0.out
  have tW1 := alloc_cell (o := .cells #[.int .i64 cv, .bool cn, .slice a4 zs.length x4] 42) nW1.out
  have tW2 := alloc_cell (o := .cells #[.int .i64 cv, .bool cn, .slice a4 zs.length x4] 42) nW2.out
  go_wp2_with fail
  clear tW0 tW1 tW2
  generalize hW : (ww17.alloc (.cells #[.int .i64 cv, .bool cn, .slice a4 zs.length x4] 42)) = ww18
  have hk : Kept [] ww17 ww18 := by rw [← hW]; exact (Kept.refl [] _).alloc _
  have zzH : ww17.heap.size + 1 = ww18.heap.size := by rw [← hW]; simp
  have nH0 := Lib.hid (show ww18.cell? ⟨ww17.heap.size, 0, none⟩ = some (.int .i64 cv) by rw [← hW, World.cell?_alloc_new]; rfl)
  have nH1 := Lib.hid (show ww18.cell? ⟨ww17.heap.size, 1, none⟩ = some (.bool cn) by rw [← hW, World.cell?_alloc_new]; rfl)
  have nH2 := Lib.hid (show ww18.cell? ⟨ww17.heap.size, 2, none⟩ = some (.slice a4 zs.length x4) by rw [← hW, World.cell?_alloc_new]; rfl)
  clear hW
  have z18 := hk.size
  replace nA0 := kc hk nA0
  replace nA1 := kc hk nA1
  replace HRA := Lib.hid (HRA.out.kept0 hk)
  replace Ss0 := Lib.hid (Ss0.out.kept0 hk)
  replace S1 := Lib.hid (S1.out.kept0 hk)
  replace nW0 := kc hk nW0
  replace nW1 := kc hk nW1
  replace nW2 := kc hk nW2
  replace nX00 := kc hk nX00
  replace nX01 := kc hk nX01
  replace nG0 := kc hk nG0
  replace nG1 := kc hk nG1
  replace nG2 := kc hk nG2
  replace SM := Lib.hid (SM.out.kept0 hk)
  replace Sy0 := Lib.hid (Sy0.out.kept0 hk)
  replace S4 := Lib.hid (S4.out.kept0 hk)
  replace KT := Lib.hid (KT.out.trans0 hk)
  clear hk
  refine (eqBigResult_yes _ _ _ _ _ _ _ _ _ S4.out.rd S1.out.rd).mono ?_
  rintro e ww19 ⟨rfl, hk⟩
  have z19 := hk.size
  replace nA0 := kc hk nA0
  replace nA1 := kc hk nA1
  replace HRA := Lib.hid (HRA.out.kept0 hk)
  replace Ss0 := Lib.hid (Ss0.out.kept0 hk)
  replace S1 := Lib.hid (S1.out.kept0 hk)
  replace nW0 := kc hk nW0
  replace nW1 := kc hk nW1
  replace nW2 := kc hk nW2
  replace nX00 := kc hk nX00
  replace nX01 := kc hk nX01
  replace nG0 := kc hk nG0
  replace nG1 := kc hk nG1
  replace nG2 := kc hk nG2
  replace SM := Lib.hid (SM.out.kept0 hk)
  replace Sy0 := Lib.hid (Sy0.out.kept0 hk)
  replace S4 := Lib.hid (S4.out.kept0 hk)
  replace nH0 := kc hk nH0
  replace nH1 := kc hk nH1
  replace nH2 := kc hk nH2
  replace KT := Lib.hid (KT.out.trans0 hk)
  clear hk
  have tG0 := nG0.out
  have tG1 := nG1.out
  have tG2 := nG2.out
  go_wp2_with fail
  clear tG0 tG1 tG2
  refine (heldBigResult_any _ _ _ _ _ 1 _ SM.out.rd (Nat.le_trans HZ.out (by omega)) (by omega)).mono ?_
  rintro e ww20 ⟨rfl, hk⟩
  have z20 := hk.size
  replace nA0 := kc hk nA0
  replace nA1 := kc hk nA1
  replace HRA := Lib.hid (HRA.out.kept0 hk)
  replace Ss0 := Lib.hid (Ss0.out.kept0 hk)
  replace S1 := Lib.hid (S1.out.kept0 hk)
  replace nW0 := kc hk nW0
  replace nW1 := kc hk nW1
  replace nW2 := kc hk nW2
  replace nX00 := kc hk nX00
  replace nX01 := kc hk nX01
  replace nG0 := kc hk nG0
  replace nG1 := kc hk nG1
  replace nG2 := kc hk nG2
  replace SM := Lib.hid (SM.out.kept0 hk)
  replace Sy0 := Lib.hid (Sy0.out.kept0 hk)
  replace S4 := Lib.hid (S4.out.kept0 hk)
  replace nH0 := kc hk nH0
  replace nH1 := kc hk nH1
  replace nH2 := kc hk nH2
  replace KT := Lib.hid (KT.out.trans0 hk)
  clear hk
  go_wp2_with fail
  go_ret
  exact ⟨rfl, KT.out⟩

end Go.Proofs.Ytgplghjameiciaa
