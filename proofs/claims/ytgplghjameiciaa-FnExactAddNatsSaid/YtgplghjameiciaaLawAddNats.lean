/-
  The walk of the law on AddNats. No condition but that the arguments read as lists of numbers.
-/
import Derived.OpenShut
import Derived.Test.YtgplghjameiciaaJ1
import Derived.Test.YtgplghjameiciaaJ2
namespace Go.Proofs.Ytgplghjameiciaa
open Go.RowKit

set_option maxHeartbeats 2000000 in
theorem FnExactAddNats_walk (a : Option Addr) (n c : Nat) (xs : List Int) (b : Option Addr) (m d : Nat) (ys : List Int) (w : World) (h0 : Rd w a n xs) (h1 : Rd w b m ys) :
    Calls Try.prog 3 #[.slice a n c, .slice b m d] w (Ans w (.bool true)) := by
  have hmax0 := h0.2.1
  have HR0 := Lib.hid h0
  have HL0 := Lib.hid h0.1
  clear h0
  have hmax1 := h1.2.1
  have HR1 := Lib.hid h1
  have HL1 := Lib.hid h1.1
  clear h1
  by_cases hbig0 : 1048576 < n
  · go_enter Try.func3, Try.ntmps3
    go_wp2_with fail
    go_ret
    exact ⟨rfl, Kept.refl _ _⟩
  by_cases hbig1 : 1048576 < m
  · go_enter Try.func3, Try.ntmps3
    go_wp2_with fail
    go_ret
    exact ⟨rfl, Kept.refl _ _⟩
  have hsm0 : n ≤ 1048576 := by omega
  clear hbig0 hmax0
  have hsm1 : m ≤ 1048576 := by omega
  clear hbig1 hmax1
  have HZ := Lib.hid ((fit_len (val xs + val ys) (fault2 xs ys = 0)))
  go_enter Try.func3, Try.ntmps3
  go_wp2_with fail
  refine (toInt64S_any _ _ _ _ _ HR0.out (by omega)).mono ?_
  rintro e w1 ⟨gs0, rfl, qs0, hb, hk⟩
  rw [HL0.out]
  have k1 := Lib.hid (hk)
  have z1 := k1.out.size
  have K1 := Lib.hid k1.out
  have bs0 := Lib.hid hb
  have ls0 := hb.lt
  clear hb hk
  go_wp2_with fail
  refine (toInt64S_any _ _ _ _ _ (HR1.out.kept0 K1.out) (by omega)).mono ?_
  rintro e w2 ⟨gs1, rfl, qs1, hb, hk⟩
  rw [HL1.out]
  have k2 := Lib.hid (hk)
  have z2 := k2.out.size
  have K2 := Lib.hid (K1.out.trans0 k2.out)
  clear K1
  have bs1 := Lib.hid hb
  have ls1 := hb.lt
  clear hb hk
  go_wp2_with fail
  refine (sAddNats_any _ _ _ _ _ _ _ _ _ (rd_new (k2.out.blk bs0.out (by simp)) HL0.out (by omega)) (rd_new bs1.out HL1.out (by omega))).mono ?_
  rintro e w3 ⟨a1, c1, rfl, hs, hf, hk⟩
  have k3 := Lib.hid (hk)
  have z3 := k3.out.size
  have K3 := Lib.hid (K2.out.trans0 k3.out)
  clear K2
  have S1 := Lib.hid hs
  have f1 := Lib.hid hs.lt
  clear hs hf hk
  obtain ⟨v, hv⟩ : ∃ v : Int, v = (if fault2 xs ys = 0 then fitCode (val xs + val ys) else fault2 xs ys) := ⟨_, rfl⟩
  obtain ⟨zs, hz⟩ : ∃ zs : List Int, zs = (if fault2 xs ys = 0 then fitList (val xs + val ys) else []) := ⟨_, rfl⟩
  rw [← hv, ← hz]
  rw [← hz] at S1 f1 HZ
  have HV := Lib.hid hv
  have HZZ := Lib.hid hz
  clear hv hz
  go_wp2_with fail
  have k4 := Lib.hid ((Kept.refl [] w3).alloc (.cells #[.int .i64 v, .slice a1 zs.length c1] 24))
  have z4 := k4.out.size
  simp only [World.size_alloc] at z4
  have K4 := Lib.hid (K3.out.trans0 k4.out)
  clear K3
  have cB1a : Hid ((w3.alloc (.cells #[.int .i64 v, .slice a1 zs.length c1] 24)).cell? ⟨w3.heap.size, 0, none⟩ = some (.int .i64 v)) := by show (w3.alloc (.cells #[.int .i64 v, .slice a1 zs.length c1] 24)).cell? _ = _; simp
  have cB1b : Hid ((w3.alloc (.cells #[.int .i64 v, .slice a1 zs.length c1] 24)).cell? ⟨w3.heap.size, 1, none⟩ = some (.slice a1 zs.length c1)) := by show (w3.alloc (.cells #[.int .i64 v, .slice a1 zs.length c1] 24)).cell? _ = _; simp
  go_wp2_with fail
  refine (toInt64S_any _ _ _ _ _ (HR0.out.kept0 K4.out) (by omega)).mono ?_
  rintro e w4 ⟨gx0, rfl, qx0, hb, hk⟩
  rw [HL0.out]
  simp only [World.size_alloc] at qx0
  have k5 := Lib.hid (hk)
  have z5 := k5.out.size
  simp only [World.size_alloc] at z5
  have K5 := Lib.hid (K4.out.trans0 k5.out)
  clear K4
  have bx0 := Lib.hid hb
  have lx0 := hb.lt
  clear hb hk
  go_wp2_with fail
  refine (toInt64S_any _ _ _ _ _ (HR1.out.kept0 K5.out) (by omega)).mono ?_
  rintro e w5 ⟨gx1, rfl, qx1, hb, hk⟩
  rw [HL1.out]
  have k6 := Lib.hid (hk)
  have z6 := k6.out.size
  have K6 := Lib.hid (K5.out.trans0 k6.out)
  clear K5
  have bx1 := Lib.hid hb
  have lx1 := hb.lt
  clear hb hk
  go_wp2_with fail
  refine (AddNats_any _ _ _ _ _ _ _ _ _ (rd_new (k6.out.blk bx0.out (by simp)) HL0.out (by omega)) (rd_new bx1.out HL1.out (by omega))).mono ?_
  rintro e w6 ⟨a2, c2, rfl, hs, hf, hk⟩
  have k7 := Lib.hid (hk)
  have z7 := k7.out.size
  have K7 := Lib.hid (K6.out.trans0 k7.out)
  clear K6
  rw [← HV.out, ← HZZ.out]
  rw [← HZZ.out] at hs hf
  have S2 := Lib.hid hs
  have f2 := Lib.hid hs.lt
  have F2 := Lib.hid hf
  clear hs hf hk
  have ta := (((k5.out.trans0 k6.out).trans0 k7.out).cell cB1a.out (by simp))
  have tb := (((k5.out.trans0 k6.out).trans0 k7.out).cell cB1b.out (by simp))
  have lB17 : w3.heap.size < w6.heap.size := by omega
  have t1 := ta
  have t2 := tb
  clear ta tb
  go_wp2_with fail
  clear t1 t2
  have k8 := Lib.hid ((Kept.refl [] w6).alloc (.cells #[.int .i64 v, .slice a2 zs.length c2] 24))
  have z8 := k8.out.size
  simp only [World.size_alloc] at z8
  have K8 := Lib.hid (K7.out.trans0 k8.out)
  clear K7
  have cB2a : Hid ((w6.alloc (.cells #[.int .i64 v, .slice a2 zs.length c2] 24)).cell? ⟨w6.heap.size, 0, none⟩ = some (.int .i64 v)) := by show (w6.alloc (.cells #[.int .i64 v, .slice a2 zs.length c2] 24)).cell? _ = _; simp
  have cB2b : Hid ((w6.alloc (.cells #[.int .i64 v, .slice a2 zs.length c2] 24)).cell? ⟨w6.heap.size, 1, none⟩ = some (.slice a2 zs.length c2)) := by show (w6.alloc (.cells #[.int .i64 v, .slice a2 zs.length c2] 24)).cell? _ = _; simp
  refine (eqNatResult_yes _ _ _ _ _ _ _ _ ((S2.out.kept0 k8.out)).rd ((S1.out.kept0 ((((k4.out.trans0 k5.out).trans0 k6.out).trans0 k7.out).trans0 k8.out))).rd).mono ?_
  rintro e w7 ⟨rfl, hk⟩
  have k9 := Lib.hid (hk)
  have z9 := k9.out.size
  simp only [World.size_alloc] at z9
  have K9 := Lib.hid (K8.out.trans0 k9.out)
  clear K8
  clear hk
  go_wp2_with fail
  refine (toInt64S_any _ _ _ _ _ (HR0.out.kept0 K9.out) (by omega)).mono ?_
  rintro e w8 ⟨ge0, rfl, qe0, hb, hk⟩
  rw [HL0.out]
  have k10 := Lib.hid (hk)
  have z10 := k10.out.size
  have K10 := Lib.hid (K9.out.trans0 k10.out)
  clear K9
  have be0 := Lib.hid hb
  have le0 := hb.lt
  clear hb hk
  go_wp2_with fail
  refine (eqInt64S_yes _ _ _ _ _ _ _ (rd_new (((((k6.out.trans0 k7.out).trans0 k8.out).trans0 k9.out).trans0 k10.out).blk bx0.out (by simp)) HL0.out (by omega)) (rd_new be0.out HL0.out (by omega))).mono ?_
  rintro e w9 ⟨rfl, hk⟩
  have k11 := Lib.hid (hk)
  have z11 := k11.out.size
  have K11 := Lib.hid (K10.out.trans0 k11.out)
  clear K10
  clear hk
  go_wp2_with fail
  refine (toInt64S_any _ _ _ _ _ (HR1.out.kept0 K11.out) (by omega)).mono ?_
  rintro e w10 ⟨ge1, rfl, qe1, hb, hk⟩
  rw [HL1.out]
  have k12 := Lib.hid (hk)
  have z12 := k12.out.size
  have K12 := Lib.hid (K11.out.trans0 k12.out)
  clear K11
  have be1 := Lib.hid hb
  have le1 := hb.lt
  clear hb hk
  go_wp2_with fail
  refine (eqInt64S_yes _ _ _ _ _ _ _ (rd_new ((((((k7.out.trans0 k8.out).trans0 k9.out).trans0 k10.out).trans0 k11.out).trans0 k12.out).blk bx1.out (by simp)) HL1.out (by omega)) (rd_new be1.out HL1.out (by omega))).mono ?_
  rintro e w11 ⟨rfl, hk⟩
  have k13 := Lib.hid (hk)
  have z13 := k13.out.size
  have K13 := Lib.hid (K12.out.trans0 k13.out)
  clear K12
  clear hk
  go_wp2_with fail
  refine (markInt64S_any _ _ _ _ (1) _ (sl_new ((((((((k6.out.trans0 k7.out).trans0 k8.out).trans0 k9.out).trans0 k10.out).trans0 k11.out).trans0 k12.out).trans0 k13.out).blk bx0.out (by simp)) HL0.out (by omega)) (by omega) (by omega)).mono ?_
  rintro e w12 ⟨rfl, hs, hk⟩
  clear hs
  have k14 := Lib.hid (hk)
  have z14 := k14.out.size
  have K14 := Lib.hid (K13.out.trans k14.out (fun x hx hlt => by obtain ⟨_, y, hy, rfl⟩ := blkOf_mem hx; cases hy; simp at hlt; omega))
  clear K13
  clear hk
  go_wp2_with fail
  refine (markInt64S_any _ _ _ _ (1 + (n : Int)) _ (sl_new (k14.out.blk (((((((k7.out.trans0 k8.out).trans0 k9.out).trans0 k10.out).trans0 k11.out).trans0 k12.out).trans0 k13.out).blk bx1.out (by simp)) (fun hm => by obtain ⟨_, y, hy, e⟩ := blkOf_mem hm; cases hy; simp at e; omega)) HL1.out (by omega)) (by omega) (by omega)).mono ?_
  rintro e w13 ⟨rfl, hs, hk⟩
  clear hs
  have k15 := Lib.hid (hk)
  have z15 := k15.out.size
  have K15 := Lib.hid (K14.out.trans k15.out (fun x hx hlt => by obtain ⟨_, y, hy, rfl⟩ := blkOf_mem hx; cases hy; simp at hlt; omega))
  clear K14
  clear hk
  have ta := (k15.out.cell (k14.out.cell (((((k9.out.trans0 k10.out).trans0 k11.out).trans0 k12.out).trans0 k13.out).cell cB2a.out (by simp)) (fun hm => by obtain ⟨_, y, hy, e⟩ := blkOf_mem hm; cases hy; simp at e; omega)) (fun hm => by obtain ⟨_, y, hy, e⟩ := blkOf_mem hm; cases hy; simp at e; omega))
  have tb := (k15.out.cell (k14.out.cell (((((k9.out.trans0 k10.out).trans0 k11.out).trans0 k12.out).trans0 k13.out).cell cB2b.out (by simp)) (fun hm => by obtain ⟨_, y, hy, e⟩ := blkOf_mem hm; cases hy; simp at e; omega)) (fun hm => by obtain ⟨_, y, hy, e⟩ := blkOf_mem hm; cases hy; simp at e; omega))
  have lB215 : w6.heap.size < w13.heap.size := by omega
  have t1 := ta
  have t2 := tb
  clear ta tb
  have ta := (k15.out.cell (k14.out.cell (((((((((k5.out.trans0 k6.out).trans0 k7.out).trans0 k8.out).trans0 k9.out).trans0 k10.out).trans0 k11.out).trans0 k12.out).trans0 k13.out).cell cB1a.out (by simp)) (fun hm => by obtain ⟨_, y, hy, e⟩ := blkOf_mem hm; cases hy; simp at e; omega)) (fun hm => by obtain ⟨_, y, hy, e⟩ := blkOf_mem hm; cases hy; simp at e; omega))
  have tb := (k15.out.cell (k14.out.cell (((((((((k5.out.trans0 k6.out).trans0 k7.out).trans0 k8.out).trans0 k9.out).trans0 k10.out).trans0 k11.out).trans0 k12.out).trans0 k13.out).cell cB1b.out (by simp)) (fun hm => by obtain ⟨_, y, hy, e⟩ := blkOf_mem hm; cases hy; simp at e; omega)) (fun hm => by obtain ⟨_, y, hy, e⟩ := blkOf_mem hm; cases hy; simp at e; omega))
  have lB115 : w3.heap.size < w13.heap.size := by omega
  have t3 := ta
  have t4 := tb
  clear ta tb
  have hpos : (0 : Int) ≤ 1 + (n : Int) + (m : Int) := by omega
  have hneg : decide (1 + (n : Int) + (m : Int) < 0) = false := decide_eq_false (by omega)
  go_wp2_with fail
  clear t1 t2 t3 t4
  refine (eqNatResult_yes _ _ _ _ _ _ _ _ ((((S2.out.kept0 (((((k8.out.trans0 k9.out).trans0 k10.out).trans0 k11.out).trans0 k12.out).trans0 k13.out)).kept k14.out (fun hn y hy hm => by obtain ⟨_, u, hu, e⟩ := blkOf_mem hm; cases hu; have := F2.out hn y hy; simp at e; omega)).kept k15.out (fun hn y hy hm => by obtain ⟨_, u, hu, e⟩ := blkOf_mem hm; cases hu; have := F2.out hn y hy; simp at e; omega))).rd ((((S1.out.kept0 (((((((((k4.out.trans0 k5.out).trans0 k6.out).trans0 k7.out).trans0 k8.out).trans0 k9.out).trans0 k10.out).trans0 k11.out).trans0 k12.out).trans0 k13.out)).kept k14.out (fun hn y hy hm => by obtain ⟨_, u, hu, e⟩ := blkOf_mem hm; cases hu; have := f1.out hn y hy; simp at e; omega)).kept k15.out (fun hn y hy hm => by obtain ⟨_, u, hu, e⟩ := blkOf_mem hm; cases hu; have := f1.out hn y hy; simp at e; omega))).rd).mono ?_
  rintro e w14 ⟨rfl, hk⟩
  have k16 := Lib.hid (hk)
  have z16 := k16.out.size
  have K16 := Lib.hid (K15.out.trans0 k16.out)
  clear K15
  clear hk
  have ta := (k16.out.cell (k15.out.cell (k14.out.cell (((((k9.out.trans0 k10.out).trans0 k11.out).trans0 k12.out).trans0 k13.out).cell cB2a.out (by simp)) (fun hm => by obtain ⟨_, y, hy, e⟩ := blkOf_mem hm; cases hy; simp at e; omega)) (fun hm => by obtain ⟨_, y, hy, e⟩ := blkOf_mem hm; cases hy; simp at e; omega)) (by simp))
  have tb := (k16.out.cell (k15.out.cell (k14.out.cell (((((k9.out.trans0 k10.out).trans0 k11.out).trans0 k12.out).trans0 k13.out).cell cB2b.out (by simp)) (fun hm => by obtain ⟨_, y, hy, e⟩ := blkOf_mem hm; cases hy; simp at e; omega)) (fun hm => by obtain ⟨_, y, hy, e⟩ := blkOf_mem hm; cases hy; simp at e; omega)) (by simp))
  have lB216 : w6.heap.size < w14.heap.size := by omega
  go_wp2_with fail
  clear ta tb
  refine (markNatResult_any _ _ _ _ _ 1 _ ((((S2.out.kept0 (((((k8.out.trans0 k9.out).trans0 k10.out).trans0 k11.out).trans0 k12.out).trans0 k13.out)).kept k14.out (fun hn y hy hm => by obtain ⟨_, u, hu, e⟩ := blkOf_mem hm; cases hu; have := F2.out hn y hy; simp at e; omega)).kept k15.out (fun hn y hy hm => by obtain ⟨_, u, hu, e⟩ := blkOf_mem hm; cases hu; have := F2.out hn y hy; simp at e; omega)).kept0 k16.out) HZ.out (by omega)).mono ?_
  rintro e w15 ⟨rfl, hs, hk⟩
  have k17 := Lib.hid (hk)
  have z17 := k17.out.size
  have K17 := Lib.hid (K16.out.trans k17.out (fun x hx hlt => by obtain ⟨hn, y, hy, rfl⟩ := blkOf_mem hx; have h9 := F2.out hn y hy; (try simp only [World.size_alloc] at h9); omega))
  clear K16
  have S3 := Lib.hid hs
  clear hs hk
  have hq0 : (0 : Int) ≤ 1 + (zs.length : Int) := by omega
  have hqn : decide (1 + (zs.length : Int) < 0) = false := decide_eq_false (by omega)
  have ta := (k17.out.cell (k16.out.cell (k15.out.cell (k14.out.cell (((((k9.out.trans0 k10.out).trans0 k11.out).trans0 k12.out).trans0 k13.out).cell cB2a.out (by simp)) (fun hm => by obtain ⟨_, y, hy, e⟩ := blkOf_mem hm; cases hy; simp at e; omega)) (fun hm => by obtain ⟨_, y, hy, e⟩ := blkOf_mem hm; cases hy; simp at e; omega)) (by simp)) (fun hm => by obtain ⟨hn, y, hy, e⟩ := blkOf_mem hm; have := f2.out hn y hy; simp at e; omega))
  have tb := (k17.out.cell (k16.out.cell (k15.out.cell (k14.out.cell (((((k9.out.trans0 k10.out).trans0 k11.out).trans0 k12.out).trans0 k13.out).cell cB2b.out (by simp)) (fun hm => by obtain ⟨_, y, hy, e⟩ := blkOf_mem hm; cases hy; simp at e; omega)) (fun hm => by obtain ⟨_, y, hy, e⟩ := blkOf_mem hm; cases hy; simp at e; omega)) (by simp)) (fun hm => by obtain ⟨hn, y, hy, e⟩ := blkOf_mem hm; have := f2.out hn y hy; simp at e; omega))
  have lB217 : w6.heap.size < w15.heap.size := by omega
  go_wp2_with fail
  clear ta tb
  refine (heldNatResult_any _ _ _ _ 1 _ (S3.out).rd HZ.out (by omega)).mono ?_
  rintro e w16 ⟨rfl, hk⟩
  have k18 := Lib.hid (hk)
  have z18 := k18.out.size
  have K18 := Lib.hid (K17.out.trans0 k18.out)
  clear K17
  clear hk
  go_wp2_with fail
  refine (toInt64S_any _ _ _ _ _ (HR0.out.kept0 K18.out) (by omega)).mono ?_
  rintro e w17 ⟨gy0, rfl, qy0, hb, hk⟩
  rw [HL0.out]
  have k19 := Lib.hid (hk)
  have z19 := k19.out.size
  have K19 := Lib.hid (K18.out.trans0 k19.out)
  clear K18
  have by0 := Lib.hid hb
  have ly0 := hb.lt
  clear hb hk
  go_wp2_with fail
  refine (toInt64S_any _ _ _ _ _ (HR1.out.kept0 K19.out) (by omega)).mono ?_
  rintro e w18 ⟨gy1, rfl, qy1, hb, hk⟩
  rw [HL1.out]
  have k20 := Lib.hid (hk)
  have z20 := k20.out.size
  have K20 := Lib.hid (K19.out.trans0 k20.out)
  clear K19
  have by1 := Lib.hid hb
  have ly1 := hb.lt
  clear hb hk
  go_wp2_with fail
  refine (AddNats_any _ _ _ _ _ _ _ _ _ (rd_new (k20.out.blk by0.out (by simp)) HL0.out (by omega)) (rd_new by1.out HL1.out (by omega))).mono ?_
  rintro e w19 ⟨a4, c4, rfl, hs, hf, hk⟩
  have k21 := Lib.hid (hk)
  have z21 := k21.out.size
  have K21 := Lib.hid (K20.out.trans0 k21.out)
  clear K20
  rw [← HV.out, ← HZZ.out]
  rw [← HZZ.out] at hs hf
  have S4 := Lib.hid hs
  clear hs hf hk
  have ta := ((((k18.out.trans0 k19.out).trans0 k20.out).trans0 k21.out).cell (k17.out.cell (k16.out.cell (k15.out.cell (k14.out.cell (((((((((k5.out.trans0 k6.out).trans0 k7.out).trans0 k8.out).trans0 k9.out).trans0 k10.out).trans0 k11.out).trans0 k12.out).trans0 k13.out).cell cB1a.out (by simp)) (fun hm => by obtain ⟨_, y, hy, e⟩ := blkOf_mem hm; cases hy; simp at e; omega)) (fun hm => by obtain ⟨_, y, hy, e⟩ := blkOf_mem hm; cases hy; simp at e; omega)) (by simp)) (fun hm => by obtain ⟨hn, y, hy, e⟩ := blkOf_mem hm; have h9 := F2.out hn y hy; simp at e; (try simp only [World.size_alloc] at h9); omega)) (by simp))
  have tb := ((((k18.out.trans0 k19.out).trans0 k20.out).trans0 k21.out).cell (k17.out.cell (k16.out.cell (k15.out.cell (k14.out.cell (((((((((k5.out.trans0 k6.out).trans0 k7.out).trans0 k8.out).trans0 k9.out).trans0 k10.out).trans0 k11.out).trans0 k12.out).trans0 k13.out).cell cB1b.out (by simp)) (fun hm => by obtain ⟨_, y, hy, e⟩ := blkOf_mem hm; cases hy; simp at e; omega)) (fun hm => by obtain ⟨_, y, hy, e⟩ := blkOf_mem hm; cases hy; simp at e; omega)) (by simp)) (fun hm => by obtain ⟨hn, y, hy, e⟩ := blkOf_mem hm; have h9 := F2.out hn y hy; simp at e; (try simp only [World.size_alloc] at h9); omega)) (by simp))
  have lB121 : w3.heap.size < w19.heap.size := by omega
  have t1 := ta
  have t2 := tb
  clear ta tb
  go_wp2_with fail
  clear t1 t2
  have k22 := Lib.hid ((Kept.refl [] w19).alloc (.cells #[.int .i64 v, .slice a4 zs.length c4] 24))
  have z22 := k22.out.size
  simp only [World.size_alloc] at z22
  have K22 := Lib.hid (K21.out.trans0 k22.out)
  clear K21
  have cB4a : Hid ((w19.alloc (.cells #[.int .i64 v, .slice a4 zs.length c4] 24)).cell? ⟨w19.heap.size, 0, none⟩ = some (.int .i64 v)) := by show (w19.alloc (.cells #[.int .i64 v, .slice a4 zs.length c4] 24)).cell? _ = _; simp
  have cB4b : Hid ((w19.alloc (.cells #[.int .i64 v, .slice a4 zs.length c4] 24)).cell? ⟨w19.heap.size, 1, none⟩ = some (.slice a4 zs.length c4)) := by show (w19.alloc (.cells #[.int .i64 v, .slice a4 zs.length c4] 24)).cell? _ = _; simp
  refine (eqNatResult_yes _ _ _ _ _ _ _ _ ((S4.out.kept0 k22.out)).rd (((((((S1.out.kept0 (((((((((k4.out.trans0 k5.out).trans0 k6.out).trans0 k7.out).trans0 k8.out).trans0 k9.out).trans0 k10.out).trans0 k11.out).trans0 k12.out).trans0 k13.out)).kept k14.out (fun hn y hy hm => by obtain ⟨_, u, hu, e⟩ := blkOf_mem hm; cases hu; have := f1.out hn y hy; simp at e; omega)).kept k15.out (fun hn y hy hm => by obtain ⟨_, u, hu, e⟩ := blkOf_mem hm; cases hu; have := f1.out hn y hy; simp at e; omega)).kept0 k16.out).kept k17.out (fun hn y hy hm => by obtain ⟨_, u, hu, e⟩ := blkOf_mem hm; have h8 := f1.out hn y hy; have h9 := F2.out hn u hu; (try simp only [World.size_alloc] at h9); omega)).kept0 ((((k18.out.trans0 k19.out).trans0 k20.out).trans0 k21.out).trans0 k22.out))).rd).mono ?_
  rintro e w20 ⟨rfl, hk⟩
  have k23 := Lib.hid (hk)
  have z23 := k23.out.size
  simp only [World.size_alloc] at z23
  have K23 := Lib.hid (K22.out.trans0 k23.out)
  clear K22
  clear hk
  have ta := ((((((k18.out.trans0 k19.out).trans0 k20.out).trans0 k21.out).trans0 k22.out).trans0 k23.out).cell (k17.out.cell (k16.out.cell (k15.out.cell (k14.out.cell (((((k9.out.trans0 k10.out).trans0 k11.out).trans0 k12.out).trans0 k13.out).cell cB2a.out (by simp)) (fun hm => by obtain ⟨_, y, hy, e⟩ := blkOf_mem hm; cases hy; simp at e; omega)) (fun hm => by obtain ⟨_, y, hy, e⟩ := blkOf_mem hm; cases hy; simp at e; omega)) (by simp)) (fun hm => by obtain ⟨hn, y, hy, e⟩ := blkOf_mem hm; have := f2.out hn y hy; simp at e; omega)) (by simp))
  have tb := ((((((k18.out.trans0 k19.out).trans0 k20.out).trans0 k21.out).trans0 k22.out).trans0 k23.out).cell (k17.out.cell (k16.out.cell (k15.out.cell (k14.out.cell (((((k9.out.trans0 k10.out).trans0 k11.out).trans0 k12.out).trans0 k13.out).cell cB2b.out (by simp)) (fun hm => by obtain ⟨_, y, hy, e⟩ := blkOf_mem hm; cases hy; simp at e; omega)) (fun hm => by obtain ⟨_, y, hy, e⟩ := blkOf_mem hm; cases hy; simp at e; omega)) (by simp)) (fun hm => by obtain ⟨hn, y, hy, e⟩ := blkOf_mem hm; have := f2.out hn y hy; simp at e; omega)) (by simp))
  have lB223 : w6.heap.size < w20.heap.size := by omega
  go_wp2_with fail
  clear ta tb
  refine (heldNatResult_any _ _ _ _ 1 _ ((S3.out.kept0 (((((k18.out.trans0 k19.out).trans0 k20.out).trans0 k21.out).trans0 k22.out).trans0 k23.out))).rd HZ.out (by omega)).mono ?_
  rintro e w21 ⟨rfl, hk⟩
  have k24 := Lib.hid (hk)
  have z24 := k24.out.size
  have K24 := Lib.hid (K23.out.trans0 k24.out)
  clear K23
  clear hk
  go_wp2_with fail
  go_ret
  exact ⟨rfl, K24.out⟩

end Go.Proofs.Ytgplghjameiciaa
