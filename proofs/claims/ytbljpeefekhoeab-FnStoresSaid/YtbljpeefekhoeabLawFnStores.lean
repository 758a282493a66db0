/-
  The walk of the law on stores. No condition but that the argument reads as bytes.
-/
import Derived.Deep.RegionHeld3
import Derived.Deep.DrawnRows
import Derived.Deep.DeepCutAuto
import Derived.Test.YtbljpeefekhoeabDrwA
import Derived.Test.YtbljpeefekhoeabDrwY
namespace Go.Proofs.Ytbljpeefekhoeab
open Go.RowKit

theorem field_sr0 (v0 v1 : Value) (w : World) : Sem.run Try.prog (Instr.field 33 (.agg #[v0, v1]) 0) w = .ok v0 w := by kernel_rfl
theorem field_sr1 (v0 v1 : Value) (w : World) : Sem.run Try.prog (Instr.field 33 (.agg #[v0, v1]) 1) w = .ok (.agg #[v1]) w := by kernel_rfl
theorem field_hr0 (v0 v1 v2 : Value) (w : World) : Sem.run Try.prog (Instr.field 39 (.agg #[v0, v1, v2]) 0) w = .ok v0 w := by kernel_rfl
theorem field_hr1 (v0 v1 v2 : Value) (w : World) : Sem.run Try.prog (Instr.field 39 (.agg #[v0, v1, v2]) 1) w = .ok (.agg #[v1, v2]) w := by kernel_rfl
attribute [local go_sem ↓] field_sr0 field_sr1 field_hr0 field_hr1

theorem mkFnStores_1 {w5 w' : World} {bA bB bP bX bD bG bE bF : Nat} {v0 v1 v2 v3 v4 v5 v6 v7 v8 v9 v10 v11 v12 : Value} (c0 : w5.cell? ⟨bA, 0, none⟩ = some v0) (c1 : w5.cell? ⟨bB, 0, none⟩ = some v1) (c2 : w5.cell? ⟨bB, 1, none⟩ = some v2) (c3 : w5.cell? ⟨bP, 0, none⟩ = some v3) (c4 : w5.cell? ⟨bP, 1, none⟩ = some v4) (c5 : w5.cell? ⟨bX, 0, none⟩ = some v5) (c6 : w5.cell? ⟨bD, 0, none⟩ = some v6) (c7 : w5.cell? ⟨bD, 1, none⟩ = some v7) (c8 : w5.cell? ⟨bG, 0, none⟩ = some v8) (c9 : w5.cell? ⟨bG, 1, none⟩ = some v9) (c10 : w5.cell? ⟨bG, 2, none⟩ = some v10) (c11 : w5.cell? ⟨bE, 0, none⟩ = some v11) (c12 : w5.cell? ⟨bF, 0, none⟩ = some v12) (k : Hid (Kept [] w5 w')) : Hid (Kept [] w5 w') ∧ w'.cell? ⟨bA, 0, none⟩ = some v0 ∧ w'.cell? ⟨bB, 0, none⟩ = some v1 ∧ w'.cell? ⟨bB, 1, none⟩ = some v2 ∧ w'.cell? ⟨bP, 0, none⟩ = some v3 ∧ w'.cell? ⟨bP, 1, none⟩ = some v4 ∧ w'.cell? ⟨bX, 0, none⟩ = some v5 ∧ w'.cell? ⟨bD, 0, none⟩ = some v6 ∧ w'.cell? ⟨bD, 1, none⟩ = some v7 ∧ w'.cell? ⟨bG, 0, none⟩ = some v8 ∧ w'.cell? ⟨bG, 1, none⟩ = some v9 ∧ w'.cell? ⟨bG, 2, none⟩ = some v10 ∧ w'.cell? ⟨bE, 0, none⟩ = some v11 ∧ w'.cell? ⟨bF, 0, none⟩ = some v12 := ⟨k, k.out.cell c0 (by simp), k.out.cell c1 (by simp), k.out.cell c2 (by simp), k.out.cell c3 (by simp), k.out.cell c4 (by simp), k.out.cell c5 (by simp), k.out.cell c6 (by simp), k.out.cell c7 (by simp), k.out.cell c8 (by simp), k.out.cell c9 (by simp), k.out.cell c10 (by simp), k.out.cell c11 (by simp), k.out.cell c12 (by simp)⟩
theorem mkFnStores_2 {w5 w' : World} {bX bD bG : Nat} {v0 v1 v2 v3 v4 : Value} (c0 : w5.cell? ⟨bX, 0, none⟩ = some v0) (c1 : w5.cell? ⟨bD, 0, none⟩ = some v1) (c2 : w5.cell? ⟨bD, 1, none⟩ = some v2) (c3 : w5.cell? ⟨bG, 1, none⟩ = some v3) (c4 : w5.cell? ⟨bG, 2, none⟩ = some v4) (k : Hid (Kept [] w5 w')) : Hid (Kept [] w5 w') ∧ w'.cell? ⟨bX, 0, none⟩ = some v0 ∧ w'.cell? ⟨bD, 0, none⟩ = some v1 ∧ w'.cell? ⟨bD, 1, none⟩ = some v2 ∧ w'.cell? ⟨bG, 1, none⟩ = some v3 ∧ w'.cell? ⟨bG, 2, none⟩ = some v4 := ⟨k, k.out.cell c0 (by simp), k.out.cell c1 (by simp), k.out.cell c2 (by simp), k.out.cell c3 (by simp), k.out.cell c4 (by simp)⟩
theorem mkFnStores_3 {w5 w' : World} {bA bP : Nat} {p2 p3 p4 : Addr} {v0 v1 v2 v3 v4 : Value} (c0 : w5.cell? ⟨bA, 0, none⟩ = some v0) (c1 : w5.cell? ⟨bP, 1, none⟩ = some v1) (c2 : w5.cell? p2 = some v2) (c3 : w5.cell? p3 = some v3) (c4 : w5.cell? p4 = some v4) (k : Hid (Kept [] w5 w')) : Hid (Kept [] w5 w') ∧ w'.cell? ⟨bA, 0, none⟩ = some v0 ∧ w'.cell? ⟨bP, 1, none⟩ = some v1 ∧ w'.cell? p2 = some v2 ∧ w'.cell? p3 = some v3 ∧ w'.cell? p4 = some v4 := ⟨k, k.out.cell c0 (by simp), k.out.cell c1 (by simp), k.out.cell c2 (by simp), k.out.cell c3 (by simp), k.out.cell c4 (by simp)⟩
theorem mkFnStores_4 {w5 w' : World} {bP bB : Nat} {v0 v1 v2 : Value} (c0 : w5.cell? ⟨bP, 1, none⟩ = some v0) (c1 : w5.cell? ⟨bB, 0, none⟩ = some v1) (c2 : w5.cell? ⟨bB, 1, none⟩ = some v2) (k : Hid (Kept [] w5 w')) : Hid (Kept [] w5 w') ∧ w'.cell? ⟨bP, 1, none⟩ = some v0 ∧ w'.cell? ⟨bB, 0, none⟩ = some v1 ∧ w'.cell? ⟨bB, 1, none⟩ = some v2 := ⟨k, k.out.cell c0 (by simp), k.out.cell c1 (by simp), k.out.cell c2 (by simp)⟩

set_option maxHeartbeats 40000000 in
set_option maxRecDepth 200000 in
theorem FnStores_walk (a : Option Addr) (n c : Nat) (bs : List Int) (w : World) (h0 : n ≤ 1048576 → Rd8 w a n bs) :
    Calls Try.prog 3 #[.slice a n c] w (Ans w (.bool true)) := by
  by_cases hbig0 : 1048576 < n
  · go_enter Try.func3, Try.ntmps3
    go_wp2_with fail
    refine (lwBig_any _ _ _ _).mono ?_
    rintro e w1 ⟨rfl, rfl⟩
    rw [decide_eq_true (by omega)]
    go_wp2_with fail
    go_ret
    exact ⟨rfl, Kept.refl _ _⟩
  have HR := Lib.hid (h0 (by omega))
  clear h0
  go_enter Try.func3, Try.ntmps3
  go_wp2_with fail
  refine (lwBig_any _ _ _ _).mono ?_
  rintro e w0 ⟨rfl, hw⟩
  subst hw
  rw [decide_eq_false (by omega)]
  have KK := Lib.hid (Kept.refl [] w0)
  go_wp2_with fail
  refine (DrawPutShape_any _ _ _ _ _ (HR.out.kept KK.out (by simp))).mono ?_
  rintro e w1 ⟨b1, m1, d1, L1, l1, k1, p1, q1, f1, x1, rfl, hm1, hd1, hm21, hl1, hr1, hq1, hk⟩
  replace KK := Lib.hid (KK.out.trans0 hk)
  have R1 := Lib.hid ((hd1.rd (by omega)).2.cast hm1)
  have P1 := Lib.hid (hr1)
  clear hk
  have NM1 := Lib.hid (show ∀ i, i < m1 → (L1.getD i sh0).nm.length ≤ 12 by have h7 := hd1.nm; rw [hm1] at h7; exact h7)
  have LM1 := Lib.hid hm1
  clear hm1 hd1 hr1
  obtain ⟨w2, hb⟩ : ∃ w', w' = (w1.alloc (.cells #[.slice b1 m1 d1] 26)).alloc (.cells #[.int .i64 k1, .slice p1 q1 f1] 29) := ⟨_, rfl⟩
  have HB := Lib.hid hb
  clear hb
  have hk : Kept [] w1 w2 := by rw [HB.out]; exact (((Kept.refl [] w1).alloc _).alloc _)
  have XA : Hid (Bx w2 w1.heap.size [.slice b1 m1 d1]) := by
    rw [HB.out]
    have h7 := Bx.new w1 [.slice b1 m1 d1] 26
    exact Lib.hid (h7.kept0 ((Kept.refl [] _).alloc _))
  have XB : Hid (Bx w2 (w1.heap.size + 1) [.int .i64 k1, .slice p1 q1 f1]) := by
    rw [HB.out]
    have h7 := Bx.new (w1.alloc (.cells #[.slice b1 m1 d1] 26)) [.int .i64 k1, .slice p1 q1 f1] 29
    simp only [World.size_alloc] at h7
    exact Lib.hid (h7)
  replace KK := Lib.hid (KK.out.trans0 hk)
  replace R1 := Lib.hid (R1.out.kept0 hk)
  replace P1 := Lib.hid (P1.out.kept0 hk)
  clear hk
  go_upto_region 4 with fail
  rw [← HB.out]
  clear HB
  obtain ⟨pc, hpc⟩ : ∃ v, putC L1 ⟨l1, k1, q1, x1⟩ = v := ⟨_, rfl⟩
  obtain ⟨PL, hPL⟩ : ∃ v, putS L1 ⟨l1, k1, q1, x1⟩ = v := ⟨_, rfl⟩
  obtain ⟨nP, hnP⟩ : ∃ v, PL.length = v := ⟨_, rfl⟩
  have HPC := Lib.hid hpc
  have HPL := Lib.hid hPL
  have HNP := Lib.hid hnP
  clear hpc hPL hnP
  have cA0 := XA.out.at 0 (by simp) (v := .slice b1 m1 d1) rfl
  have cB0 := XB.out.at 0 (by simp) (v := .int .i64 k1) rfl
  have cB1 := XB.out.at 1 (by simp) (v := .slice p1 q1 f1) rfl
  go_wp2_with fail
  refine (PutShape_q R1.out P1.out (by omega) HPC.out HPL.out HNP.out).mono ?_
  rintro e w3 ⟨aP, cP, rfl, hrP, hk⟩
  clear cA0 cB0 cB1
  replace KK := Lib.hid (KK.out.trans0 hk)
  replace R1 := Lib.hid (R1.out.kept0 hk)
  replace P1 := Lib.hid (P1.out.kept0 hk)
  replace XA := Lib.hid (XA.out.kept0 hk)
  replace XB := Lib.hid (XB.out.kept0 hk)
  have RP := Lib.hid (hrP)
  clear hk
  clear hrP
  obtain ⟨w4, hb⟩ : ∃ w', w' = w3.alloc (.cells #[.int .i64 pc, .slice aP nP cP] 33) := ⟨_, rfl⟩
  have HB := Lib.hid hb
  clear hb
  have hk : Kept [] w3 w4 := by rw [HB.out]; exact ((Kept.refl [] w3).alloc _)
  have XP : Hid (Bx w4 w3.heap.size [.int .i64 pc, .slice aP nP cP]) := by
    rw [HB.out]
    have h7 := Bx.new w3 [.int .i64 pc, .slice aP nP cP] 33
    exact Lib.hid (h7)
  replace KK := Lib.hid (KK.out.trans0 hk)
  replace R1 := Lib.hid (R1.out.kept0 hk)
  replace P1 := Lib.hid (P1.out.kept0 hk)
  replace RP := Lib.hid (RP.out.kept0 hk)
  replace XA := Lib.hid (XA.out.kept0 hk)
  replace XB := Lib.hid (XB.out.kept0 hk)
  clear hk
  go_upto_region 5 with fail
  rw [← HB.out]
  clear HB
  go_wp2_with fail
  refine (DrawDropShape_any _ _ _ _ _ (HR.out.kept KK.out (by simp))).mono ?_
  rintro e w5 ⟨b2, m2, d2, L2, l2, rfl, hm2, hd2, hm22, hl2, hk⟩
  replace KK := Lib.hid (KK.out.trans0 hk)
  replace R1 := Lib.hid (R1.out.kept0 hk)
  replace P1 := Lib.hid (P1.out.kept0 hk)
  replace RP := Lib.hid (RP.out.kept0 hk)
  replace XA := Lib.hid (XA.out.kept0 hk)
  replace XB := Lib.hid (XB.out.kept0 hk)
  replace XP := Lib.hid (XP.out.kept0 hk)
  have R2 := Lib.hid ((hd2.rd (by omega)).2.cast hm2)
  clear hk
  have LM2 := Lib.hid hm2
  clear hm2 hd2
  obtain ⟨w6, hb⟩ : ∃ w', w' = w5.alloc (.cells #[.slice b2 m2 d2] 26) := ⟨_, rfl⟩
  have HB := Lib.hid hb
  clear hb
  have hk : Kept [] w5 w6 := by rw [HB.out]; exact ((Kept.refl [] w5).alloc _)
  have XX : Hid (Bx w6 w5.heap.size [.slice b2 m2 d2]) := by
    rw [HB.out]
    have h7 := Bx.new w5 [.slice b2 m2 d2] 26
    exact Lib.hid (h7)
  replace KK := Lib.hid (KK.out.trans0 hk)
  replace R1 := Lib.hid (R1.out.kept0 hk)
  replace P1 := Lib.hid (P1.out.kept0 hk)
  replace RP := Lib.hid (RP.out.kept0 hk)
  replace R2 := Lib.hid (R2.out.kept0 hk)
  replace XA := Lib.hid (XA.out.kept0 hk)
  replace XB := Lib.hid (XB.out.kept0 hk)
  replace XP := Lib.hid (XP.out.kept0 hk)
  clear hk
  go_upto_region 6 with fail
  rw [← HB.out]
  clear HB
  obtain ⟨gc, hgc⟩ : ∃ v, getC L2 l2 = v := ⟨_, rfl⟩
  obtain ⟨DL, hDL⟩ : ∃ v, dropS L2 l2 = v := ⟨_, rfl⟩
  obtain ⟨nD, hnD⟩ : ∃ v, DL.length = v := ⟨_, rfl⟩
  obtain ⟨⟨gm, gk, gn, gx⟩, hgs⟩ : ∃ v, gotS L2 l2 = v := ⟨_, rfl⟩
  have HGC := Lib.hid hgc
  have HDL := Lib.hid hDL
  have HND := Lib.hid hnD
  have HGS := Lib.hid hgs
  clear hgc hDL hnD hgs
  have cX0 := XX.out.at 0 (by simp) (v := .slice b2 m2 d2) rfl
  go_wp2_with fail
  refine (DropShape_q R2.out (by omega) HGC.out HDL.out HND.out).mono ?_
  rintro e w7 ⟨aD, cD, rfl, hrD, hk⟩
  clear cX0
  replace KK := Lib.hid (KK.out.trans0 hk)
  replace R1 := Lib.hid (R1.out.kept0 hk)
  replace P1 := Lib.hid (P1.out.kept0 hk)
  replace RP := Lib.hid (RP.out.kept0 hk)
  replace R2 := Lib.hid (R2.out.kept0 hk)
  replace XA := Lib.hid (XA.out.kept0 hk)
  replace XB := Lib.hid (XB.out.kept0 hk)
  replace XP := Lib.hid (XP.out.kept0 hk)
  replace XX := Lib.hid (XX.out.kept0 hk)
  have RD := Lib.hid (hrD)
  clear hk
  clear hrD
  obtain ⟨w8, hb⟩ : ∃ w', w' = w7.alloc (.cells #[.int .i64 gc, .slice aD nD cD] 33) := ⟨_, rfl⟩
  have HB := Lib.hid hb
  clear hb
  have hk : Kept [] w7 w8 := by rw [HB.out]; exact ((Kept.refl [] w7).alloc _)
  have XD : Hid (Bx w8 w7.heap.size [.int .i64 gc, .slice aD nD cD]) := by
    rw [HB.out]
    have h7 := Bx.new w7 [.int .i64 gc, .slice aD nD cD] 33
    exact Lib.hid (h7)
  replace KK := Lib.hid (KK.out.trans0 hk)
  replace R1 := Lib.hid (R1.out.kept0 hk)
  replace P1 := Lib.hid (P1.out.kept0 hk)
  replace RP := Lib.hid (RP.out.kept0 hk)
  replace R2 := Lib.hid (R2.out.kept0 hk)
  replace RD := Lib.hid (RD.out.kept0 hk)
  replace XA := Lib.hid (XA.out.kept0 hk)
  replace XB := Lib.hid (XB.out.kept0 hk)
  replace XP := Lib.hid (XP.out.kept0 hk)
  replace XX := Lib.hid (XX.out.kept0 hk)
  clear hk
  go_upto_region 7 with fail
  rw [← HB.out]
  clear HB
  have cX0 := XX.out.at 0 (by simp) (v := .slice b2 m2 d2) rfl
  go_wp2_with fail
  refine (GetShape_q R2.out (by omega) HGC.out HGS.out).mono ?_
  rintro e w9 ⟨aG, cG, rfl, hrG, hk⟩
  clear cX0
  replace KK := Lib.hid (KK.out.trans0 hk)
  replace R1 := Lib.hid (R1.out.kept0 hk)
  replace P1 := Lib.hid (P1.out.kept0 hk)
  replace RP := Lib.hid (RP.out.kept0 hk)
  replace R2 := Lib.hid (R2.out.kept0 hk)
  replace RD := Lib.hid (RD.out.kept0 hk)
  replace XA := Lib.hid (XA.out.kept0 hk)
  replace XB := Lib.hid (XB.out.kept0 hk)
  replace XP := Lib.hid (XP.out.kept0 hk)
  replace XX := Lib.hid (XX.out.kept0 hk)
  replace XD := Lib.hid (XD.out.kept0 hk)
  have RG := Lib.hid (hrG)
  clear hk
  clear hrG
  obtain ⟨w10, hb⟩ : ∃ w', w' = w9.alloc (.cells #[.int .i64 gc, .int .i64 gk, .slice aG gn cG] 39) := ⟨_, rfl⟩
  have HB := Lib.hid hb
  clear hb
  have hk : Kept [] w9 w10 := by rw [HB.out]; exact ((Kept.refl [] w9).alloc _)
  have XG : Hid (Bx w10 w9.heap.size [.int .i64 gc, .int .i64 gk, .slice aG gn cG]) := by
    rw [HB.out]
    have h7 := Bx.new w9 [.int .i64 gc, .int .i64 gk, .slice aG gn cG] 39
    exact Lib.hid (h7)
  replace KK := Lib.hid (KK.out.trans0 hk)
  replace R1 := Lib.hid (R1.out.kept0 hk)
  replace P1 := Lib.hid (P1.out.kept0 hk)
  replace RP := Lib.hid (RP.out.kept0 hk)
  replace R2 := Lib.hid (R2.out.kept0 hk)
  replace RD := Lib.hid (RD.out.kept0 hk)
  replace RG := Lib.hid (RG.out.kept0 hk)
  replace XA := Lib.hid (XA.out.kept0 hk)
  replace XB := Lib.hid (XB.out.kept0 hk)
  replace XP := Lib.hid (XP.out.kept0 hk)
  replace XX := Lib.hid (XX.out.kept0 hk)
  replace XD := Lib.hid (XD.out.kept0 hk)
  clear hk
  go_upto_region 8 with fail
  rw [← HB.out]
  clear HB
  go_wp2_with fail
  refine (DrawSameStores_any _ _ _ _ _ (HR.out.kept KK.out (by simp))).mono ?_
  rintro e w11 ⟨b3, m3, d3, L3, b4, m4, d4, L4, rfl, hr3, hr4, hk⟩
  replace KK := Lib.hid (KK.out.trans0 hk)
  replace R1 := Lib.hid (R1.out.kept0 hk)
  replace P1 := Lib.hid (P1.out.kept0 hk)
  replace RP := Lib.hid (RP.out.kept0 hk)
  replace R2 := Lib.hid (R2.out.kept0 hk)
  replace RD := Lib.hid (RD.out.kept0 hk)
  replace RG := Lib.hid (RG.out.kept0 hk)
  replace XA := Lib.hid (XA.out.kept0 hk)
  replace XB := Lib.hid (XB.out.kept0 hk)
  replace XP := Lib.hid (XP.out.kept0 hk)
  replace XX := Lib.hid (XX.out.kept0 hk)
  replace XD := Lib.hid (XD.out.kept0 hk)
  replace XG := Lib.hid (XG.out.kept0 hk)
  have R3 := Lib.hid (hr3)
  have R4 := Lib.hid (hr4)
  clear hk
  clear hr3 hr4
  obtain ⟨w12, hb⟩ : ∃ w', w' = (w11.alloc (.cells #[.slice b3 m3 d3] 26)).alloc (.cells #[.slice b4 m4 d4] 26) := ⟨_, rfl⟩
  have HB := Lib.hid hb
  clear hb
  have hk : Kept [] w11 w12 := by rw [HB.out]; exact (((Kept.refl [] w11).alloc _).alloc _)
  have XE : Hid (Bx w12 w11.heap.size [.slice b3 m3 d3]) := by
    rw [HB.out]
    have h7 := Bx.new w11 [.slice b3 m3 d3] 26
    exact Lib.hid (h7.kept0 ((Kept.refl [] _).alloc _))
  have XF : Hid (Bx w12 (w11.heap.size + 1) [.slice b4 m4 d4]) := by
    rw [HB.out]
    have h7 := Bx.new (w11.alloc (.cells #[.slice b3 m3 d3] 26)) [.slice b4 m4 d4] 26
    simp only [World.size_alloc] at h7
    exact Lib.hid (h7)
  replace KK := Lib.hid (KK.out.trans0 hk)
  replace R1 := Lib.hid (R1.out.kept0 hk)
  replace P1 := Lib.hid (P1.out.kept0 hk)
  replace RP := Lib.hid (RP.out.kept0 hk)
  replace R2 := Lib.hid (R2.out.kept0 hk)
  replace RD := Lib.hid (RD.out.kept0 hk)
  replace RG := Lib.hid (RG.out.kept0 hk)
  replace R3 := Lib.hid (R3.out.kept0 hk)
  replace R4 := Lib.hid (R4.out.kept0 hk)
  replace XA := Lib.hid (XA.out.kept0 hk)
  replace XB := Lib.hid (XB.out.kept0 hk)
  replace XP := Lib.hid (XP.out.kept0 hk)
  replace XX := Lib.hid (XX.out.kept0 hk)
  replace XD := Lib.hid (XD.out.kept0 hk)
  replace XG := Lib.hid (XG.out.kept0 hk)
  clear hk
  go_upto_region 9 with fail
  rw [← HB.out]
  clear HB
  go_wp2_with fail
  refine (DrawIsName_any _ _ _ _ _ (HR.out.kept KK.out (by simp))).mono ?_
  rintro e w13 ⟨l3, rfl, hl3, hk⟩
  replace KK := Lib.hid (KK.out.trans0 hk)
  replace R1 := Lib.hid (R1.out.kept0 hk)
  replace P1 := Lib.hid (P1.out.kept0 hk)
  replace RP := Lib.hid (RP.out.kept0 hk)
  replace R2 := Lib.hid (R2.out.kept0 hk)
  replace RD := Lib.hid (RD.out.kept0 hk)
  replace RG := Lib.hid (RG.out.kept0 hk)
  replace R3 := Lib.hid (R3.out.kept0 hk)
  replace R4 := Lib.hid (R4.out.kept0 hk)
  replace XA := Lib.hid (XA.out.kept0 hk)
  replace XB := Lib.hid (XB.out.kept0 hk)
  replace XP := Lib.hid (XP.out.kept0 hk)
  replace XX := Lib.hid (XX.out.kept0 hk)
  replace XD := Lib.hid (XD.out.kept0 hk)
  replace XG := Lib.hid (XG.out.kept0 hk)
  replace XE := Lib.hid (XE.out.kept0 hk)
  replace XF := Lib.hid (XF.out.kept0 hk)
  clear hk
  obtain ⟨sb, hsb⟩ : ∃ v, sameSto L3 L4 = v := ⟨_, rfl⟩
  obtain ⟨sf, hsf⟩ : ∃ v, storeC L1 = v := ⟨_, rfl⟩
  obtain ⟨iw, hiw⟩ : ∃ v, isNm l3 = v := ⟨_, rfl⟩
  have HSB := Lib.hid hsb
  have HSF := Lib.hid hsf
  have HIW := Lib.hid hiw
  have HPP := Lib.hid (sameSto_refl PL)
  clear hsb hsf hiw
  go_upto_region 10 with fail
  go_cut [112] (fun v wx => v = .bool false ∧ Hid (Kept [] w13 wx))
  case first =>
    as_aux_lemma =>
      try dsimp only [List.append]
      have cA0 := XA.out.at 0 (by simp) (v := .slice b1 m1 d1) rfl
      have cB0 := XB.out.at 0 (by simp) (v := .int .i64 k1) rfl
      have cB1 := XB.out.at 1 (by simp) (v := .slice p1 q1 f1) rfl
      have cP0 := XP.out.at 0 (by simp) (v := .int .i64 pc) rfl
      have cP1 := XP.out.at 1 (by simp) (v := .slice aP nP cP) rfl
      have cX0 := XX.out.at 0 (by simp) (v := .slice b2 m2 d2) rfl
      have cD0 := XD.out.at 0 (by simp) (v := .int .i64 gc) rfl
      have cD1 := XD.out.at 1 (by simp) (v := .slice aD nD cD) rfl
      have cG0 := XG.out.at 0 (by simp) (v := .int .i64 gc) rfl
      have cG1 := XG.out.at 1 (by simp) (v := .int .i64 gk) rfl
      have cG2 := XG.out.at 2 (by simp) (v := .slice aG gn cG) rfl
      have cE0 := XE.out.at 0 (by simp) (v := .slice b3 m3 d3) rfl
      have cF0 := XF.out.at 0 (by simp) (v := .slice b4 m4 d4) rfl
      go_region_held3 (fun w' => Hid (Kept [] w13 w') ∧ w'.cell? ⟨w1.heap.size, 0, none⟩ = some (.slice b1 m1 d1) ∧ w'.cell? ⟨(w1.heap.size + 1), 0, none⟩ = some (.int .i64 k1) ∧ w'.cell? ⟨(w1.heap.size + 1), 1, none⟩ = some (.slice p1 q1 f1) ∧ w'.cell? ⟨w3.heap.size, 0, none⟩ = some (.int .i64 pc) ∧ w'.cell? ⟨w3.heap.size, 1, none⟩ = some (.slice aP nP cP) ∧ w'.cell? ⟨w5.heap.size, 0, none⟩ = some (.slice b2 m2 d2) ∧ w'.cell? ⟨w7.heap.size, 0, none⟩ = some (.int .i64 gc) ∧ w'.cell? ⟨w7.heap.size, 1, none⟩ = some (.slice aD nD cD) ∧ w'.cell? ⟨w9.heap.size, 0, none⟩ = some (.int .i64 gc) ∧ w'.cell? ⟨w9.heap.size, 1, none⟩ = some (.int .i64 gk) ∧ w'.cell? ⟨w9.heap.size, 2, none⟩ = some (.slice aG gn cG) ∧ w'.cell? ⟨w11.heap.size, 0, none⟩ = some (.slice b3 m3 d3) ∧ w'.cell? ⟨(w11.heap.size + 1), 0, none⟩ = some (.slice b4 m4 d4))
        (as_aux_lemma => with_reducible first | assumption | exact mkFnStores_1 cA0 cB0 cB1 cP0 cP1 cX0 cD0 cD1 cG0 cG1 cG2 cE0 cF0 (by with_reducible first | assumption | exact Lib.hid ((Kept.refl _ _).drew) | exact Kept.allocD (by assumption) | exact Kept.alloc1 (by assumption) | exact Lib.hid (Kept.trans0 (Hid.out (by assumption)) (by assumption))))
        (first
          | (go_at_call 12; go_split_ands; refine (sPutShape_q (R1.out.kept0 (Hid.out (by assumption))) (P1.out.kept0 (Hid.out (by assumption))) (by omega) HPC.out HPL.out HNP.out).mono ?_; rintro e v1 ⟨a1, c1, rfl, hs1, j1⟩)
          | (go_at_call 13; go_split_ands; refine (SameStores_q (by with_reducible first | exact RP.out.kept0 (Hid.out (by assumption)) | exact R3.out.kept0 (Hid.out (by assumption))) (by with_reducible first | exact hs1 | exact R4.out.kept0 (Hid.out (by assumption))) (by with_reducible first | exact HPP.out | exact HSB.out)).mono ?_; rintro e v2 ⟨rfl, j2⟩)
          | (go_at_call 14; go_split_ands; refine (sDropShape_q (R2.out.kept0 (Hid.out (by assumption))) HGC.out HDL.out HND.out).mono ?_; rintro e v3 ⟨a3, c3, rfl, hs3, j3⟩)
          | (go_at_call 16; go_split_ands; refine (sGetShape_q (R2.out.kept0 (Hid.out (by assumption))) HGC.out HGS.out).mono ?_; rintro e v4 ⟨a4, c4, rfl, hs4, j4⟩)
          | (go_at_call 15; go_split_ands; refine (SameShapes_q (RG.out.kept0 (Hid.out (by assumption))) hs4).mono ?_; rintro e v5 ⟨rfl, j5⟩)
          | (go_at_call 17; go_split_ands; refine (sSameStores_q (R3.out.kept0 (Hid.out (by assumption))) (R4.out.kept0 (Hid.out (by assumption))) HSB.out).mono ?_; rintro e v6 ⟨rfl, j6⟩)
          | (go_at_call 18; go_split_ands; refine (StoreFault_q (R1.out.kept0 (Hid.out (by assumption))) HSF.out).mono ?_; rintro e v7 ⟨rfl, j7⟩)
          | (go_at_call 19; go_split_ands; refine (sStoreFault_q (R1.out.kept0 (Hid.out (by assumption))) HSF.out).mono ?_; rintro e v8 ⟨rfl, j8⟩)
          | (go_at_call 20; go_split_ands; refine (IsName_q (by omega) HIW.out).mono ?_; rintro e v9 ⟨rfl, j9⟩)
          | (go_at_call 21; go_split_ands; refine (sIsName_q (by omega) HIW.out).mono ?_; rintro e v10 ⟨rfl, j10⟩))
      rename_i hH
      go_wp2_with fail
      go_meet
      exact ⟨rfl, Lib.hid hH.1.out⟩
  case rest =>
    as_aux_lemma =>
      obtain ⟨rfl, hk0⟩ := hcut
      obtain ⟨w14, hw9⟩ : ∃ w' : World, w' = wc := ⟨_, rfl⟩
      subst hw9
      have hk := hk0.out
      clear hk0
      replace KK := Lib.hid (KK.out.trans0 hk)
      replace R1 := Lib.hid (R1.out.kept0 hk)
      replace P1 := Lib.hid (P1.out.kept0 hk)
      replace RP := Lib.hid (RP.out.kept0 hk)
      replace R2 := Lib.hid (R2.out.kept0 hk)
      replace RD := Lib.hid (RD.out.kept0 hk)
      replace RG := Lib.hid (RG.out.kept0 hk)
      replace R3 := Lib.hid (R3.out.kept0 hk)
      replace R4 := Lib.hid (R4.out.kept0 hk)
      replace XA := Lib.hid (XA.out.kept0 hk)
      replace XB := Lib.hid (XB.out.kept0 hk)
      replace XP := Lib.hid (XP.out.kept0 hk)
      replace XX := Lib.hid (XX.out.kept0 hk)
      replace XD := Lib.hid (XD.out.kept0 hk)
      replace XG := Lib.hid (XG.out.kept0 hk)
      replace XE := Lib.hid (XE.out.kept0 hk)
      replace XF := Lib.hid (XF.out.kept0 hk)
      clear hk
      go_upto_region 12 with fail
      go_cut [152] (fun v wx => v = .bool false ∧ Hid (Kept [] w14 wx))
      case first =>
        as_aux_lemma =>
          by_cases h0 : gc = 0
          · subst h0
            have hf := dropS_facts HGC.out
            obtain ⟨hf1, hf2, hf3, hf4, hf5, hf6, hf7⟩ := hf
            have hgm : gm = l2 := by have h7 := (get_ok HGC.out).2.2.2; rw [HGS.out] at h7; exact h7
            subst hgm
            rw [HGS.out] at hf5 hf6
            rw [← hf1, HDL.out] at hf2 hf3 hf4 hf5 hf6
            have hm9 : nD + 1 = m2 := by rw [← HND.out, ← LM2.out]; exact hf4
            have G1 := Lib.hid hf2
            have G2 := Lib.hid hf3
            have G4 := Lib.hid hf5
            have G5 := Lib.hid hf6
            have G7 := Lib.hid (sameSto_refl L2)
            have G8 : Hid (gotS DL gm = ⟨[], 0, 0, []⟩) := by show _ = _; unfold gotS; rw [if_neg (by rw [G1.out]; decide)]; rfl
            have ew9 : IntKind.i64.wrap ((m2 : Int) - 1) = (nD : Int) := by rw [show (m2 : Int) - 1 = (nD : Int) by omega]; exact IntWalk.i64_in _ (by omega)
            clear hf1 hf2 hf3 hf4 hf5 hf6 hf7 hm9
            have cX0 := XX.out.at 0 (by simp) (v := .slice b2 m2 d2) rfl
            have cD0 := XD.out.at 0 (by simp) (v := .int .i64 0) rfl
            have cD1 := XD.out.at 1 (by simp) (v := .slice aD nD cD) rfl
            have cG1 := XG.out.at 1 (by simp) (v := .int .i64 gk) rfl
            have cG2 := XG.out.at 2 (by simp) (v := .slice aG gn cG) rfl
            go_region_held3 (fun w' => Hid (Kept [] w14 w') ∧ w'.cell? ⟨w5.heap.size, 0, none⟩ = some (.slice b2 m2 d2) ∧ w'.cell? ⟨w7.heap.size, 0, none⟩ = some (.int .i64 0) ∧ w'.cell? ⟨w7.heap.size, 1, none⟩ = some (.slice aD nD cD) ∧ w'.cell? ⟨w9.heap.size, 1, none⟩ = some (.int .i64 gk) ∧ w'.cell? ⟨w9.heap.size, 2, none⟩ = some (.slice aG gn cG))
              (as_aux_lemma => with_reducible first | assumption | exact mkFnStores_2 cX0 cD0 cD1 cG1 cG2 (by with_reducible first | assumption | exact Lib.hid ((Kept.refl _ _).drew) | exact Kept.allocD (by assumption) | exact Kept.alloc1 (by assumption) | exact Lib.hid (Kept.trans0 (Hid.out (by assumption)) (by assumption))))
              (first
                | (go_at_call 9; go_split_ands; refine (GetShape_q (RD.out.kept0 (Hid.out (by assumption))) (by omega) G1.out G8.out).mono ?_; rintro e v1 ⟨a1, c1, rfl, hs1, j1⟩)
                | (go_at_call 18; go_split_ands; refine (StoreFault_q (RD.out.kept0 (Hid.out (by assumption))) G2.out).mono ?_; rintro e v2 ⟨rfl, j2⟩)
                | (go_at_call 6; go_split_ands; refine (PutShape_q (RD.out.kept0 (Hid.out (by assumption))) (RG.out.kept0 (Hid.out (by assumption))) (by omega) G4.out G5.out LM2.out).mono ?_; rintro e v3 ⟨a3, c3, rfl, hs3, j3⟩)
                | (go_at_call 13; go_split_ands; refine (SameStores_q hs3 (R2.out.kept0 (Hid.out (by assumption))) G7.out).mono ?_; rintro e v4 ⟨rfl, j4⟩))
            rename_i hH
            go_wp2_with fail
            go_meet
            exact ⟨rfl, Lib.hid hH.1.out⟩
          · have z1 : (gc == 0) = false := beq_eq_false_iff_ne.2 h0
            have z2 : decide (gc = 0) = false := decide_eq_false h0
            have cD0 := XD.out.at 0 (by simp) (v := .int .i64 gc) rfl
            go_quiet (fail)
            go_wp2_with fail
            go_meet
            exact ⟨rfl, Lib.hid ((Kept.refl [] _).drewN _)⟩
      case rest =>
        as_aux_lemma =>
          obtain ⟨rfl, hk0⟩ := hcut
          obtain ⟨w15, hw9⟩ : ∃ w' : World, w' = wc := ⟨_, rfl⟩
          subst hw9
          have hk := hk0.out
          clear hk0
          replace KK := Lib.hid (KK.out.trans0 hk)
          replace R1 := Lib.hid (R1.out.kept0 hk)
          replace P1 := Lib.hid (P1.out.kept0 hk)
          replace RP := Lib.hid (RP.out.kept0 hk)
          replace R2 := Lib.hid (R2.out.kept0 hk)
          replace RD := Lib.hid (RD.out.kept0 hk)
          replace RG := Lib.hid (RG.out.kept0 hk)
          replace R3 := Lib.hid (R3.out.kept0 hk)
          replace R4 := Lib.hid (R4.out.kept0 hk)
          replace XA := Lib.hid (XA.out.kept0 hk)
          replace XB := Lib.hid (XB.out.kept0 hk)
          replace XP := Lib.hid (XP.out.kept0 hk)
          replace XX := Lib.hid (XX.out.kept0 hk)
          replace XD := Lib.hid (XD.out.kept0 hk)
          replace XG := Lib.hid (XG.out.kept0 hk)
          replace XE := Lib.hid (XE.out.kept0 hk)
          replace XF := Lib.hid (XF.out.kept0 hk)
          clear hk
          by_cases hp0 : pc = 0
          rotate_left 1
          · have z1 : (pc == 0) = false := beq_eq_false_iff_ne.2 hp0
            have hn0 : nP = 0 := by rw [← HNP.out, ← HPL.out, putS_no (by rw [HPC.out]; exact hp0)]; rfl
            subst hn0
            have cP0 := XP.out.at 0 (by simp) (v := .int .i64 pc) rfl
            have cP1 := XP.out.at 1 (by simp) (v := .slice aP 0 cP) rfl
            go_wp2_with fail
            go_ret
            exact ⟨rfl, KK.out⟩
          subst hp0
          obtain ⟨hq1', hq2, hq3, hq4, hq5⟩ := putC_ok HPC.out
          have hself := put_self HPC.out
          rw [← hq4, HPL.out] at hself
          rw [← hq4, HPL.out] at hq5
          have Q5 := Lib.hid hq5
          have QS := Lib.hid hself
          have QO := Lib.hid (fun t (ht : t ∈ L1) (hne : t.nm ≠ l1) => (show gotS PL t.nm = t by have h7 := put_other HPC.out ht hne; rw [← hq4, HPL.out] at h7; exact h7))
          have QC := Lib.hid (fun t (ht : t ∈ L1) (hne : t.nm ≠ l1) => (show getC PL t.nm = 0 by have h7 := (got_mem Q5.out (t := t) (by rw [← HPL.out, hq4]; exact insS_mem.2 (.inr (drop_mem.2 ⟨ht, hne⟩)))).1; exact h7))
          clear hq1' hq2 hq3 hq4 hq5 hself
          have cP0 := XP.out.at 0 (by simp) (v := .int .i64 0) rfl
          go_wp2_with fail
          go_loopw [14] (fun i wr => ∃ k : Nat, k ≤ m1 ∧ i = .int .i64 k ∧ Hid (Kept [] w15 wr)) (fun i _ => m1 - (intOf i).toNat)
          case atStart => exact ⟨0, Nat.zero_le _, rfl, Kept.refl _ _⟩
          case round =>
            as_aux_lemma =>
            obtain ⟨k, hk, rfl, hK⟩ := hrel
            have XA := Lib.hid (XA.out.kept0 hK.out)
            have XP := Lib.hid (XP.out.kept0 hK.out)
            have XB := Lib.hid (XB.out.kept0 hK.out)
            have RP := Lib.hid (RP.out.kept0 hK.out)
            have P1 := Lib.hid (P1.out.kept0 hK.out)
            have KR := Lib.hid (KK.out.trans0 hK.out)
            by_cases hlt : k < m1
            · obtain ⟨gq, off, ep, ec, rfl, hc0, hc1, hc2, hrd, hl⟩ := (R1.out.kept0 hK.out).2.2 k hlt
              have hin : L1.getD k sh0 ∈ L1 := mem_getD.2 ⟨k, by rw [LM1.out]; exact hlt, rfl⟩
              have hnl := NM1.out k hlt
              obtain ⟨⟨en, ek, em, ex⟩, hes⟩ : ∃ s, L1.getD k sh0 = s := ⟨_, rfl⟩
              rw [hes] at hc0 hc1 hc2 hrd hin hnl
              simp only at hc0 hc1 hc2 hrd hnl
              have HE := Lib.hid hrd
              have HIN := Lib.hid hin
              have hlt2 : (k : Int) < (m1 : Int) := by omega
              have ewk : IntKind.i64.wrap ((k : Int) + 1) = (k : Int) + 1 := IntWalk.i64_in _ (by omega)
              clear hrd hl hes hin
              have cA0 := XA.out.at 0 (by simp) (v := .slice (some ⟨gq, off, none⟩) m1 d1) rfl
              by_cases hen : en = l1
              · subst hen
                have hq : ((strB en).toList == (strB en).toList) = true := by rw [same_str]; exact decide_eq_true rfl
                go_upto_region 19 with fail
                go_quiet (fail)
                go_wp2_with fail
                go_roundw
                case rel => exact ⟨k + 1, by omega, by go_num, Lib.hid (hK.out.drewN nq)⟩
                case measure => simp [intOf]; omega
              · have hq : ((strB en).toList == (strB l1).toList) = false := by rw [same_str]; exact decide_eq_false hen
                have HQC := Lib.hid (QC.out _ HIN.out hen)
                have HQO := Lib.hid (QO.out _ HIN.out hen)
                clear hen
                go_wp2_with fail
                clear cA0
                have cA0 := XA.out.at 0 (by simp) (v := .slice (some ⟨gq, off, none⟩) m1 d1) rfl
                have cP1 := XP.out.at 1 (by simp) (v := .slice aP nP cP) rfl
                go_region_held3 (fun w' => Hid (Kept [] wr w') ∧ w'.cell? ⟨w1.heap.size, 0, none⟩ = some (.slice (some ⟨gq, off, none⟩) m1 d1) ∧ w'.cell? ⟨w3.heap.size, 1, none⟩ = some (.slice aP nP cP) ∧ w'.cell? ⟨gq, off + k * 3, none⟩ = some (.string (strB en)) ∧ w'.cell? ⟨gq, off + k * 3 + 1, none⟩ = some (.int .i64 ek) ∧ w'.cell? ⟨gq, off + k * 3 + 2, none⟩ = some (.slice ep em ec))
                  (as_aux_lemma => with_reducible first | assumption | exact mkFnStores_3 cA0 cP1 hc0 hc1 hc2 (by with_reducible first | assumption | exact Lib.hid ((Kept.refl _ _).drew) | exact Kept.allocD (by assumption) | exact Kept.alloc1 (by assumption) | exact Lib.hid (Kept.trans0 (Hid.out (by assumption)) (by assumption))))
                  (first
                    | (go_at_call 9; go_split_ands; refine (GetShape_q (RP.out.kept0 (Hid.out (by assumption))) (by omega) HQC.out HQO.out).mono ?_; rintro e v1 ⟨a1, c1, rfl, hs1, j1⟩)
                    | (go_at_call 15; go_split_ands; refine (SameShapes_q hs1 (HE.out.kept0 (Hid.out (by assumption)))).mono ?_; rintro e v2 ⟨rfl, j2⟩))
                rename_i hH
                go_wp2_with fail
                go_roundw
                case rel => exact ⟨k + 1, by omega, by go_num, Lib.hid (hK.out.trans0 hH.1.out)⟩
                case measure => simp [intOf]; omega
            · have hkm : k = m1 := by omega
              subst hkm
              have cA0 := XA.out.at 0 (by simp) (v := .slice b1 k d1) rfl
              go_wp2_with fail
              clear cA0
              have cP1 := XP.out.at 1 (by simp) (v := .slice aP nP cP) rfl
              have cB0 := XB.out.at 0 (by simp) (v := .int .i64 k1) rfl
              have cB1 := XB.out.at 1 (by simp) (v := .slice p1 q1 f1) rfl
              go_region_held3 (fun w' => Hid (Kept [] wr w') ∧ w'.cell? ⟨w3.heap.size, 1, none⟩ = some (.slice aP nP cP) ∧ w'.cell? ⟨(w1.heap.size + 1), 0, none⟩ = some (.int .i64 k1) ∧ w'.cell? ⟨(w1.heap.size + 1), 1, none⟩ = some (.slice p1 q1 f1))
                (as_aux_lemma => with_reducible first | assumption | exact mkFnStores_4 cP1 cB0 cB1 (by with_reducible first | assumption | exact Lib.hid ((Kept.refl _ _).drew) | exact Kept.allocD (by assumption) | exact Kept.alloc1 (by assumption) | exact Lib.hid (Kept.trans0 (Hid.out (by assumption)) (by assumption))))
                (first
                  | (go_at_call 18; go_split_ands; refine (StoreFault_q (RP.out.kept0 (Hid.out (by assumption))) Q5.out).mono ?_; rintro e v1 ⟨rfl, j1⟩)
                  | (go_at_call 9; go_split_ands; refine (GetShape_q (RP.out.kept0 (Hid.out (by assumption))) (by omega) QS.out.1 QS.out.2).mono ?_; rintro e v2 ⟨a2, c2, rfl, hs2, j2⟩)
                  | (go_at_call 15; go_split_ands; refine (SameShapes_q hs2 (P1.out.kept0 (Hid.out (by assumption)))).mono ?_; rintro e v3 ⟨rfl, j3⟩)
                  | (go_at_call 16; go_split_ands; refine (sGetShape_q (RP.out.kept0 (Hid.out (by assumption))) QS.out.1 QS.out.2).mono ?_; rintro e v4 ⟨a4, c4, rfl, hs4, j4⟩)
                  | (go_at_call 22; go_split_ands; refine (sSameShapes_q hs4 (P1.out.kept0 (Hid.out (by assumption)))).mono ?_; rintro e v5 ⟨rfl, j5⟩))
              rename_i hH
              go_wp2_with fail
              go_ret
              exact ⟨rfl, KR.out.trans0 hH.1.out⟩

end Go.Proofs.Ytbljpeefekhoeab
