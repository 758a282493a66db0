/-
  The walk of the law on shapes. Condition: the argument reads as bytes; the library's table of powers of ten lies as its text lays it.
-/
import Derived.Deep.RegionHeld3
import Derived.Deep.DrawnRows
import Derived.Deep.DeepCutAuto
import Derived.Laws.StructEq
import Derived.Test.YtlhiahhpmjiioadGreatDoorDrwA
import Derived.Test.YtlhiahhpmjiioadGreatDoorDrwH
import Derived.Test.YtlhiahhpmjiioadGreatDoorDrwI
import Derived.Test.YtlhiahhpmjiioadGreatDoorPsQ
namespace Go.Proofs.YtlhiahhpmjiioadGreatDoor
open Go.RowKit

theorem run_txSame (w : World) (c : Int) (s : ByteArray) : (binOp .neq 29 (.agg #[.int .i64 c, .string s]) (.agg #[.int .i64 c, .string s])).run Tryz.prog w = .ok (.bool false) w := by
  rw [run_neq_struct, run_equalIn_agg w 9999 29 _ _ (by kernel_rfl) (by kernel_rfl)]
  simp [Op.eqFields, go_sem]
theorem run_txEq (w : World) (c : Int) (s : ByteArray) : (binOp .eql 29 (.agg #[.int .i64 c, .string s]) (.agg #[.int .i64 c, .string s])).run Tryz.prog w = .ok (.bool true) w := by
  rw [run_eql_struct, run_equalIn_agg w 9999 29 _ _ (by kernel_rfl) (by kernel_rfl)]
  simp [Op.eqFields, go_sem]
theorem field_hr0 (v0 v1 v2 : Value) (w : World) : Sem.run Tryz.prog (Instr.field 33 (.agg #[v0, v1, v2]) 0) w = .ok v0 w := by kernel_rfl
theorem field_hr1 (v0 v1 v2 : Value) (w : World) : Sem.run Tryz.prog (Instr.field 33 (.agg #[v0, v1, v2]) 1) w = .ok (.agg #[v1, v2]) w := by kernel_rfl
attribute [local go_sem ↓] run_txSame run_txEq field_hr0 field_hr1

theorem mkFnShapes_1 {w5 w' : World} {bS bP bR bA bB : Nat} {v0 v1 v2 v3 v4 v5 v6 v7 v8 v9 v10 : Value} (c0 : w5.cell? ⟨bS, 0, none⟩ = some v0) (c1 : w5.cell? ⟨bS, 1, none⟩ = some v1) (c2 : w5.cell? ⟨bP, 0, none⟩ = some v2) (c3 : w5.cell? ⟨bP, 1, none⟩ = some v3) (c4 : w5.cell? ⟨bR, 0, none⟩ = some v4) (c5 : w5.cell? ⟨bR, 1, none⟩ = some v5) (c6 : w5.cell? ⟨bR, 2, none⟩ = some v6) (c7 : w5.cell? ⟨bA, 0, none⟩ = some v7) (c8 : w5.cell? ⟨bA, 1, none⟩ = some v8) (c9 : w5.cell? ⟨bB, 0, none⟩ = some v9) (c10 : w5.cell? ⟨bB, 1, none⟩ = some v10) (k : Hid (Kept [] w5 w')) : Hid (Kept [] w5 w') ∧ w'.cell? ⟨bS, 0, none⟩ = some v0 ∧ w'.cell? ⟨bS, 1, none⟩ = some v1 ∧ w'.cell? ⟨bP, 0, none⟩ = some v2 ∧ w'.cell? ⟨bP, 1, none⟩ = some v3 ∧ w'.cell? ⟨bR, 0, none⟩ = some v4 ∧ w'.cell? ⟨bR, 1, none⟩ = some v5 ∧ w'.cell? ⟨bR, 2, none⟩ = some v6 ∧ w'.cell? ⟨bA, 0, none⟩ = some v7 ∧ w'.cell? ⟨bA, 1, none⟩ = some v8 ∧ w'.cell? ⟨bB, 0, none⟩ = some v9 ∧ w'.cell? ⟨bB, 1, none⟩ = some v10 := ⟨k, k.out.cell c0 (by simp), k.out.cell c1 (by simp), k.out.cell c2 (by simp), k.out.cell c3 (by simp), k.out.cell c4 (by simp), k.out.cell c5 (by simp), k.out.cell c6 (by simp), k.out.cell c7 (by simp), k.out.cell c8 (by simp), k.out.cell c9 (by simp), k.out.cell c10 (by simp)⟩
theorem mkFnShapes_9 {w5 w' : World} {b : Nat} {v0 v1 : Value} (c0 : w5.cell? ⟨b, 0, none⟩ = some v0) (c1 : w5.cell? ⟨b, 1, none⟩ = some v1) (k : Hid (Kept [] w5 w')) : Hid (Kept [] w5 w') ∧ w'.cell? ⟨b, 0, none⟩ = some v0 ∧ w'.cell? ⟨b, 1, none⟩ = some v1 := ⟨k, k.out.cell c0 (by simp), k.out.cell c1 (by simp)⟩

set_option maxHeartbeats 40000000 in
set_option maxRecDepth 200000 in
theorem FnShapes_walk (a : Option Addr) (n c : Nat) (bs : List Int) (w : World) (h0 : n ≤ 1048576 → Rd8 w a n bs) (hp : Pow10 w) :
    Calls Tryz.prog 3 #[.slice a n c] w (Ans w (.bool true)) := by
  by_cases hbig0 : 1048576 < n
  · go_enter Tryz.func3, Tryz.ntmps3
    go_wp2_with fail
    refine (lwBig_any _ _ _ _).mono ?_
    rintro e w1 ⟨rfl, rfl⟩
    rw [decide_eq_true (by omega)]
    go_wp2_with fail
    go_ret
    exact ⟨rfl, Kept.refl _ _⟩
  have HR := Lib.hid (h0 (by omega))
  have HP := Lib.hid hp
  clear h0 hp
  go_enter Tryz.func3, Tryz.ntmps3
  go_wp2_with fail
  refine (lwBig_any _ _ _ _).mono ?_
  rintro e w0 ⟨rfl, hw⟩
  subst hw
  rw [decide_eq_false (by omega)]
  have KK := Lib.hid (Kept.refl [] w0)
  go_wp2_with fail
  refine (DrawPrintShape_any _ _ _ _ _ (HR.out.kept KK.out (by simp))).mono ?_
  rintro e w1 ⟨k1, p1, n1, f1, x1, rfl, hr1, hn1, hk⟩
  replace KK := Lib.hid (KK.out.trans0 hk)
  have R1 := Lib.hid (hr1)
  clear hk
  clear hr1
  obtain ⟨w2, hb⟩ : ∃ w', w' = w1.alloc (.cells #[.int .i64 k1, .slice p1 n1 f1] 26) := ⟨_, rfl⟩
  have HB := Lib.hid hb
  clear hb
  have hk : Kept [] w1 w2 := by rw [HB.out]; exact ((Kept.refl [] w1).alloc _)
  have XS : Hid (Bx w2 w1.heap.size [.int .i64 k1, .slice p1 n1 f1]) := by
    rw [HB.out]
    have h7 := Bx.new w1 [.int .i64 k1, .slice p1 n1 f1] 26
    exact Lib.hid (h7)
  replace KK := Lib.hid (KK.out.trans0 hk)
  replace R1 := Lib.hid (R1.out.kept0 hk)
  clear hk
  go_upto_region 4 with fail
  rw [← HB.out]
  clear HB
  obtain ⟨pc, hpc⟩ : ∃ v, shapeC k1 x1 n1 = v := ⟨_, rfl⟩
  obtain ⟨pt, hpt⟩ : ∃ v, printS k1 x1 n1 = v := ⟨_, rfl⟩
  have HPC := Lib.hid hpc
  have HPT := Lib.hid hpt
  clear hpc hpt
  have cS0 := XS.out.at 0 (by simp) (v := .int .i64 k1) rfl
  have cS1 := XS.out.at 1 (by simp) (v := .slice p1 n1 f1) rfl
  go_wp2_with fail
  refine (PrintShape_q R1.out (HP.out.kept KK.out) HPC.out HPT.out).mono ?_
  rintro e w3 ⟨rfl, hk⟩
  clear cS0 cS1
  replace KK := Lib.hid (KK.out.trans0 hk)
  replace R1 := Lib.hid (R1.out.kept0 hk)
  replace XS := Lib.hid (XS.out.kept0 hk)
  clear hk
  obtain ⟨w4, hb⟩ : ∃ w', w' = w3.alloc (.cells #[.int .i64 pc, .string pt] 29) := ⟨_, rfl⟩
  have HB := Lib.hid hb
  clear hb
  have hk : Kept [] w3 w4 := by rw [HB.out]; exact ((Kept.refl [] w3).alloc _)
  have XP : Hid (Bx w4 w3.heap.size [.int .i64 pc, .string pt]) := by
    rw [HB.out]
    have h7 := Bx.new w3 [.int .i64 pc, .string pt] 29
    exact Lib.hid (h7)
  replace KK := Lib.hid (KK.out.trans0 hk)
  replace R1 := Lib.hid (R1.out.kept0 hk)
  replace XS := Lib.hid (XS.out.kept0 hk)
  clear hk
  go_upto_region 5 with fail
  rw [← HB.out]
  clear HB
  go_wp2_with fail
  refine (DrawParseShape_any _ _ _ _ _ (HR.out.kept KK.out (by simp))).mono ?_
  rintro e w5 ⟨S0, rfl, hs0, hk⟩
  replace KK := Lib.hid (KK.out.trans0 hk)
  replace R1 := Lib.hid (R1.out.kept0 hk)
  replace XS := Lib.hid (XS.out.kept0 hk)
  replace XP := Lib.hid (XP.out.kept0 hk)
  clear hk
  obtain ⟨l, hl⟩ : ∃ l, S0 = strB l := ⟨S0.data.toList, rfl⟩
  subst hl
  rw [strB_size] at hs0
  obtain ⟨rc, hrc⟩ : ∃ v, parC l = v := ⟨_, rfl⟩
  obtain ⟨⟨rk, rp⟩, hrp⟩ : ∃ v, parS l = v := ⟨_, rfl⟩
  obtain ⟨rm, hrm⟩ : ∃ v, rp.length = v := ⟨_, rfl⟩
  obtain ⟨rx, hrx⟩ : ∃ v, flatP rp = v := ⟨_, rfl⟩
  have HRC := Lib.hid hrc
  have HRP := Lib.hid hrp
  have HRM := Lib.hid hrm
  have HRX := Lib.hid hrx
  clear hrc hrp hrm hrx
  go_wp2_with fail
  refine (ParseShape_q (by omega) HRC.out HRP.out HRM.out HRX.out).mono ?_
  rintro e w6 ⟨a2, c2, rfl, hr2, hk⟩
  replace KK := Lib.hid (KK.out.trans0 hk)
  replace R1 := Lib.hid (R1.out.kept0 hk)
  replace XS := Lib.hid (XS.out.kept0 hk)
  replace XP := Lib.hid (XP.out.kept0 hk)
  have R2 := Lib.hid (hr2)
  clear hk
  clear hr2
  obtain ⟨w7, hb⟩ : ∃ w', w' = w6.alloc (.cells #[.int .i64 rc, .int .i64 rk, .slice a2 rm c2] 33) := ⟨_, rfl⟩
  have HB := Lib.hid hb
  clear hb
  have hk : Kept [] w6 w7 := by rw [HB.out]; exact ((Kept.refl [] w6).alloc _)
  have XR : Hid (Bx w7 w6.heap.size [.int .i64 rc, .int .i64 rk, .slice a2 rm c2]) := by
    rw [HB.out]
    have h7 := Bx.new w6 [.int .i64 rc, .int .i64 rk, .slice a2 rm c2] 33
    exact Lib.hid (h7)
  replace KK := Lib.hid (KK.out.trans0 hk)
  replace R1 := Lib.hid (R1.out.kept0 hk)
  replace R2 := Lib.hid (R2.out.kept0 hk)
  replace XS := Lib.hid (XS.out.kept0 hk)
  replace XP := Lib.hid (XP.out.kept0 hk)
  clear hk
  go_upto_region 7 with fail
  rw [← HB.out]
  clear HB
  go_wp2_with fail
  refine (DrawSameShapes_any _ _ _ _ _ (HR.out.kept KK.out (by simp))).mono ?_
  rintro e w8 ⟨k3, p3, n3, f3, x3, k4, p4, n4, f4, x4, rfl, hr3, hr4, hn3, hn4, hk⟩
  replace KK := Lib.hid (KK.out.trans0 hk)
  replace R1 := Lib.hid (R1.out.kept0 hk)
  replace R2 := Lib.hid (R2.out.kept0 hk)
  replace XS := Lib.hid (XS.out.kept0 hk)
  replace XP := Lib.hid (XP.out.kept0 hk)
  replace XR := Lib.hid (XR.out.kept0 hk)
  have R3 := Lib.hid (hr3)
  have R4 := Lib.hid (hr4)
  clear hk
  clear hr3 hr4
  obtain ⟨w9, hb⟩ : ∃ w', w' = (w8.alloc (.cells #[.int .i64 k3, .slice p3 n3 f3] 26)).alloc (.cells #[.int .i64 k4, .slice p4 n4 f4] 26) := ⟨_, rfl⟩
  have HB := Lib.hid hb
  clear hb
  have hk : Kept [] w8 w9 := by rw [HB.out]; exact (((Kept.refl [] w8).alloc _).alloc _)
  have XA : Hid (Bx w9 w8.heap.size [.int .i64 k3, .slice p3 n3 f3]) := by
    rw [HB.out]
    have h7 := Bx.new w8 [.int .i64 k3, .slice p3 n3 f3] 26
    exact Lib.hid (h7.kept0 ((Kept.refl [] _).alloc _))
  have XB : Hid (Bx w9 (w8.heap.size + 1) [.int .i64 k4, .slice p4 n4 f4]) := by
    rw [HB.out]
    have h7 := Bx.new (w8.alloc (.cells #[.int .i64 k3, .slice p3 n3 f3] 26)) [.int .i64 k4, .slice p4 n4 f4] 26
    simp only [World.size_alloc] at h7
    exact Lib.hid (h7)
  replace KK := Lib.hid (KK.out.trans0 hk)
  replace R1 := Lib.hid (R1.out.kept0 hk)
  replace R2 := Lib.hid (R2.out.kept0 hk)
  replace R3 := Lib.hid (R3.out.kept0 hk)
  replace R4 := Lib.hid (R4.out.kept0 hk)
  replace XS := Lib.hid (XS.out.kept0 hk)
  replace XP := Lib.hid (XP.out.kept0 hk)
  replace XR := Lib.hid (XR.out.kept0 hk)
  clear hk
  go_upto_region 8 with fail
  rw [← HB.out]
  clear HB
  obtain ⟨sb, hsb⟩ : ∃ v, sameShp k3 x3 n3 k4 x4 n4 = v := ⟨_, rfl⟩
  have HSB := Lib.hid hsb
  have HSS := Lib.hid (sameShp_self rk rx rm)
  clear hsb
  go_cut [62] (fun v wx => v = .bool false ∧ Hid (Kept [] w9 wx))
  case first =>
    as_aux_lemma =>
      try dsimp only [List.append]
      have cS0 := XS.out.at 0 (by simp) (v := .int .i64 k1) rfl
      have cS1 := XS.out.at 1 (by simp) (v := .slice p1 n1 f1) rfl
      have cP0 := XP.out.at 0 (by simp) (v := .int .i64 pc) rfl
      have cP1 := XP.out.at 1 (by simp) (v := .string pt) rfl
      have cR0 := XR.out.at 0 (by simp) (v := .int .i64 rc) rfl
      have cR1 := XR.out.at 1 (by simp) (v := .int .i64 rk) rfl
      have cR2 := XR.out.at 2 (by simp) (v := .slice a2 rm c2) rfl
      have cA0 := XA.out.at 0 (by simp) (v := .int .i64 k3) rfl
      have cA1 := XA.out.at 1 (by simp) (v := .slice p3 n3 f3) rfl
      have cB0 := XB.out.at 0 (by simp) (v := .int .i64 k4) rfl
      have cB1 := XB.out.at 1 (by simp) (v := .slice p4 n4 f4) rfl
      go_region_held3 (fun w' => Hid (Kept [] w9 w') ∧ w'.cell? ⟨w1.heap.size, 0, none⟩ = some (.int .i64 k1) ∧ w'.cell? ⟨w1.heap.size, 1, none⟩ = some (.slice p1 n1 f1) ∧ w'.cell? ⟨w3.heap.size, 0, none⟩ = some (.int .i64 pc) ∧ w'.cell? ⟨w3.heap.size, 1, none⟩ = some (.string pt) ∧ w'.cell? ⟨w6.heap.size, 0, none⟩ = some (.int .i64 rc) ∧ w'.cell? ⟨w6.heap.size, 1, none⟩ = some (.int .i64 rk) ∧ w'.cell? ⟨w6.heap.size, 2, none⟩ = some (.slice a2 rm c2) ∧ w'.cell? ⟨w8.heap.size, 0, none⟩ = some (.int .i64 k3) ∧ w'.cell? ⟨w8.heap.size, 1, none⟩ = some (.slice p3 n3 f3) ∧ w'.cell? ⟨(w8.heap.size + 1), 0, none⟩ = some (.int .i64 k4) ∧ w'.cell? ⟨(w8.heap.size + 1), 1, none⟩ = some (.slice p4 n4 f4))
        (as_aux_lemma => with_reducible first | assumption | exact mkFnShapes_1 cS0 cS1 cP0 cP1 cR0 cR1 cR2 cA0 cA1 cB0 cB1 (by with_reducible first | assumption | exact Lib.hid ((Kept.refl _ _).drew) | exact Kept.allocD (by assumption) | exact Kept.alloc1 (by assumption) | exact Lib.hid (Kept.trans0 (Hid.out (by assumption)) (by assumption))))
        (first
          | (go_at_call 10; go_split_ands; refine (sPrintShape_q (R1.out.kept0 (Hid.out (by assumption))) HPC.out HPT.out).mono ?_; rintro e v1 ⟨rfl, j1⟩)
          | (go_at_call 11; go_split_ands; refine (sParseShape_q (by omega) HRC.out HRP.out HRM.out HRX.out).mono ?_; rintro e v2 ⟨a9, c9, rfl, hs2, j2⟩)
          | (go_at_call 12; go_split_ands; refine (SameShapes_t (by with_reducible first | exact R2.out.kept0 (Hid.out (by assumption)) | exact R3.out.kept0 (Hid.out (by assumption))) (by with_reducible first | exact hs2 | exact R4.out.kept0 (Hid.out (by assumption))) (by with_reducible first | exact HSS.out | exact HSB.out)).mono ?_; rintro e v3 ⟨rfl, j3⟩)
          | (go_at_call 13; go_split_ands; refine (sSameShapes_t (R3.out.kept0 (Hid.out (by assumption))) (R4.out.kept0 (Hid.out (by assumption))) HSB.out).mono ?_; rintro e v4 ⟨rfl, j4⟩)
          | (go_at_call 14; go_split_ands; refine (ShapeFault_q (R1.out.kept0 (Hid.out (by assumption))) HPC.out).mono ?_; rintro e v5 ⟨rfl, j5⟩)
          | (go_at_call 15; go_split_ands; refine (sShapeFault_q (R1.out.kept0 (Hid.out (by assumption))) HPC.out).mono ?_; rintro e v6 ⟨rfl, j6⟩))
      rename_i hH
      go_wp2_with fail
      go_meet
      exact ⟨rfl, Lib.hid hH.1.out⟩
  case rest =>
    as_aux_lemma =>
      obtain ⟨rfl, hk0⟩ := hcut
      obtain ⟨w10, hw9⟩ : ∃ w' : World, w' = wc := ⟨_, rfl⟩
      subst hw9
      have hk := hk0.out
      clear hk0
      replace KK := Lib.hid (KK.out.trans0 hk)
      replace R1 := Lib.hid (R1.out.kept0 hk)
      replace R2 := Lib.hid (R2.out.kept0 hk)
      replace R3 := Lib.hid (R3.out.kept0 hk)
      replace R4 := Lib.hid (R4.out.kept0 hk)
      replace XS := Lib.hid (XS.out.kept0 hk)
      replace XP := Lib.hid (XP.out.kept0 hk)
      replace XR := Lib.hid (XR.out.kept0 hk)
      replace XA := Lib.hid (XA.out.kept0 hk)
      replace XB := Lib.hid (XB.out.kept0 hk)
      clear hk
      have c0 := XP.out.at 0 (by simp) (v := .int .i64 pc) rfl
      go_upto_if 65 with fail
      clear c0
      go_cut [] (fun wx => Hid (Kept [] w10 wx))
      case first =>
        as_aux_lemma =>
        by_cases hp0 : pc = 0
        · have hpt : pt = strB (printT k1 x1 n1) := by rw [← HPT.out]; exact if_pos (by rw [HPC.out]; exact hp0)
          have hx1 := R1.out.1
          obtain ⟨hb1, hb2⟩ := par_of_print hx1 (show shapeC k1 x1 n1 = 0 by rw [HPC.out]; exact hp0)
          have hlen := (print_back (show shapeC k1 x1 n1 = 0 by rw [HPC.out]; exact hp0)).2
          have hfl := flat_pairs_all hx1
          have hpl := pairsN_len x1 n1
          obtain ⟨tl, htl⟩ : ∃ tl, printT k1 x1 n1 = tl := ⟨_, rfl⟩
          rw [htl] at hpt hb1 hb2 hlen
          subst hpt hp0
          have B1 := Lib.hid hb1
          have B2 := Lib.hid hb2
          have B3 := Lib.hid hfl
          have B4 := Lib.hid hpl
          have B5 := Lib.hid hlen
          have SS := Lib.hid (sameShp_self k1 x1 n1)
          clear hx1 hb1 hb2 hlen hfl hpl htl
          have c0 := XP.out.at 0 (by simp) (v := .int .i64 0) rfl
          have c1 := XP.out.at 1 (by simp) (v := .string (strB tl)) rfl
          go_wp2_with fail
          refine (ParseShape_q (by have := B5.out; omega) B1.out B2.out B4.out B3.out).mono ?_
          rintro e v1 ⟨a9, c9, rfl, hr9, hk9⟩
          obtain ⟨v2, hv2⟩ : ∃ w', w' = v1.alloc (.cells #[.int .i64 0, .int .i64 k1, .slice a9 n1 c9] 33) := ⟨_, rfl⟩
          have HV2 := Lib.hid hv2
          have kv : Kept [] v1 v2 := by rw [hv2]; exact (Kept.refl [] _).alloc _
          have XX : Hid (Bx v2 v1.heap.size [.int .i64 0, .int .i64 k1, .slice a9 n1 c9]) := by
            rw [hv2]; exact Lib.hid (Bx.new v1 [.int .i64 0, .int .i64 k1, .slice a9 n1 c9] 33)
          have K9 := Lib.hid (hk9.trans0 kv)
          have R9 := Lib.hid (hr9.kept0 kv)
          clear hk9 hr9 hv2 kv
          go_upto_region 12 with fail
          rw [← HV2.out]
          clear HV2 c0 c1
          have x0 := XX.out.at 0 (by simp) (v := .int .i64 0) rfl
          have x1 := XX.out.at 1 (by simp) (v := .int .i64 k1) rfl
          have x2 := XX.out.at 2 (by simp) (v := .slice a9 n1 c9) rfl
          have s0 := (XS.out.kept0 K9.out).at 0 (by simp) (v := .int .i64 k1) rfl
          have s1 := (XS.out.kept0 K9.out).at 1 (by simp) (v := .slice p1 n1 f1) rfl
          go_wp2_with fail
          refine (SameShapes_t R9.out (R1.out.kept0 K9.out) SS.out).mono ?_
          rintro e v3 ⟨rfl, j3⟩
          have K3 := Lib.hid (K9.out.trans0 j3)
          have R3' := Lib.hid (R9.out.kept0 j3)
          have e1 := j3.cell x1 (by simp)
          have e2 := j3.cell x2 (by simp)
          have e3 := j3.cell s0 (by simp)
          have e4 := j3.cell s1 (by simp)
          clear j3 x0 x1 x2 s0 s1
          go_wp2_with fail
          refine (sSameShapes_t R3'.out (R1.out.kept0 K3.out) SS.out).mono ?_
          rintro e v4 ⟨rfl, j4⟩
          have K4 := Lib.hid (K3.out.trans0 j4)
          clear j4
          go_wp2_with fail
          go_meet
          exact K4
        · have z1 : (pc == 0) = false := beq_eq_false_iff_ne.2 hp0
          have z2 : decide (pc = 0) = false := decide_eq_false hp0
          go_wp2_with fail
          go_meet
          exact Lib.hid (Kept.refl _ _)
      case rest =>
        as_aux_lemma =>
          obtain ⟨w11, hw9⟩ : ∃ w' : World, w' = wc := ⟨_, rfl⟩
          subst hw9
          have hk := hcut.out
          clear hcut
          replace KK := Lib.hid (KK.out.trans0 hk)
          replace R1 := Lib.hid (R1.out.kept0 hk)
          replace R2 := Lib.hid (R2.out.kept0 hk)
          replace R3 := Lib.hid (R3.out.kept0 hk)
          replace R4 := Lib.hid (R4.out.kept0 hk)
          replace XS := Lib.hid (XS.out.kept0 hk)
          replace XP := Lib.hid (XP.out.kept0 hk)
          replace XR := Lib.hid (XR.out.kept0 hk)
          replace XA := Lib.hid (XA.out.kept0 hk)
          replace XB := Lib.hid (XB.out.kept0 hk)
          clear hk
          have r0 := XR.out.at 0 (by simp) (v := .int .i64 rc) rfl
          have r1 := XR.out.at 1 (by simp) (v := .int .i64 rk) rfl
          have r2 := XR.out.at 2 (by simp) (v := .slice a2 rm c2) rfl
          by_cases hr0 : rc = 0
          rotate_left 1
          · have hm0 : rm = 0 := by have h7 := par_not (l := l) (by rw [HRC.out]; exact hr0); rw [HRP.out] at h7; simp only [Prod.mk.injEq] at h7; rw [← HRM.out, h7.2]; rfl
            subst hm0
            go_wp2_with fail
            go_ret
            exact ⟨rfl, KK.out⟩
          subst hr0
          have hz := par_zero HRC.out
          rw [HRP.out] at hz
          simp only at hz
          rw [HRM.out, HRX.out] at hz
          have hT : printS rk rx rm = strB (printT rk rx rm) := if_pos hz
          have hx2 := R2.out.1
          obtain ⟨hb1, hb2⟩ := par_of_print hx2 hz
          have hlen := (print_back hz).2
          have hfl := flat_pairs_all hx2
          have hpl := pairsN_len rx rm
          obtain ⟨tl, htl⟩ : ∃ tl, printT rk rx rm = tl := ⟨_, rfl⟩
          rw [htl] at hT hb1 hb2 hlen
          have HZ := Lib.hid hz
          have HT := Lib.hid hT
          have B1 := Lib.hid hb1
          have B2 := Lib.hid hb2
          have B3 := Lib.hid hfl
          have B4 := Lib.hid hpl
          have B5 := Lib.hid hlen
          clear hz hT hx2 hb1 hb2 hfl hpl htl
          go_wp2_with fail
          refine (PrintShape_q R2.out (HP.out.kept KK.out) HZ.out HT.out).mono ?_
          rintro e v1 ⟨rfl, hk9⟩
          obtain ⟨v2, hv2⟩ : ∃ w', w' = v1.alloc (.cells #[.int .i64 0, .string (strB tl)] 29) := ⟨_, rfl⟩
          have HV2 := Lib.hid hv2
          have kv : Kept [] v1 v2 := by rw [hv2]; exact (Kept.refl [] _).alloc _
          have XX : Hid (Bx v2 v1.heap.size [.int .i64 0, .string (strB tl)]) := by
            rw [hv2]; exact Lib.hid (Bx.new v1 [.int .i64 0, .string (strB tl)] 29)
          have K9 := Lib.hid (hk9.trans0 kv)
          have HP9 := Lib.hid (HP.out.kept (KK.out.trans0 K9.out))
          have K99 := Lib.hid (KK.out.trans0 K9.out)
          clear hk9 hv2 kv
          go_upto_region 17 with fail
          rw [← HV2.out]
          clear HV2 r0 r1 r2
          have x0 := XX.out.at 0 (by simp) (v := .int .i64 0) rfl
          have x1 := XX.out.at 1 (by simp) (v := .string (strB tl)) rfl
          have hs600 : ((strB tl).size : Int) ≤ 600 := by rw [strB_size]; have := B5.out; omega
          go_region_held3 (fun w' => Hid (Kept [] v2 w') ∧ w'.cell? ⟨v1.heap.size, 0, none⟩ = some (.int .i64 0) ∧ w'.cell? ⟨v1.heap.size, 1, none⟩ = some (.string (strB tl)))
            (as_aux_lemma => with_reducible first | assumption | exact mkFnShapes_9 x0 x1 (by with_reducible first | assumption | exact Lib.hid ((Kept.refl _ _).drew) | exact Kept.allocD (by assumption) | exact Kept.alloc1 (by assumption) | exact Lib.hid (Kept.trans0 (Hid.out (by assumption)) (by assumption))))
            (first
              | (go_at_call 8; go_split_ands; refine (ParseShape_q (by have := B5.out; omega) B1.out B2.out B4.out B3.out).mono ?_; rintro e u1 ⟨a9, c9, rfl, hr9, j1⟩)
              | (go_at_call 6; go_split_ands; refine (PrintShape_q hr9 (HP9.out.kept (Hid.out (by assumption))) HZ.out HT.out).mono ?_; rintro e u2 ⟨rfl, j2⟩))
          rename_i hH
          go_wp2_with fail
          go_ret
          exact ⟨rfl, K99.out.trans0 hH.1.out⟩

end Go.Proofs.YtlhiahhpmjiioadGreatDoor
