/-
  The walk of the law on coordinates. Condition: the argument reads as bytes; the library's table of powers of ten lies as its text lays it.
-/
import Derived.Deep.RegionHeld3
import Derived.Deep.DrawnRows
import Derived.Deep.DeepCutAuto
import Derived.Laws.StructEq
import Derived.Test.YtbkfjebmpccblagDoorDrwT
import Derived.Test.YtbkfjebmpccblagDoorDrwA
import Derived.Test.YtbkfjebmpccblagDoorCooC
import Derived.Test.YtbkfjebmpccblagDoorRdC
import Derived.Test.YtbkfjebmpccblagDoorRdE
namespace Go.Proofs.YtbkfjebmpccblagDoor
open Go.RowKit

theorem drew_cellC {w : World} {p : Addr} {v : Value} (h : w.cell? p = some v) : w.drew.cell? p = some v := h
theorem run_txSame (w : World) (c : Int) (s : ByteArray) : (binOp .neq 26 (.agg #[.int .i64 c, .string s]) (.agg #[.int .i64 c, .string s])).run Tryd.prog w = .ok (.bool false) w := by
  rw [run_neq_struct, run_equalIn_agg w 9999 26 _ _ (by kernel_rfl) (by kernel_rfl)]
  simp [Op.eqFields, go_sem]
theorem run_irSame (w : World) (c v : Int) : (binOp .neq 30 (.agg #[.int .i64 c, .int .i64 v]) (.agg #[.int .i64 c, .int .i64 v])).run Tryd.prog w = .ok (.bool false) w := by
  rw [run_neq_struct, run_equalIn_agg w 9999 30 _ _ (by kernel_rfl) (by kernel_rfl)]
  simp [Op.eqFields, go_sem]
theorem run_irEq (w : World) (c v : Int) : (binOp .eql 30 (.agg #[.int .i64 c, .int .i64 v]) (.agg #[.int .i64 c, .int .i64 v])).run Tryd.prog w = .ok (.bool true) w := by
  rw [run_eql_struct, run_equalIn_agg w 9999 30 _ _ (by kernel_rfl) (by kernel_rfl)]
  simp [Op.eqFields, go_sem]
theorem field_tx1 (v0 v1 : Value) (w : World) : Sem.run Tryd.prog (Instr.field 26 (.agg #[v0, v1]) 1) w = .ok v1 w := by kernel_rfl
attribute [local go_sem ↓] run_txSame run_irSame run_irEq field_tx1
theorem mkC4 {w5 w' : World} {b d : Nat} {v0 v1 v2 v3 : Value} (c0 : w5.cell? ⟨b, 0, none⟩ = some v0) (c1 : w5.cell? ⟨b, 1, none⟩ = some v1) (c2 : w5.cell? ⟨d, 0, none⟩ = some v2) (c3 : w5.cell? ⟨d, 1, none⟩ = some v3) (k : Hid (Kept [] w5 w')) :
    Hid (Kept [] w5 w') ∧ w'.cell? ⟨b, 0, none⟩ = some v0 ∧ w'.cell? ⟨b, 1, none⟩ = some v1 ∧ w'.cell? ⟨d, 0, none⟩ = some v2 ∧ w'.cell? ⟨d, 1, none⟩ = some v3 :=
  ⟨k, k.out.cell c0 (by simp), k.out.cell c1 (by simp), k.out.cell c2 (by simp), k.out.cell c3 (by simp)⟩

theorem rc_zero {l : List UInt8} {v : Int} (h : rcC l = 0) (hv : rcV l = v) : fullC l = some v := by
  cases hf : fullC l with
  | none => rw [(rc_no hf).1] at h; cases h
  | some u => rw [(rc_yes hf).2] at hv; rw [hv]
theorem coord_zero {x : Int} (h : coordC x = 0) : inCoord x = true := by
  cases hi : inCoord x with
  | true => rfl
  | false => rw [(coord_no hi).1] at h; cases h

set_option maxHeartbeats 4000000 in
set_option maxRecDepth 100000 in
theorem FnCoords_walk (a : Option Addr) (n c : Nat) (bs : List Int) (w : World) (h0 : n ≤ 1048576 → Rd8 w a n bs) (hp : Pow10 w) :
    Calls Tryd.prog 3 #[.slice a n c] w (Ans w (.bool true)) := by
  by_cases hbig0 : 1048576 < n
  · go_enter Tryd.func3, Tryd.ntmps3
    go_wp2_with fail
    refine (lwBig_any _ _ _ _).mono ?_
    rintro e w1 ⟨rfl, rfl⟩
    rw [decide_eq_true (by omega)]
    go_wp2_with fail
    go_ret
    exact ⟨rfl, Kept.refl _ _⟩
  have HR := Lib.hid (h0 (by omega))
  have HP := Lib.hid hp
  clear h0 hp
  go_enter Tryd.func3, Tryd.ntmps3
  go_wp2_with fail
  refine (lwBig_any _ _ _ _).mono ?_
  rintro e w0 ⟨rfl, hw⟩
  subst hw
  rw [decide_eq_false (by omega)]
  go_wp2_with fail
  refine (DrawCoordText_any _ _ _ _ _ HR.out).mono ?_
  rintro e w2 ⟨x, rfl, hx0, hx1, k2⟩
  have K2 := Lib.hid k2
  have BX := Lib.hid (And.intro hx0 hx1)
  clear k2 hx0 hx1
  obtain ⟨p, hpp⟩ : ∃ s, coordC x = s := ⟨_, rfl⟩
  obtain ⟨s, hss⟩ : ∃ s, coordS x = s := ⟨_, rfl⟩
  have HPC := Lib.hid hpp
  have HSS := Lib.hid hss
  clear hpp hss
  go_wp2_with fail
  refine (CoordText_any x _ (HP.out.kept K2.out)).mono ?_
  rintro e w3 ⟨rfl, k3⟩
  rw [HPC.out, HSS.out]
  have K3 := Lib.hid (K2.out.trans0 k3)
  clear k3 K2
  go_wp2_with fail
  refine (DrawReadCoord_any _ _ _ _ _ (HR.out.kept (K3.out.alloc _) (by simp))).mono ?_
  rintro e w5 ⟨l, rfl, hl, k5⟩
  have hl2 : l.length ≤ 1500000 := by omega
  obtain ⟨q, hq⟩ : ∃ s, rcC l = s := ⟨_, rfl⟩
  obtain ⟨v, hv⟩ : ∃ s, rcV l = s := ⟨_, rfl⟩
  have HQ := Lib.hid hq
  have HV := Lib.hid hv
  have K5 := Lib.hid k5
  clear hq hv k5 hl
  go_wp2_with fail
  refine (ReadCoord_any l _ hl2).mono ?_
  rintro e w6 ⟨rfl, k6⟩
  rw [HQ.out, HV.out]
  have K6 := Lib.hid (K5.out.trans0 k6)
  clear k6 K5
  go_upto_region 7 with fail
  obtain ⟨W, hW⟩ : ∃ W, W = w6.alloc (.cells #[.int .i64 q, .int .i64 v] 30) := ⟨_, rfl⟩
  have k7 : Kept [] (w6.alloc (.cells #[.int .i64 q, .int .i64 v] 30)) W := by rw [hW]; exact Kept.refl _ _
  obtain ⟨T, hT⟩ : ∃ T, T = w3.heap.size := ⟨_, rfl⟩
  obtain ⟨R, hR⟩ : ∃ R, R = w6.heap.size := ⟨_, rfl⟩
  have c0 : W.cell? ⟨T, 0, none⟩ = some (.int .i64 p) := by rw [hT]; exact ((K6.out.trans0 k7.peel).top rfl (by simp) 0 (v := .int .i64 p) rfl).1
  have c1 : W.cell? ⟨T, 1, none⟩ = some (.string s) := by rw [hT]; exact ((K6.out.trans0 k7.peel).top rfl (by simp) 1 (v := .string s) rfl).1
  have d0 : W.cell? ⟨R, 0, none⟩ = some (.int .i64 q) := by rw [hR]; exact (k7.top rfl (by simp) 0 (v := .int .i64 q) rfl).1
  have d1 : W.cell? ⟨R, 1, none⟩ = some (.int .i64 v) := by rw [hR]; exact (k7.top rfl (by simp) 1 (v := .int .i64 v) rfl).1
  have KW := Lib.hid (K3.out.trans0 (K6.out.trans0 k7.peel).peel)
  have C := Lib.hid (And.intro (And.intro c0 c1) (And.intro d0 d1))
  rw [← hW, ← hT, ← hR]
  clear k7 hW hT hR K6 K3
  go_cut [26] (fun v wx => v = .bool false ∧ Hid (Kept [] W wx))
  case first =>
    go_region_held3 (fun w' => Hid (Kept [] W w') ∧ w'.cell? ⟨T, 0, none⟩ = some (.int .i64 p) ∧ w'.cell? ⟨T, 1, none⟩ = some (.string s) ∧ w'.cell? ⟨R, 0, none⟩ = some (.int .i64 q) ∧ w'.cell? ⟨R, 1, none⟩ = some (.int .i64 v))
      (with_reducible first | assumption | exact mkC4 c0 c1 d0 d1 (by with_reducible first | assumption | exact Lib.hid ((Kept.refl _ _).drew) | exact kAD (by assumption) | exact kA1 (by assumption) | exact Lib.hid (Kept.trans0 (Hid.out (by assumption)) (by assumption))))
      (first
        | (go_at_call 9; go_split_ands; refine (sCoordText_any x _).mono ?_; rw [HPC.out, HSS.out]; rintro e v1 ⟨rfl, hj1⟩)
        | (go_at_call 10; go_split_ands; refine (sReadCoord_any l _ hl2).mono ?_; rw [HQ.out, HV.out]; rintro e v2 ⟨rfl, hj2⟩))
    rename_i hH
    go_wp2_with fail
    go_meet
    exact ⟨rfl, Lib.hid hH.1.out⟩
  case rest =>
  obtain ⟨rfl, hk0⟩ := hcut
  obtain ⟨w8, hw9⟩ : ∃ w' : World, w' = wc := ⟨_, rfl⟩
  subst hw9
  have c0 := hk0.out.cell C.out.1.1 (by simp)
  have c1 := hk0.out.cell C.out.1.2 (by simp)
  have d0 := hk0.out.cell C.out.2.1 (by simp)
  have d1 := hk0.out.cell C.out.2.2 (by simp)
  have K8 := Lib.hid (KW.out.trans0 hk0.out)
  clear hk0 C KW
  have C := Lib.hid (And.intro (And.intro c0 c1) (And.intro d0 d1))
  go_upto_region 9 with fail
  go_cut [38] (fun v wx => v = .bool false ∧ Hid (Kept [] w8 wx))
  case first =>
    by_cases hq0 : q = 0
    · subst hq0
      have hf := rc_zero HQ.out HV.out
      have hin := fullC_in hf
      have hcy := coord_yes (n := v) (decide_eq_true hin)
      have hb := coordT_back hin.1 hin.2
      have hrc := Lib.hid (rc_yes hb)
      have hlen := coordT_len v hin.1 hin.2
      have hl3 : (coordT v).length ≤ 1500000 := by omega
      have HC := Lib.hid hcy
      have HP8 := Lib.hid (HP.out.kept K8.out)
      clear hf hin hcy hb hlen
      go_region_held3 (fun w' => Hid (Kept [] w8 w') ∧ w'.cell? ⟨R, 0, none⟩ = some (.int .i64 0) ∧ w'.cell? ⟨R, 1, none⟩ = some (.int .i64 v) ∧ w'.cell? ⟨T, 0, none⟩ = some (.int .i64 p) ∧ w'.cell? ⟨T, 1, none⟩ = some (.string s))
        (with_reducible first | assumption | exact mkC4 d0 d1 c0 c1 (by with_reducible first | assumption | exact Lib.hid ((Kept.refl _ _).drew) | exact kAD (by assumption) | exact kA1 (by assumption) | exact Lib.hid (Kept.trans0 (Hid.out (by assumption)) (by assumption))))
        (first
          | (go_at_call 6; go_split_ands; refine (CoordText_any v _ (HP8.out.kept (Hid.out (by assumption)))).mono ?_; rw [HC.out.1, HC.out.2]; rintro e v1 ⟨rfl, hj1⟩)
          | (go_at_call 8; go_split_ands; refine (ReadCoord_any (coordT v) _ hl3).mono ?_; rw [hrc.out.1, hrc.out.2]; rintro e v2 ⟨rfl, hj2⟩))
      rename_i hH
      go_wp2_with fail
      go_meet
      exact ⟨rfl, Lib.hid hH.1.out⟩
    · have z1 : (q == 0) = false := beq_eq_false_iff_ne.2 hq0
      have z2 : decide (q = 0) = false := decide_eq_false hq0
      go_quiet (fail)
      go_wp2_with fail
      go_meet
      exact ⟨rfl, Lib.hid ((Kept.refl [] _).drewN _)⟩
  case rest =>
  obtain ⟨rfl, hk0⟩ := hcut
  obtain ⟨w9, hw9⟩ : ∃ w' : World, w' = wc := ⟨_, rfl⟩
  subst hw9
  have c0 := hk0.out.cell C.out.1.1 (by simp)
  have c1 := hk0.out.cell C.out.1.2 (by simp)
  have K9 := Lib.hid (K8.out.trans0 hk0.out)
  clear hk0 C K8 d0 d1
  by_cases hp0 : p = 0
  · subst hp0
    have hin := of_decide_eq_true (coord_zero HPC.out)
    have hs : s = strB (coordT x) := by rw [← HSS.out]; exact (coord_yes (coord_zero HPC.out)).2
    have hrc := Lib.hid (rc_yes (coordT_back hin.1 hin.2))
    have hlen := coordT_len x hin.1 hin.2
    have hl3 : (coordT x).length ≤ 1500000 := by omega
    subst hs
    clear hin hlen
    go_wp2_with fail
    refine (ReadCoord_any (coordT x) _ hl3).mono ?_
    rw [hrc.out.1, hrc.out.2]
    rintro e v2 ⟨rfl, hj2⟩
    have K10 := Lib.hid (K9.out.trans0 hj2)
    clear hj2
    go_wp2_with fail
    go_ret
    exact ⟨rfl, K10.out⟩
  · have z1 : (p == 0) = false := beq_eq_false_iff_ne.2 hp0
    go_wp2_with fail
    go_ret
    exact ⟨rfl, K9.out⟩

end Go.Proofs.YtbkfjebmpccblagDoor
