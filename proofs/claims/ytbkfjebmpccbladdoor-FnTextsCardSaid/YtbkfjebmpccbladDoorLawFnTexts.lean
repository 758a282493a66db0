/-
  The walk of the law on texts of metres and words. Condition: the argument reads as bytes; the library's table of powers of ten lies as its text lays it.
-/
import Derived.Deep.RegionHeld3
import Derived.Deep.DrawnRows
import Derived.Deep.DeepCutAuto
import Derived.Laws.StructEq
import Derived.Test.YtbkfjebmpccbladDoorDrwM
import Derived.Test.YtbkfjebmpccbladDoorDrwA
import Derived.Test.YtbkfjebmpccbladDoorMtB
import Derived.Test.YtbkfjebmpccbladDoorMtQ
import Derived.Test.YtbkfjebmpccbladDoorRmC
import Derived.Test.YtbkfjebmpccbladDoorRmE
import Derived.Test.YtbkfjebmpccbladDoorWdB
import Derived.Test.YtbkfjebmpccbladDoorWdH
namespace Go.Proofs.YtbkfjebmpccbladDoor
open Go.RowKit

theorem run_txSameT (w : World) (c : Int) (s : ByteArray) : (binOp .neq 26 (.agg #[.int .i64 c, .string s]) (.agg #[.int .i64 c, .string s])).run Tryd.prog w = .ok (.bool false) w := by
  rw [run_neq_struct, run_equalIn_agg w 9999 26 _ _ (by kernel_rfl) (by kernel_rfl)]
  simp [Op.eqFields, go_sem]
theorem run_irSameT (w : World) (c v : Int) : (binOp .neq 30 (.agg #[.int .i64 c, .int .i64 v]) (.agg #[.int .i64 c, .int .i64 v])).run Tryd.prog w = .ok (.bool false) w := by
  rw [run_neq_struct, run_equalIn_agg w 9999 30 _ _ (by kernel_rfl) (by kernel_rfl)]
  simp [Op.eqFields, go_sem]
theorem run_irEqT (w : World) (c v : Int) : (binOp .eql 30 (.agg #[.int .i64 c, .int .i64 v]) (.agg #[.int .i64 c, .int .i64 v])).run Tryd.prog w = .ok (.bool true) w := by
  rw [run_eql_struct, run_equalIn_agg w 9999 30 _ _ (by kernel_rfl) (by kernel_rfl)]
  simp [Op.eqFields, go_sem]
theorem field_txT (v0 v1 : Value) (w : World) : Sem.run Tryd.prog (Instr.field 26 (.agg #[v0, v1]) 1) w = .ok v1 w := by kernel_rfl
theorem field_wd0 (v0 v1 : Value) (w : World) : Sem.run Tryd.prog (Instr.field 34 (.agg #[v0, v1]) 0) w = .ok v0 w := by kernel_rfl
theorem field_wd1 (v0 v1 : Value) (w : World) : Sem.run Tryd.prog (Instr.field 34 (.agg #[v0, v1]) 1) w = .ok v1 w := by kernel_rfl
attribute [local go_sem ↓] run_txSameT run_irSameT run_irEqT field_txT field_wd0 field_wd1
/-- Six cells of three boxes. -/
def Six (w : World) (T R B : Nat) (t0 t1 r0 r1 b0 b1 : Value) : Prop :=
  w.cell? ⟨T, 0, none⟩ = some t0 ∧ w.cell? ⟨T, 1, none⟩ = some t1 ∧ w.cell? ⟨R, 0, none⟩ = some r0 ∧ w.cell? ⟨R, 1, none⟩ = some r1 ∧ w.cell? ⟨B, 0, none⟩ = some b0 ∧ w.cell? ⟨B, 1, none⟩ = some b1
theorem Six.kept0 {w w' : World} {T R B : Nat} {t0 t1 r0 r1 b0 b1 : Value} (h : Six w T R B t0 t1 r0 r1 b0 b1) (k : Kept [] w w') : Six w' T R B t0 t1 r0 r1 b0 b1 :=
  ⟨k.cell h.1 (by simp), k.cell h.2.1 (by simp), k.cell h.2.2.1 (by simp), k.cell h.2.2.2.1 (by simp), k.cell h.2.2.2.2.1 (by simp), k.cell h.2.2.2.2.2 (by simp)⟩
theorem mkT6 {w5 w' : World} {T R B : Nat} {t0 t1 r0 r1 b0 b1 : Value} (c0 : w5.cell? ⟨T, 0, none⟩ = some t0) (c1 : w5.cell? ⟨T, 1, none⟩ = some t1) (d0 : w5.cell? ⟨R, 0, none⟩ = some r0) (d1 : w5.cell? ⟨R, 1, none⟩ = some r1) (e0 : w5.cell? ⟨B, 0, none⟩ = some b0) (e1 : w5.cell? ⟨B, 1, none⟩ = some b1) (k : Hid (Kept [] w5 w')) :
    Hid (Kept [] w5 w') ∧ w'.cell? ⟨T, 0, none⟩ = some t0 ∧ w'.cell? ⟨T, 1, none⟩ = some t1 ∧ w'.cell? ⟨R, 0, none⟩ = some r0 ∧ w'.cell? ⟨R, 1, none⟩ = some r1 ∧ w'.cell? ⟨B, 0, none⟩ = some b0 ∧ w'.cell? ⟨B, 1, none⟩ = some b1 :=
  ⟨k, k.out.cell c0 (by simp), k.out.cell c1 (by simp), k.out.cell d0 (by simp), k.out.cell d1 (by simp), k.out.cell e0 (by simp), k.out.cell e1 (by simp)⟩
theorem mkT2 {w5 w' : World} {B g j : Nat} {b1 x : Value} (e1 : w5.cell? ⟨B, 1, none⟩ = some b1) (c : w5.cell? ⟨g, j, none⟩ = some x) (k : Hid (Kept [] w5 w')) :
    Hid (Kept [] w5 w') ∧ w'.cell? ⟨B, 1, none⟩ = some b1 ∧ w'.cell? ⟨g, j, none⟩ = some x := ⟨k, k.out.cell e1 (by simp), k.out.cell c (by simp)⟩
theorem mkT2r {w5 w' : World} {R : Nat} {r0 r1 : Value} (d0 : w5.cell? ⟨R, 0, none⟩ = some r0) (d1 : w5.cell? ⟨R, 1, none⟩ = some r1) (k : Hid (Kept [] w5 w')) :
    Hid (Kept [] w5 w') ∧ w'.cell? ⟨R, 0, none⟩ = some r0 ∧ w'.cell? ⟨R, 1, none⟩ = some r1 := ⟨k, k.out.cell d0 (by simp), k.out.cell d1 (by simp)⟩
/-- What the model's WordsOf answers, by letters. -/
theorem sWordsOf_q {l : List UInt8} {u : Int} {xs : List (List UInt8)} {n : Nat} (hl : l.length ≤ 1500000) (hu : wordsC l = u) (hx : wordsS l = xs) (hn : xs.length = n) (w : World) :
    Calls Tryd.prog 13 #[.string (strB l)] w (fun e w' => ∃ a c, e = .returned (.agg #[.int .i64 u, .slice a n c]) ∧ Hid (SlS w' a n xs) ∧ Hid (Kept [] w w')) := by
  refine (sWordsOf_any l w hl).mono ?_
  rintro e w' ⟨v, rfl, o, k⟩
  rw [hx] at o
  obtain ⟨a, c, rfl, sp, _⟩ := o.sl
  rw [hn] at sp ⊢
  exact ⟨a, c, by rw [hu], sp, k⟩
theorem sWordsOf_at {l : List UInt8} {u : Int} {xs : List (List UInt8)} {n j : Nat} {S : ByteArray} (hl : l.length ≤ 1500000) (hu : wordsC l = u) (hx : wordsS l = xs) (hn : xs.length = n) (hj : j < n) (hS : strB (xs.getD j []) = S) (w : World) :
    Calls Tryd.prog 13 #[.string (strB l)] w (fun e w' => ∃ g c, e = .returned (.agg #[.int .i64 u, .slice (some ⟨g, 0, none⟩) n c]) ∧ w'.cell? ⟨g, j, none⟩ = some (.string S) ∧ Hid (Kept [] w w')) := by
  refine (sWordsOf_q hl hu hx hn w).mono ?_
  rintro e w' ⟨a, c, rfl, sp, k⟩
  rcases sp.out.2 with h | ⟨g, rfl, hb⟩
  · omega
  · exact ⟨g, c, rfl, by rw [hb.cell hj]; unfold wdF; rw [hS], k⟩

set_option maxHeartbeats 4000000 in
set_option maxRecDepth 100000 in
theorem FnTexts_walk (a : Option Addr) (n c : Nat) (bs : List Int) (w : World) (h0 : n ≤ 1048576 → Rd8 w a n bs) (hp : Pow10 w) :
    Calls Tryd.prog 3 #[.slice a n c] w (Ans w (.bool true)) := by
  by_cases hbig0 : 1048576 < n
  · go_enter Tryd.func3, Tryd.ntmps3
    go_wp2_with fail
    refine (lwBig_any _ _ _ _).mono ?_
    rintro e w1 ⟨rfl, rfl⟩
    rw [decide_eq_true (by omega)]
    go_wp2_with fail
    go_ret
    exact ⟨rfl, Kept.refl _ _⟩
  have HR := Lib.hid (h0 (by omega))
  have HP := Lib.hid hp
  clear h0 hp
  go_enter Tryd.func3, Tryd.ntmps3
  go_wp2_with fail
  refine (lwBig_any _ _ _ _).mono ?_
  rintro e w0 ⟨rfl, hw⟩
  subst hw
  rw [decide_eq_false (by omega)]
  go_wp2_with fail
  refine (DrawMetreText_any _ _ _ _ _ HR.out).mono ?_
  rintro e w2 ⟨x, rfl, hx0, hx1, k2⟩
  have K2 := Lib.hid k2
  have BX := Lib.hid (And.intro hx0 hx1)
  clear k2 hx0 hx1
  obtain ⟨p, hpp⟩ : ∃ s, metreC x = s := ⟨_, rfl⟩
  obtain ⟨s, hss⟩ : ∃ s, metreS x = s := ⟨_, rfl⟩
  have HPC := Lib.hid hpp
  have HSS := Lib.hid hss
  clear hpp hss
  go_wp2_with fail
  refine (MetreText_any x _ (HP.out.kept K2.out)).mono ?_
  rintro e w3 ⟨rfl, k3⟩
  rw [HPC.out, HSS.out]
  have K3 := Lib.hid (K2.out.trans0 k3)
  clear k3 K2
  go_wp2_with fail
  refine (DrawReadMetres_any _ _ _ _ _ (HR.out.kept (K3.out.alloc _) (by simp))).mono ?_
  rintro e w5 ⟨l, rfl, hl, k5⟩
  have hl2 : l.length ≤ 1500000 := by omega
  obtain ⟨q, hq⟩ : ∃ s, rmC l = s := ⟨_, rfl⟩
  obtain ⟨v, hv⟩ : ∃ s, rmV l = s := ⟨_, rfl⟩
  have HQ := Lib.hid hq
  have HV := Lib.hid hv
  have K5 := Lib.hid k5
  clear hq hv k5 hl
  go_wp2_with fail
  refine (ReadMetres_any l _ hl2).mono ?_
  rintro e w6 ⟨rfl, k6⟩
  rw [HQ.out, HV.out]
  have K6 := Lib.hid (K5.out.trans0 k6)
  clear k6 K5
  go_wp2_with fail
  refine (DrawWordsOf_any _ _ _ _ _ (HR.out.kept (K3.out.trans0 ((K6.out.alloc (.cells #[.int .i64 q, .int .i64 v] 30)).peel)) (by simp))).mono ?_
  rintro e w7 ⟨l9, rfl, hl9, k7⟩
  have hl93 : l9.length ≤ 1500000 := by omega
  obtain ⟨u, hu⟩ : ∃ u, wordsC l9 = u := ⟨_, rfl⟩
  obtain ⟨xs, hS⟩ : ∃ u, wordsS l9 = u := ⟨_, rfl⟩
  have hwl := wordsS_len l9
  rw [hS] at hwl
  obtain ⟨m, hm⟩ : ∃ n, xs.length = n := ⟨_, rfl⟩
  rw [hm] at hwl
  have HU := Lib.hid hu
  have HS := Lib.hid hS
  have HM := Lib.hid hm
  have K7 := Lib.hid k7
  clear hu hS hm k7 hl9
  go_wp2_with fail
  refine (WordsOf_any l9 _ hl93).mono ?_
  rintro e w8 ⟨v8, rfl, o8, k8⟩
  rw [HS.out] at o8
  obtain ⟨a8, c8, rfl, sp8, bl8⟩ := o8.sl
  rw [HM.out] at sp8 ⊢
  rw [HU.out]
  have K8 := Lib.hid (K7.out.trans0 k8)
  clear k8 o8 bl8 K7
  go_upto_region 9 with fail
  obtain ⟨W, hW⟩ : ∃ W, W = w8.alloc (.cells #[.int .i64 u, .slice a8 m c8] 34) := ⟨_, rfl⟩
  have k9 : Kept [] (w8.alloc (.cells #[.int .i64 u, .slice a8 m c8] 34)) W := by rw [hW]; exact Kept.refl _ _
  have SP := Lib.hid (sp8.kept k9.peel (by simp))
  obtain ⟨T, hT⟩ : ∃ T, T = w3.heap.size := ⟨_, rfl⟩
  obtain ⟨R, hR⟩ : ∃ R, R = w6.heap.size := ⟨_, rfl⟩
  obtain ⟨B, hB⟩ : ∃ R, R = w8.heap.size := ⟨_, rfl⟩
  have kR := K8.out.trans0 k9.peel
  have kT := K6.out.trans0 kR.peel
  have C : Hid (Six W T R B (.int .i64 p) (.string s) (.int .i64 q) (.int .i64 v) (.int .i64 u) (.slice a8 m c8)) := by
    rw [hT, hR, hB]
    exact ⟨(kT.top rfl (by simp) 0 (v := .int .i64 p) rfl).1, (kT.top rfl (by simp) 1 (v := .string s) rfl).1, (kR.top rfl (by simp) 0 (v := .int .i64 q) rfl).1, (kR.top rfl (by simp) 1 (v := .int .i64 v) rfl).1, (k9.top rfl (by simp) 0 (v := .int .i64 u) rfl).1, (k9.top rfl (by simp) 1 (v := .slice a8 m c8) rfl).1⟩
  have KW := Lib.hid (K3.out.trans0 kT.peel)
  obtain ⟨c0, c1, d0, d1, e0, e1⟩ := C.out
  rw [← hW, ← hT, ← hR, ← hB]
  clear k9 hW hT hR hB K6 K3 K8 kR kT sp8
  go_cut [51] (fun v wx => v = .bool false ∧ Hid (Kept [] W wx))
  case first =>
    go_region_held3 (fun w' => Hid (Kept [] W w') ∧ w'.cell? ⟨T, 0, none⟩ = some (.int .i64 p) ∧ w'.cell? ⟨T, 1, none⟩ = some (.string s) ∧ w'.cell? ⟨R, 0, none⟩ = some (.int .i64 q) ∧ w'.cell? ⟨R, 1, none⟩ = some (.int .i64 v) ∧ w'.cell? ⟨B, 0, none⟩ = some (.int .i64 u) ∧ w'.cell? ⟨B, 1, none⟩ = some (.slice a8 m c8))
      (with_reducible first | assumption | exact mkT6 c0 c1 d0 d1 e0 e1 (by with_reducible first | assumption | exact Lib.hid ((Kept.refl _ _).drew) | exact kAD (by assumption) | exact kA1 (by assumption) | exact Lib.hid (Kept.trans0 (Hid.out (by assumption)) (by assumption)) | exact Lib.hid (Kept.trans0 (Hid.out (by assumption)) (Hid.out (by assumption)))))
      (first
        | (go_at_call 11; go_split_ands; refine (sMetreText_any x _).mono ?_; rw [HPC.out, HSS.out]; rintro e v1 ⟨rfl, hj1⟩)
        | (go_at_call 12; go_split_ands; refine (sReadMetres_any l _ hl2).mono ?_; rw [HQ.out, HV.out]; rintro e v2 ⟨rfl, hj2⟩)
        | (go_at_call 13; go_split_ands; refine (sWordsOf_q hl93 HU.out HS.out HM.out _).mono ?_; rintro e v3 ⟨a9, c9, rfl, hs3, hj3⟩))
    rename_i hH
    go_wp2_with fail
    go_meet
    exact ⟨rfl, Lib.hid hH.1.out⟩
  case rest =>
  obtain ⟨rfl, hk0⟩ := hcut
  obtain ⟨w8, hw9⟩ : ∃ w' : World, w' = wc := ⟨_, rfl⟩
  subst hw9
  have C8 := Lib.hid (C.out.kept0 hk0.out)
  have SP8 := Lib.hid (SP.out.kept hk0.out (by simp))
  have K8 := Lib.hid (KW.out.trans0 hk0.out)
  clear hk0 C KW SP c0 c1 d0 d1 e0 e1
  go_upto_region 12 with fail
  go_loopw [9] (fun i wr => ∃ j : Nat, j ≤ m ∧ i = .int .i64 j ∧ Hid (Kept [] w8 wr)) (fun i _ => m - (intOf i).toNat)
  case atStart => exact ⟨0, Nat.zero_le _, rfl, Kept.refl _ _⟩
  case round =>
    obtain ⟨j, hj, rfl, hK⟩ := hrel
    have e1 := hK.out.cell C8.out.2.2.2.2.2 (by simp)
    by_cases hlt : j < m
    · have hlt' : (j : Int) < m := by omega
      have hj0 : (0 : Int) ≤ j := by omega
      obtain ⟨g, rfl, hb⟩ : ∃ g, a8 = some ⟨g, 0, none⟩ ∧ RowF w8 g m (wdF xs) := by
        rcases SP8.out.2 with h | h
        · omega
        · exact h
      have hc := hK.out.cell (hb.cell hlt) (by simp)
      unfold wdF at hc
      obtain ⟨S, hSS⟩ : ∃ S, strB (xs.getD j []) = S := ⟨_, rfl⟩
      rw [hSS] at hc
      have HSJ := Lib.hid hSS
      have htt : (S.toList == S.toList) = true := by simp
      clear hSS hb
      go_wp2_with fail
      have hcd : wr.drew.cell? ⟨g, j, none⟩ = some (.string S) := hc
      have e1d : wr.drew.cell? ⟨B, 1, none⟩ = some (.slice (some ⟨g, 0, none⟩) m c8) := e1
      go_region_with (first
          | (go_at_call 13; refine (sWordsOf_at hl93 HU.out HS.out HM.out hlt HSJ.out _).mono ?_; rintro e v3 ⟨g3, c3, rfl, hs3, hj3⟩; have hcv := hj3.out.cell hcd (by simp); have e1v := hj3.out.cell e1d (by simp); have hKv := Lib.hid (hK.out.drew.trans0 hj3.out)))
      all_goals
        go_wp2_with fail
        go_roundw
      all_goals first
        | exact ⟨j + 1, by omega, by go_num, hKv⟩
        | (simp [intOf]; omega)
    · obtain rfl : j = m := by omega
      have hlt' : ¬ (j : Int) < j := by omega
      have C9 := Lib.hid (C8.out.kept0 hK.out)
      have K9 := Lib.hid (K8.out.trans0 hK.out)
      clear hK e1 SP8 C8 K8
      obtain ⟨c0, c1, d0, d1, e0, e1⟩ := C9.out
      go_upto_region 16 with fail
      go_cut [87] (fun v wx => v = .bool false ∧ Hid (Kept [] wr wx))
      case first =>
        by_cases hq0 : q = 0
        · subst hq0
          have hf := rm_zero HQ.out HV.out
          have hv0 := fullM_in hf
          by_cases hv1 : v ≤ 1000000000000000
          · have hin : inTold v = true := decide_eq_true ⟨by omega, by omega⟩
            have HC := Lib.hid (metre_yes hin)
            have hrc := Lib.hid (rm_yes (fullM_back hv0 (by omega)))
            have hlen := decTx_len ten_six v (by omega) (by omega)
            have hl3 : (decTx 1000000 six v).length ≤ 1500000 := by omega
            have HP8 := Lib.hid (HP.out.kept K9.out)
            clear hf hin hlen
            go_region_held3 (fun w' => Hid (Kept [] wr w') ∧ w'.cell? ⟨R, 0, none⟩ = some (.int .i64 0) ∧ w'.cell? ⟨R, 1, none⟩ = some (.int .i64 v))
              (with_reducible first | assumption | exact mkT2r d0 d1 (by with_reducible first | assumption | exact Lib.hid ((Kept.refl _ _).drew) | exact kAD (by assumption) | exact kA1 (by assumption) | exact Lib.hid (Kept.trans0 (Hid.out (by assumption)) (by assumption)) | exact Lib.hid (Kept.trans0 (Hid.out (by assumption)) (Hid.out (by assumption)))))
              (first
                | (go_at_call 6; go_split_ands; refine (MetreText_any v _ (HP8.out.kept (Hid.out (by assumption)))).mono ?_; rw [HC.out.1, HC.out.2]; rintro e v1 ⟨rfl, hj1⟩)
                | (go_at_call 8; go_split_ands; refine (ReadMetres_any (decTx 1000000 six v) _ hl3).mono ?_; rw [hrc.out.1, hrc.out.2]; rintro e v2 ⟨rfl, hj2⟩))
            rename_i hH
            go_wp2_with fail
            go_meet
            exact ⟨rfl, Lib.hid hH.1.out⟩
          · have z2 : decide (v ≤ 1000000000000000) = false := decide_eq_false hv1
            clear hf
            go_quiet (fail)
            go_wp2_with fail
            go_meet
            exact ⟨rfl, Lib.hid ((Kept.refl [] _).drewN _)⟩
        · have z1 : (q == 0) = false := beq_eq_false_iff_ne.2 hq0
          have z2 : decide (q = 0) = false := decide_eq_false hq0
          go_quiet (fail)
          go_wp2_with fail
          go_meet
          exact ⟨rfl, Lib.hid ((Kept.refl [] _).drewN _)⟩
      case rest =>
      obtain ⟨rfl, hk0⟩ := hcut
      obtain ⟨w9, hw9⟩ : ∃ w' : World, w' = wc := ⟨_, rfl⟩
      subst hw9
      have c0 := hk0.out.cell C9.out.1 (by simp)
      have c1 := hk0.out.cell C9.out.2.1 (by simp)
      have K10 := Lib.hid (K9.out.trans0 hk0.out)
      clear hk0 C9 K9 d0 d1 e0 e1
      by_cases hp0 : p = 0
      · subst hp0
        have hin : inTold x = true := by
          cases hi : inTold x with
          | true => rfl
          | false => have := HPC.out; rw [(metre_no hi).1] at this; cases this
        have hs : s = strB (decTx 1000000 six x) := by rw [← HSS.out]; exact (metre_yes hin).2
        have hxx := of_decide_eq_true hin
        by_cases hx0 : x < 0
        · clear hin hs hxx
          go_wp2_with fail
          go_ret
          exact ⟨rfl, K10.out⟩
        · have hrc := Lib.hid (rm_yes (fullM_back (v := x) (by omega) (by omega)))
          have hlen := decTx_len ten_six x (by omega) (by omega)
          have hl3 : (decTx 1000000 six x).length ≤ 1500000 := by omega
          subst hs
          clear hin hlen hxx
          go_wp2_with fail
          refine (ReadMetres_any (decTx 1000000 six x) _ hl3).mono ?_
          rw [hrc.out.1, hrc.out.2]
          rintro e v2 ⟨rfl, hj2⟩
          have K11 := Lib.hid (K10.out.trans0 hj2)
          clear hj2
          go_wp2_with fail
          go_ret
          exact ⟨rfl, K11.out⟩
      · have z1 : (p == 0) = false := beq_eq_false_iff_ne.2 hp0
        go_wp2_with fail
        go_ret
        exact ⟨rfl, K10.out⟩

end Go.Proofs.YtbkfjebmpccbladDoor
