/-
  The walk of the law on divisions of naturals. No condition but that the argument reads as bytes.
-/
import Derived.Deep.RegionHeld3
import Derived.Deep.DrawnRows
import Derived.Deep.DeepCutAuto
import Derived.Test.YtledbpiaipmgkaaDrwB
import Derived.Test.YtledbpiaipmgkaaJ4
import Derived.Test.YtledbpiaipmgkaaDiv
import Derived.Test.YtledbpiaipmgkaaMul
import Derived.Test.YtledbpiaipmgkaaJ2
import Derived.Test.YtledbpiaipmgkaaSMul
import Derived.Test.YtledbpiaipmgkaaDivsP
namespace Go.Proofs.Ytledbpiaipmgkaa
open Go.RowKit

/-- Several slices read as several lists. -/
def SlL (w : World) (L : List (Option Addr × Nat × List Int)) : Prop := ∀ z, z ∈ L → Sl w z.1 z.2.2.length z.2.1 z.2.2
theorem SlL.nil (w : World) : SlL w [] := fun z hz => by cases hz
theorem SlL.cons {w : World} {L : List (Option Addr × Nat × List Int)} {a : Option Addr} {c : Nat} {xs : List Int} (h : SlL w L) (h' : Sl w a xs.length c xs) : SlL w ((a, c, xs) :: L) := fun z hz => by
  rcases List.mem_cons.1 hz with rfl | hz
  · exact h'
  · exact h z hz
theorem SlL.kept0 {w w' : World} {L : List (Option Addr × Nat × List Int)} (h : SlL w L) (k : Kept [] w w') : SlL w' L := fun z hz => (h z hz).kept0 k
theorem SlL.at {w : World} {L : List (Option Addr × Nat × List Int)} {a : Option Addr} {c : Nat} {xs : List Int} (h : SlL w L) (hz : (a, c, xs) ∈ L) : Sl w a xs.length c xs := h _ hz

/-- Cells of a box. -/
def B3 (w : World) (g : Nat) (x y z : Value) : Prop := w.cell? ⟨g, 0, none⟩ = some x ∧ w.cell? ⟨g, 1, none⟩ = some y ∧ w.cell? ⟨g, 2, none⟩ = some z
def B2 (w : World) (g : Nat) (x y : Value) : Prop := w.cell? ⟨g, 0, none⟩ = some x ∧ w.cell? ⟨g, 1, none⟩ = some y
theorem B3.kept0 {w w' : World} {g : Nat} {x y z : Value} (h : B3 w g x y z) (k : Kept [] w w') : B3 w' g x y z := ⟨k.cell h.1 (by simp), k.cell h.2.1 (by simp), k.cell h.2.2 (by simp)⟩
theorem B2.kept0 {w w' : World} {g : Nat} {x y : Value} (h : B2 w g x y) (k : Kept [] w w') : B2 w' g x y := ⟨k.cell h.1 (by simp), k.cell h.2 (by simp)⟩
theorem B3.new (w : World) (x y z : Value) (t : TypeId) : B3 (w.alloc (.cells #[x, y, z] t)) w.heap.size x y z := ⟨by simp, by simp, by simp⟩
theorem B2.new (w : World) (x y : Value) (t : TypeId) : B2 (w.alloc (.cells #[x, y] t)) w.heap.size x y := ⟨by simp, by simp⟩
theorem cmp_flip (xs ys : List Int) : (if fault2 ys xs = 0 then cmpV (val ys) (val xs) else 0) = -(if fault2 xs ys = 0 then cmpV (val xs) (val ys) else 0) := by
  have e : fault2 ys xs = 0 ↔ fault2 xs ys = 0 := ⟨fun h => by have := fault2_zero h; rw [fault2_second this.2]; exact this.1, fun h => by have := fault2_zero h; rw [fault2_second this.2]; exact this.1⟩
  by_cases h : fault2 xs ys = 0
  · rw [if_pos h, if_pos (e.2 h)]
    unfold cmpV
    split <;> split <;> (try split) <;> omega
  · rw [if_neg h, if_neg (fun h' => h (e.1 h'))]; rfl
theorem cmp_small (xs ys : List Int) : -1 ≤ (if fault2 xs ys = 0 then cmpV (val xs) (val ys) else 0) ∧ (if fault2 xs ys = 0 then cmpV (val xs) (val ys) else 0) ≤ 1 := by
  unfold cmpV
  split
  · split
    · omega
    · split <;> omega
  · omega
theorem field_d0 (v0 v1 v2 : Value) (w : World) : Sem.run Try.prog (Instr.field 45 (.agg #[v0, v1, v2]) 0) w = .ok v0 w := by kernel_rfl
theorem field_d1 (v0 v1 v2 : Value) (w : World) : Sem.run Try.prog (Instr.field 45 (.agg #[v0, v1, v2]) 1) w = .ok v1 w := by kernel_rfl
theorem field_d2 (v0 v1 v2 : Value) (w : World) : Sem.run Try.prog (Instr.field 45 (.agg #[v0, v1, v2]) 2) w = .ok v2 w := by kernel_rfl
theorem field_n0 (v0 v1 : Value) (w : World) : Sem.run Try.prog (Instr.field 28 (.agg #[v0, v1]) 0) w = .ok v0 w := by kernel_rfl
theorem field_n1 (v0 v1 : Value) (w : World) : Sem.run Try.prog (Instr.field 28 (.agg #[v0, v1]) 1) w = .ok v1 w := by kernel_rfl
attribute [local go_sem ↓] field_d0 field_d1 field_d2 field_n0 field_n1
theorem mkS {w5 w' : World} {g h : Nat} {x y z u v : Value} (D : Hid (B3 w5 g x y z)) (M : Hid (B2 w5 h u v)) (k : Hid (Kept [] w5 w')) :
    Hid (Kept [] w5 w') ∧ w'.cell? ⟨g, 0, none⟩ = some x ∧ w'.cell? ⟨g, 1, none⟩ = some y ∧ w'.cell? ⟨g, 2, none⟩ = some z ∧ w'.cell? ⟨h, 0, none⟩ = some u :=
  ⟨k, k.out.cell D.out.1 (by simp), k.out.cell D.out.2.1 (by simp), k.out.cell D.out.2.2 (by simp), k.out.cell M.out.1 (by simp)⟩
theorem mkS1 {w5 w' : World} {g : Nat} {x y z : Value} (D : Hid (B3 w5 g x y z)) (k : Hid (Kept [] w5 w')) :
    Hid (Kept [] w5 w') ∧ w'.cell? ⟨g, 1, none⟩ = some y ∧ w'.cell? ⟨g, 2, none⟩ = some z :=
  ⟨k, k.out.cell D.out.2.1 (by simp), k.out.cell D.out.2.2 (by simp)⟩
theorem mkS3 {w5 w' : World} {g h : Nat} {x y z u v : Value} (D : Hid (B3 w5 g x y z)) (M : Hid (B2 w5 h u v)) (k : Hid (Kept [] w5 w')) :
    Hid (Kept [] w5 w') ∧ w'.cell? ⟨g, 0, none⟩ = some x ∧ w'.cell? ⟨g, 1, none⟩ = some y ∧ w'.cell? ⟨g, 2, none⟩ = some z ∧ w'.cell? ⟨h, 1, none⟩ = some v :=
  ⟨k, k.out.cell D.out.1 (by simp), k.out.cell D.out.2.1 (by simp), k.out.cell D.out.2.2 (by simp), k.out.cell M.out.2 (by simp)⟩
theorem Kept.al (w : World) (o : Obj) : Kept [] w (w.alloc o) := (Kept.refl [] w).alloc o

set_option maxHeartbeats 40000000 in
set_option maxRecDepth 200000 in
theorem FnDivs_walk (a : Option Addr) (n c : Nat) (bs : List Int) (w : World) (h0 : n ≤ 1048576 → Rd8 w a n bs) :
    Calls Try.prog 4 #[.slice a n c] w (Ans w (.bool true)) := by
  by_cases hbig0 : 1048576 < n
  · go_enter Try.func4, Try.ntmps4
    go_wp2_with fail
    refine (lwBig_any _ _ _ _).mono ?_
    rintro e w1 ⟨rfl, rfl⟩
    rw [decide_eq_true (by omega)]
    go_wp2_with fail
    go_ret
    exact ⟨rfl, Kept.refl _ _⟩
  have HR := Lib.hid (h0 (by omega))
  clear h0
  go_enter Try.func4, Try.ntmps4
  go_wp2_with fail
  refine (lwBig_any _ _ _ _).mono ?_
  rintro e w0 ⟨rfl, hw⟩
  subst hw
  rw [decide_eq_false (by omega)]
  go_wp2_with fail
  refine (DrawDivNats_any _ _ _ _ _ HR.out).mono ?_
  rintro e w1 ⟨aa, ca, xs, ab, cb, ys, rfl, h1, h2, hk⟩
  have K1 := Lib.hid hk
  have L1 := Lib.hid (((SlL.nil _).cons h1.1).cons h2.1)
  have lx := Lib.hid h1.2.2.2
  have ly := Lib.hid h2.2.2.2
  clear h1 h2 hk
  obtain ⟨dc, hdc⟩ : ∃ v, v = divCode xs ys := ⟨_, rfl⟩
  obtain ⟨dq, hdq⟩ : ∃ v, v = divQuot xs ys := ⟨_, rfl⟩
  obtain ⟨dr, hdr⟩ : ∃ v, v = divRest xs ys := ⟨_, rfl⟩
  have HDC := Lib.hid hdc
  have HDQ := Lib.hid hdq
  have HDR := Lib.hid hdr
  clear hdc hdq hdr
  go_wp2_with fail
  refine (DivNats_any _ _ _ _ _ _ _ _ _ (L1.out.at (show (aa, ca, xs) ∈ _ by simp)).rd (L1.out.at (show (ab, cb, ys) ∈ _ by simp)).rd).mono ?_
  rw [← HDC.out, ← HDQ.out, ← HDR.out]
  rintro e w2 ⟨aq, cq, ar, cr, rfl, hq, hr, _, _, _, hk⟩
  have K2 := Lib.hid (K1.out.trans0 hk)
  have L2 := Lib.hid (((L1.out.kept0 hk).cons hq).cons hr)
  clear hq hr hk K1 L1
  have D2 := Lib.hid (B3.new w2 (.int .i64 dc) (.slice aq dq.length cq) (.slice ar dr.length cr) 45)
  have k2 := Lib.hid (Kept.al w2 (.cells #[.int .i64 dc, .slice aq dq.length cq, .slice ar dr.length cr] 45))
  go_wp2_with fail
  refine (DrawMulNats_any _ _ _ _ _ (HR.out.kept (K2.out.trans0 k2.out) (by simp))).mono ?_
  rintro e w3 ⟨ax, cx, us, ay, cy, vs, rfl, h1, h2, hk0⟩
  have hk := k2.out.trans0 hk0
  have K3 := Lib.hid (K2.out.trans0 hk)
  have D3 := Lib.hid (D2.out.kept0 hk0)
  have L3 := Lib.hid (((L2.out.kept0 hk).cons h1.1).cons h2.1)
  have lu := Lib.hid h1.2.2.2
  have lv := Lib.hid h2.2.2.2
  clear h1 h2 hk hk0 K2 L2 D2 k2
  obtain ⟨mc, hmc⟩ : ∃ v, v = mulC us vs := ⟨_, rfl⟩
  obtain ⟨ml, hml⟩ : ∃ v, v = mulL us vs := ⟨_, rfl⟩
  have HMC := Lib.hid hmc
  have HML := Lib.hid hml
  clear hmc hml
  go_wp2_with fail
  refine (MulNats_c _ _ _ _ _ _ _ _ _ (L3.out.at (show (ax, cx, us) ∈ _ by simp)).rd (L3.out.at (show (ay, cy, vs) ∈ _ by simp)).rd).mono ?_
  rw [← HMC.out, ← HML.out]
  rintro e w4 ⟨am, cm, rfl, hq, _, hk⟩
  have K4 := Lib.hid (K3.out.trans0 hk)
  have L4 := Lib.hid ((L3.out.kept0 hk).cons hq)
  have D4 := Lib.hid (D3.out.kept0 hk)
  clear hq hk K3 L3 D3
  have M4 := Lib.hid (B2.new w4 (.int .i64 mc) (.slice am ml.length cm) 28)
  have k4 := Lib.hid (Kept.al w4 (.cells #[.int .i64 mc, .slice am ml.length cm] 28))
  go_wp2_with fail
  refine (DrawCompareNats_any _ _ _ _ _ (HR.out.kept (K4.out.trans0 k4.out) (by simp))).mono ?_
  rintro e w5 ⟨ap, cp, ps, ao, co, os, rfl, h1, h2, hk0⟩
  have hk := k4.out.trans0 hk0
  have M5 := Lib.hid (M4.out.kept0 hk0)
  have D5 := Lib.hid (D4.out.kept0 hk)
  have K5 := Lib.hid (K4.out.trans0 hk)
  have L5 := Lib.hid (((L4.out.kept0 hk).cons h1.1).cons h2.1)
  clear h1 h2 hk hk0 K4 L4 D4 M4 k4
  obtain ⟨c0, c1, c2⟩ := D5.out
  have HCM := Lib.hid (cmp_flip ps os)
  obtain ⟨t, ht⟩ : ∃ t, t = (if fault2 ps os = 0 then cmpV (val ps) (val os) else 0) := ⟨_, rfl⟩
  obtain ⟨t', ht'⟩ : ∃ t, t = (if fault2 os ps = 0 then cmpV (val os) (val ps) else 0) := ⟨_, rfl⟩
  have HT := Lib.hid ht
  have HT' := Lib.hid ht'
  have htt : t' = -t := by rw [ht, ht']; exact HCM.out
  have htr : -1 ≤ t ∧ t ≤ 1 := by rw [ht]; exact cmp_small ps os
  clear ht ht'
  subst htt
  have ew1 : IntKind.i64.wrap t = t := IntWalk.i64_in _ (by omega)
  have ew2 : IntKind.i64.wrap (- -t) = t := by rw [Int.neg_neg]; exact ew1
  have ew3 : - -t = t := Int.neg_neg t
  clear htr
  go_wp2_with fail
  obtain ⟨m0, _⟩ := M5.out
  go_region_held3 (fun w' => Hid (Kept [] w5 w') ∧ w'.cell? ⟨w2.heap.size, 0, none⟩ = some (.int .i64 dc) ∧ w'.cell? ⟨w2.heap.size, 1, none⟩ = some (.slice aq dq.length cq) ∧ w'.cell? ⟨w2.heap.size, 2, none⟩ = some (.slice ar dr.length cr) ∧ w'.cell? ⟨w4.heap.size, 0, none⟩ = some (.int .i64 mc))
    (with_reducible first | assumption | exact mkS D5 M5 (by with_reducible first | assumption | exact Lib.hid ((Kept.refl _ _).drew) | exact Kept.allocD (by assumption) | exact Kept.alloc1 (by assumption) | exact Lib.hid (Kept.trans0 (Hid.out (by assumption)) (by assumption))))
    (first
      | (go_at_call 33; go_split_ands; refine (sDivNats_any _ _ _ _ _ _ _ _ _ (((L5.out.at (show (aa, ca, xs) ∈ _ by simp))).kept0 (Hid.out (by assumption))) (((L5.out.at (show (ab, cb, ys) ∈ _ by simp)).rd).kept0 (Hid.out (by assumption)))).mono ?_; rw [← HDC.out, ← HDQ.out, ← HDR.out]; rintro e v1 ⟨a1, c1', a2, c2', rfl, hs1, hs2, _, _, hk1⟩)
      | (go_at_call 34; go_split_ands; refine (sMulNats_c _ _ _ _ _ _ _ _ _ (((L5.out.at (show (ax, cx, us) ∈ _ by simp)).rd).kept0 (Hid.out (by assumption))) (((L5.out.at (show (ay, cy, vs) ∈ _ by simp)).rd).kept0 (Hid.out (by assumption)))).mono ?_; rw [← HMC.out, ← HML.out]; rintro e v2 ⟨a3, c3', rfl, hs3, _, hk2⟩)
      | (go_at_call 25; go_split_ands; refine (lwNums_yes _ _ _ _ _ _ _ (by with_reducible first | exact ((L5.out.at (show (aq, cq, dq) ∈ _ by simp)).rd).kept0 (Hid.out (by assumption)) | exact ((L5.out.at (show (ar, cr, dr) ∈ _ by simp)).rd).kept0 (Hid.out (by assumption))) (by with_reducible first | exact hs1.rd | exact hs2.rd | exact (hs1.kept0 (by assumption)).rd | exact (hs2.kept0 (by assumption)).rd)).mono ?_; rintro e v3 ⟨rfl, hk3⟩)
      | (go_at_call 26; go_split_ands; refine (CompareNats_any _ _ _ _ _ _ _ _ _ (by with_reducible first | exact (L5.out.at (show (ap, cp, ps) ∈ _ by simp)).rd.kept0 (Hid.out (by assumption)) | exact (L5.out.at (show (ao, co, os) ∈ _ by simp)).rd.kept0 (Hid.out (by assumption))) (by with_reducible first | exact (L5.out.at (show (ao, co, os) ∈ _ by simp)).rd.kept0 (Hid.out (by assumption)) | exact (L5.out.at (show (ap, cp, ps) ∈ _ by simp)).rd.kept0 (Hid.out (by assumption)))).mono ?_; (first | rw [← HT.out] | rw [← HT'.out]); rintro e v4 ⟨rfl, hk4⟩)
      | (go_at_call 35; go_split_ands; refine (sCompareNats_any _ _ _ _ _ _ _ _ _ (((L5.out.at (show (ap, cp, ps) ∈ _ by simp)).rd).kept0 (Hid.out (by assumption))) (((L5.out.at (show (ao, co, os) ∈ _ by simp)).rd).kept0 (Hid.out (by assumption)))).mono ?_; rw [← HT.out]; rintro e v5 ⟨rfl, hk5⟩))
  rename_i hH
  have Kv := Lib.hid hH.1.out
  clear hH ew1 ew2 ew3 hs1 hs2 hs3 hk1 hk2 hk3 hk4 hk5 c0 c1 c2 m0 HCM HT HT'
  have K6 := Lib.hid (K5.out.trans0 Kv.out)
  have D6 := Lib.hid (D5.out.kept0 Kv.out)
  have M6 := Lib.hid (M5.out.kept0 Kv.out)
  have L6 := Lib.hid (L5.out.kept0 Kv.out)
  clear K5 D5 M5 L5 Kv
  obtain ⟨m0, m1⟩ := M6.out
  by_cases hm : mc = 0
  · subst hm
    by_cases hv : 0 < vs.length
    · have hb := mul_back HMC.out.symm hv
      rw [← HML.out] at hb
      have HB := Lib.hid hb
      clear hb
      go_wp2_with fail
      refine (DivNats_any _ _ _ _ _ _ _ _ _ ((L6.out.at (show (am, cm, ml) ∈ _ by simp)).rd) ((L6.out.at (show (ay, cy, vs) ∈ _ by simp)).rd)).mono ?_
      rw [HB.out.1, HB.out.2.1, HB.out.2.2.1]
      rintro e w7 ⟨aS, cS, aR, cR, rfl, hq, hr, _, _, _, hk⟩
      have K7 := Lib.hid (K6.out.trans0 hk)
      have D7 := Lib.hid (D6.out.kept0 hk)
      have M7 := Lib.hid (M6.out.kept0 hk)
      have L7 := Lib.hid (((L6.out.kept0 hk).cons hq).cons hr)
      clear hq hr hk K6 D6 M6 L6 m0 m1
      obtain ⟨w8, h8⟩ : ∃ w8, w8 = w7.alloc (.cells #[.int .i64 0, .slice aS us.length cS, .slice aR 0 cR] 45) := ⟨_, rfl⟩
      have H8 := Lib.hid h8
      clear h8
      have k8 : Kept [] w7 w8 := by rw [H8.out]; exact Kept.al _ _
      have B8 : Hid (B3 w8 w7.heap.size (.int .i64 0) (.slice aS us.length cS) (.slice aR 0 cR)) := by rw [H8.out]; exact Lib.hid (B3.new _ _ _ _ _)
      have K8 := Lib.hid (K7.out.trans0 k8)
      have D8 := Lib.hid (D7.out.kept0 k8)
      have M8 := Lib.hid (M7.out.kept0 k8)
      have L8 := Lib.hid (L7.out.kept0 k8)
      clear K7 D7 M7 L7 k8
      go_wp2_with fail
      rw [← H8.out]
      obtain ⟨c0, c1, c2⟩ := B8.out
      obtain ⟨m0, m1⟩ := M8.out
      obtain ⟨pc, hpc⟩ : ∃ v, v = mulC vs us := ⟨_, rfl⟩
      have HPC := Lib.hid hpc
      clear hpc
      go_region_held3 (fun w' => Hid (Kept [] w8 w') ∧ w'.cell? ⟨w7.heap.size, 0, none⟩ = some (.int .i64 0) ∧ w'.cell? ⟨w7.heap.size, 1, none⟩ = some (.slice aS us.length cS) ∧ w'.cell? ⟨w7.heap.size, 2, none⟩ = some (.slice aR 0 cR) ∧ w'.cell? ⟨w4.heap.size, 1, none⟩ = some (.slice am ml.length cm))
        (with_reducible first | assumption | exact mkS3 B8 M8 (by with_reducible first | assumption | exact Lib.hid ((Kept.refl _ _).drew) | exact Kept.allocD (by assumption) | exact Kept.alloc1 (by assumption) | exact Lib.hid (Kept.trans0 (Hid.out (by assumption)) (by assumption))))
        (first
          | (go_at_call 31; go_split_ands; refine (MulNats_c _ _ _ _ _ _ _ _ _ (((L8.out.at (show (ay, cy, vs) ∈ _ by simp)).rd).kept0 (Hid.out (by assumption))) (((L8.out.at (show (ax, cx, us) ∈ _ by simp)).rd).kept0 (Hid.out (by assumption)))).mono ?_; rw [← HPC.out, HB.out.2.2.2]; rintro e u5 ⟨b5, d5, rfl, ht5, _, hj5⟩)
          | (go_at_call 25; go_split_ands; refine (lwNums_yes _ _ _ _ _ _ _ (by with_reducible first | exact ((L8.out.at (show (aS, cS, us) ∈ _ by simp)).rd).kept0 (Hid.out (by assumption)) | exact ht5.rd | exact (ht5.kept0 (by assumption)).rd) (by with_reducible first | exact ((L8.out.at (show (ax, cx, us) ∈ _ by simp)).rd).kept0 (Hid.out (by assumption)) | exact ((L8.out.at (show (am, cm, ml) ∈ _ by simp)).rd).kept0 (Hid.out (by assumption)))).mono ?_; rintro e u6 ⟨rfl, hj6⟩))
      rename_i hH
      have Kw := Lib.hid hH.1.out
      clear hH c0 c1 c2 m0 m1 B8 M8 ht5 hj5 hj6
      have K9 := Lib.hid (K8.out.trans0 Kw.out)
      have D9 := Lib.hid (D8.out.kept0 Kw.out)
      have L9 := Lib.hid (L8.out.kept0 Kw.out)
      clear K8 D8 L8 Kw
      generalize hw9 : u6 = w9 at *
      obtain ⟨c0, c1, c2⟩ := D9.out
      by_cases hd : dc = 0
      · subst hd
        have hb := div_back HDC.out.symm
        rw [← HDQ.out, ← HDR.out] at hb
        have HB := Lib.hid hb
        clear hb
        obtain ⟨qc, hqc⟩ : ∃ v, v = mulC dq ys := ⟨_, rfl⟩
        obtain ⟨qm, hqm⟩ : ∃ v, v = mulL dq ys := ⟨_, rfl⟩
        obtain ⟨sc, hsc⟩ : ∃ v, v = sumC qm dr := ⟨_, rfl⟩
        rw [← hqm] at HB
        have HQC := Lib.hid hqc
        have HQM := Lib.hid hqm
        have HSC := Lib.hid hsc
        clear hqc hqm hsc
        go_wp2_with fail
        go_region_held3 (fun w' => Hid (Kept [] w9 w') ∧ w'.cell? ⟨w2.heap.size, 1, none⟩ = some (.slice aq dq.length cq) ∧ w'.cell? ⟨w2.heap.size, 2, none⟩ = some (.slice ar dr.length cr))
          (with_reducible first | assumption | exact mkS1 D9 (by with_reducible first | assumption | exact Lib.hid ((Kept.refl _ _).drew) | exact Kept.allocD (by assumption) | exact Kept.alloc1 (by assumption) | exact Lib.hid (Kept.trans0 (Hid.out (by assumption)) (by assumption))))
          (first
            | (go_at_call 26; go_split_ands; refine (CompareNats_any _ _ _ _ _ _ _ _ _ (((L9.out.at (show (ar, cr, dr) ∈ _ by simp)).rd).kept0 (Hid.out (by assumption))) (((L9.out.at (show (ab, cb, ys) ∈ _ by simp)).rd).kept0 (Hid.out (by assumption)))).mono ?_; rw [HB.out.1]; rintro e u1 ⟨rfl, hj1⟩)
            | (go_at_call 31; go_split_ands; refine (MulNats_c _ _ _ _ _ _ _ _ _ (((L9.out.at (show (aq, cq, dq) ∈ _ by simp)).rd).kept0 (Hid.out (by assumption))) (((L9.out.at (show (ab, cb, ys) ∈ _ by simp)).rd).kept0 (Hid.out (by assumption)))).mono ?_; rw [← HQC.out, ← HQM.out]; rintro e u2 ⟨b1, d1, rfl, ht1, _, hj2⟩)
            | (go_at_call 9; go_split_ands; refine (AddNats_c _ _ _ _ _ _ _ _ _ (by with_reducible first | exact ht1.rd | exact (ht1.kept0 (by assumption)).rd) (((L9.out.at (show (ar, cr, dr) ∈ _ by simp)).rd).kept0 (Hid.out (by assumption)))).mono ?_; rw [← HSC.out, HB.out.2]; rintro e u3 ⟨b2, d2, rfl, ht2, _, hj3⟩)
            | (go_at_call 25; go_split_ands; refine (lwNums_yes _ _ _ _ _ _ _ (by with_reducible first | exact ht2.rd | exact (ht2.kept0 (by assumption)).rd) (((L9.out.at (show (aa, ca, xs) ∈ _ by simp)).rd).kept0 (Hid.out (by assumption)))).mono ?_; rintro e u4 ⟨rfl, hj4⟩))
        rename_i hH
        have KF := Lib.hid (K9.out.trans0 hH.1.out)
        clear hH
        go_wp2_with fail
        go_ret
        exact ⟨rfl, KF.out⟩
      · go_wp2_with fail
        go_ret
        exact ⟨rfl, K9.out⟩

    · skip
      obtain ⟨c0, c1, c2⟩ := D6.out
      by_cases hd : dc = 0
      · subst hd
        have hb := div_back HDC.out.symm
        rw [← HDQ.out, ← HDR.out] at hb
        have HB := Lib.hid hb
        clear hb
        obtain ⟨qc, hqc⟩ : ∃ v, v = mulC dq ys := ⟨_, rfl⟩
        obtain ⟨qm, hqm⟩ : ∃ v, v = mulL dq ys := ⟨_, rfl⟩
        obtain ⟨sc, hsc⟩ : ∃ v, v = sumC qm dr := ⟨_, rfl⟩
        rw [← hqm] at HB
        have HQC := Lib.hid hqc
        have HQM := Lib.hid hqm
        have HSC := Lib.hid hsc
        clear hqc hqm hsc
        go_wp2_with fail
        go_region_held3 (fun w' => Hid (Kept [] v4 w') ∧ w'.cell? ⟨w2.heap.size, 1, none⟩ = some (.slice aq dq.length cq) ∧ w'.cell? ⟨w2.heap.size, 2, none⟩ = some (.slice ar dr.length cr))
          (with_reducible first | assumption | exact mkS1 D6 (by with_reducible first | assumption | exact Lib.hid ((Kept.refl _ _).drew) | exact Kept.allocD (by assumption) | exact Kept.alloc1 (by assumption) | exact Lib.hid (Kept.trans0 (Hid.out (by assumption)) (by assumption))))
          (first
            | (go_at_call 26; go_split_ands; refine (CompareNats_any _ _ _ _ _ _ _ _ _ (((L6.out.at (show (ar, cr, dr) ∈ _ by simp)).rd).kept0 (Hid.out (by assumption))) (((L6.out.at (show (ab, cb, ys) ∈ _ by simp)).rd).kept0 (Hid.out (by assumption)))).mono ?_; rw [HB.out.1]; rintro e u1 ⟨rfl, hj1⟩)
            | (go_at_call 31; go_split_ands; refine (MulNats_c _ _ _ _ _ _ _ _ _ (((L6.out.at (show (aq, cq, dq) ∈ _ by simp)).rd).kept0 (Hid.out (by assumption))) (((L6.out.at (show (ab, cb, ys) ∈ _ by simp)).rd).kept0 (Hid.out (by assumption)))).mono ?_; rw [← HQC.out, ← HQM.out]; rintro e u2 ⟨b1, d1, rfl, ht1, _, hj2⟩)
            | (go_at_call 9; go_split_ands; refine (AddNats_c _ _ _ _ _ _ _ _ _ (by with_reducible first | exact ht1.rd | exact (ht1.kept0 (by assumption)).rd) (((L6.out.at (show (ar, cr, dr) ∈ _ by simp)).rd).kept0 (Hid.out (by assumption)))).mono ?_; rw [← HSC.out, HB.out.2]; rintro e u3 ⟨b2, d2, rfl, ht2, _, hj3⟩)
            | (go_at_call 25; go_split_ands; refine (lwNums_yes _ _ _ _ _ _ _ (by with_reducible first | exact ht2.rd | exact (ht2.kept0 (by assumption)).rd) (((L6.out.at (show (aa, ca, xs) ∈ _ by simp)).rd).kept0 (Hid.out (by assumption)))).mono ?_; rintro e u4 ⟨rfl, hj4⟩))
        rename_i hH
        have KF := Lib.hid (K6.out.trans0 hH.1.out)
        clear hH
        go_wp2_with fail
        go_ret
        exact ⟨rfl, KF.out⟩
      · go_wp2_with fail
        go_ret
        exact ⟨rfl, K6.out⟩

  · skip
    obtain ⟨c0, c1, c2⟩ := D6.out
    by_cases hd : dc = 0
    · subst hd
      have hb := div_back HDC.out.symm
      rw [← HDQ.out, ← HDR.out] at hb
      have HB := Lib.hid hb
      clear hb
      obtain ⟨qc, hqc⟩ : ∃ v, v = mulC dq ys := ⟨_, rfl⟩
      obtain ⟨qm, hqm⟩ : ∃ v, v = mulL dq ys := ⟨_, rfl⟩
      obtain ⟨sc, hsc⟩ : ∃ v, v = sumC qm dr := ⟨_, rfl⟩
      rw [← hqm] at HB
      have HQC := Lib.hid hqc
      have HQM := Lib.hid hqm
      have HSC := Lib.hid hsc
      clear hqc hqm hsc
      go_wp2_with fail
      go_region_held3 (fun w' => Hid (Kept [] v4 w') ∧ w'.cell? ⟨w2.heap.size, 1, none⟩ = some (.slice aq dq.length cq) ∧ w'.cell? ⟨w2.heap.size, 2, none⟩ = some (.slice ar dr.length cr))
        (with_reducible first | assumption | exact mkS1 D6 (by with_reducible first | assumption | exact Lib.hid ((Kept.refl _ _).drew) | exact Kept.allocD (by assumption) | exact Kept.alloc1 (by assumption) | exact Lib.hid (Kept.trans0 (Hid.out (by assumption)) (by assumption))))
        (first
          | (go_at_call 26; go_split_ands; refine (CompareNats_any _ _ _ _ _ _ _ _ _ (((L6.out.at (show (ar, cr, dr) ∈ _ by simp)).rd).kept0 (Hid.out (by assumption))) (((L6.out.at (show (ab, cb, ys) ∈ _ by simp)).rd).kept0 (Hid.out (by assumption)))).mono ?_; rw [HB.out.1]; rintro e u1 ⟨rfl, hj1⟩)
          | (go_at_call 31; go_split_ands; refine (MulNats_c _ _ _ _ _ _ _ _ _ (((L6.out.at (show (aq, cq, dq) ∈ _ by simp)).rd).kept0 (Hid.out (by assumption))) (((L6.out.at (show (ab, cb, ys) ∈ _ by simp)).rd).kept0 (Hid.out (by assumption)))).mono ?_; rw [← HQC.out, ← HQM.out]; rintro e u2 ⟨b1, d1, rfl, ht1, _, hj2⟩)
          | (go_at_call 9; go_split_ands; refine (AddNats_c _ _ _ _ _ _ _ _ _ (by with_reducible first | exact ht1.rd | exact (ht1.kept0 (by assumption)).rd) (((L6.out.at (show (ar, cr, dr) ∈ _ by simp)).rd).kept0 (Hid.out (by assumption)))).mono ?_; rw [← HSC.out, HB.out.2]; rintro e u3 ⟨b2, d2, rfl, ht2, _, hj3⟩)
          | (go_at_call 25; go_split_ands; refine (lwNums_yes _ _ _ _ _ _ _ (by with_reducible first | exact ht2.rd | exact (ht2.kept0 (by assumption)).rd) (((L6.out.at (show (aa, ca, xs) ∈ _ by simp)).rd).kept0 (Hid.out (by assumption)))).mono ?_; rintro e u4 ⟨rfl, hj4⟩))
      rename_i hH
      have KF := Lib.hid (K6.out.trans0 hH.1.out)
      clear hH
      go_wp2_with fail
      go_ret
      exact ⟨rfl, KF.out⟩
    · go_wp2_with fail
      go_ret
      exact ⟨rfl, K6.out⟩

end Go.Proofs.Ytledbpiaipmgkaa
