/-
  The walk of the law on naturals. No condition but that the argument reads as bytes.
-/
import Derived.Deep.RegionHeld3
import Derived.Deep.DrawnRows
import Derived.Deep.DeepCutAuto
import Derived.Test.YtledbpiaipmgkaaDrwC
import Derived.Test.YtledbpiaipmgkaaSlL
import Derived.Test.YtledbpiaipmgkaaNatsP
import Derived.Test.YtledbpiaipmgkaaJ2
import Derived.Test.YtledbpiaipmgkaaReadC
import Derived.Test.YtledbpiaipmgkaaReadS
import Derived.Test.YtledbpiaipmgkaaNText
import Derived.Test.YtledbpiaipmgkaaSSub
import Derived.Test.YtledbpiaipmgkaaMul
import Derived.Test.YtledbpiaipmgkaaSMul
namespace Go.Proofs.Ytledbpiaipmgkaa
open Go.RowKit

theorem field_d0 (v0 v1 v2 : Value) (w : World) : Sem.run Try.prog (Instr.field 45 (.agg #[v0, v1, v2]) 0) w = .ok v0 w := by kernel_rfl
theorem field_d1 (v0 v1 v2 : Value) (w : World) : Sem.run Try.prog (Instr.field 45 (.agg #[v0, v1, v2]) 1) w = .ok v1 w := by kernel_rfl
theorem field_d2 (v0 v1 v2 : Value) (w : World) : Sem.run Try.prog (Instr.field 45 (.agg #[v0, v1, v2]) 2) w = .ok v2 w := by kernel_rfl
theorem field_n0 (v0 v1 : Value) (w : World) : Sem.run Try.prog (Instr.field 28 (.agg #[v0, v1]) 0) w = .ok v0 w := by kernel_rfl
theorem field_n1 (v0 v1 : Value) (w : World) : Sem.run Try.prog (Instr.field 28 (.agg #[v0, v1]) 1) w = .ok v1 w := by kernel_rfl
attribute [local go_sem ↓] field_d0 field_d1 field_d2 field_n0 field_n1

theorem mkFnNats_1 {w5 w' : World} {bD bR bS : Nat} {v0 v1 v2 : Value} (c0 : w5.cell? ⟨bS, 0, none⟩ = some v0) (c1 : w5.cell? ⟨bD, 0, none⟩ = some v1) (c2 : w5.cell? ⟨bR, 0, none⟩ = some v2) (k : Hid (Kept [] w5 w')) : Hid (Kept [] w5 w') ∧ w'.cell? ⟨bS, 0, none⟩ = some v0 ∧ w'.cell? ⟨bD, 0, none⟩ = some v1 ∧ w'.cell? ⟨bR, 0, none⟩ = some v2 := ⟨k, k.out.cell c0 (by simp), k.out.cell c1 (by simp), k.out.cell c2 (by simp)⟩
theorem mkFnNats_2 {w5 w' : World} {bS : Nat} {v0 v1 : Value} (c0 : w5.cell? ⟨bS, 0, none⟩ = some v0) (c1 : w5.cell? ⟨bS, 1, none⟩ = some v1) (k : Hid (Kept [] w5 w')) : Hid (Kept [] w5 w') ∧ w'.cell? ⟨bS, 0, none⟩ = some v0 ∧ w'.cell? ⟨bS, 1, none⟩ = some v1 := ⟨k, k.out.cell c0 (by simp), k.out.cell c1 (by simp)⟩

set_option maxHeartbeats 40000000 in
set_option maxRecDepth 200000 in
theorem FnNats_walk (a : Option Addr) (n c : Nat) (bs : List Int) (w : World) (h0 : n ≤ 1048576 → Rd8 w a n bs) :
    Calls Try.prog 3 #[.slice a n c] w (Ans w (.bool true)) := by
  by_cases hbig0 : 1048576 < n
  · go_enter Try.func3, Try.ntmps3
    go_wp2_with fail
    refine (lwBig_any _ _ _ _).mono ?_
    rintro e w1 ⟨rfl, rfl⟩
    rw [decide_eq_true (by omega)]
    go_wp2_with fail
    go_ret
    exact ⟨rfl, Kept.refl _ _⟩
  have HR := Lib.hid (h0 (by omega))
  clear h0
  go_enter Try.func3, Try.ntmps3
  go_wp2_with fail
  refine (lwBig_any _ _ _ _).mono ?_
  rintro e w0 ⟨rfl, hw⟩
  subst hw
  rw [decide_eq_false (by omega)]
  have KK := Lib.hid (Kept.refl [] w0)
  have HL := Lib.hid (SlL.nil w0)
  go_wp2_with fail
  refine (DrawAddNats_any _ _ _ _ _ (HR.out.kept KK.out (by simp))).mono ?_
  rintro e w1 ⟨aa, ca, xs, ab, cb, ys, rfl, h1, h2, hk⟩
  replace KK := Lib.hid (KK.out.trans0 hk)
  replace HL := Lib.hid ((((HL.out.kept0 hk).cons h1.1).cons h2.1))
  have nxs := Lib.hid h1.2.2.1; have nys := Lib.hid h2.2.2.1
  have lxs := Lib.hid h1.2.2.2; have lys := Lib.hid h2.2.2.2
  clear h1 h2 hk
  obtain ⟨sc, hv⟩ : ∃ v, v = sumC xs ys := ⟨_, rfl⟩
  have HSC := Lib.hid hv
  clear hv
  obtain ⟨sl, hv⟩ : ∃ v, v = sumL xs ys := ⟨_, rfl⟩
  have HSL := Lib.hid hv
  clear hv
  go_wp2_with fail
  refine (AddNats_c _ _ _ _ _ _ _ _ _  (HL.out.at (show (aa, ca, xs) ∈ _ by simp)).rd (HL.out.at (show (ab, cb, ys) ∈ _ by simp)).rd).mono ?_
  rw [← HSC.out, ← HSL.out]
  rintro e w2 ⟨as_, cs, rfl, hq, _, hk⟩
  replace KK := Lib.hid (KK.out.trans0 hk)
  replace HL := Lib.hid (((HL.out.kept0 hk).cons hq))
  clear hk hq
  obtain ⟨w3, hb⟩ : ∃ w', w' = w2.alloc (.cells #[.int .i64 sc, .slice as_ sl.length cs] 28) := ⟨_, rfl⟩
  have HB := Lib.hid hb
  clear hb
  have hk : Kept [] w2 w3 := by rw [HB.out]; exact (Kept.refl [] w2).alloc _
  have XS : Hid (Bx w3 w2.heap.size [.int .i64 sc, .slice as_ sl.length cs]) := by rw [HB.out]; exact Lib.hid (Bx.new _ _ _)
  replace KK := Lib.hid (KK.out.trans0 hk)
  replace HL := Lib.hid ((HL.out.kept0 hk))
  clear hk
  go_wp2_with fail
  rw [← HB.out]
  clear HB
  refine (DrawSubNats_any _ _ _ _ _ (HR.out.kept KK.out (by simp))).mono ?_
  rintro e w4 ⟨ax, cx, us, ay, cy, vs, rfl, h1, h2, hk⟩
  replace KK := Lib.hid (KK.out.trans0 hk)
  replace HL := Lib.hid ((((HL.out.kept0 hk).cons h1.1).cons h2.1))
  replace XS := Lib.hid (XS.out.kept0 hk)
  clear h1 h2 hk
  obtain ⟨dc, hv⟩ : ∃ v, v = subCode us vs := ⟨_, rfl⟩
  have HDC := Lib.hid hv
  clear hv
  obtain ⟨dl, hv⟩ : ∃ v, v = subList us vs := ⟨_, rfl⟩
  have HDL := Lib.hid hv
  clear hv
  go_wp2_with fail
  refine (SubNats_any _ _ _ _ _ _ _ _ _  (HL.out.at (show (ax, cx, us) ∈ _ by simp)) (HL.out.at (show (ay, cy, vs) ∈ _ by simp)).rd).mono ?_
  rw [← HDC.out, ← HDL.out]
  rintro e w5 ⟨ad, cd, rfl, hq, _, hk⟩
  replace KK := Lib.hid (KK.out.trans0 hk)
  replace HL := Lib.hid (((HL.out.kept0 hk).cons hq))
  replace XS := Lib.hid (XS.out.kept0 hk)
  clear hk hq
  obtain ⟨w6, hb⟩ : ∃ w', w' = w5.alloc (.cells #[.int .i64 dc, .slice ad dl.length cd] 28) := ⟨_, rfl⟩
  have HB := Lib.hid hb
  clear hb
  have hk : Kept [] w5 w6 := by rw [HB.out]; exact (Kept.refl [] w5).alloc _
  have XD : Hid (Bx w6 w5.heap.size [.int .i64 dc, .slice ad dl.length cd]) := by rw [HB.out]; exact Lib.hid (Bx.new _ _ _)
  replace KK := Lib.hid (KK.out.trans0 hk)
  replace HL := Lib.hid ((HL.out.kept0 hk))
  replace XS := Lib.hid (XS.out.kept0 hk)
  clear hk
  go_wp2_with fail
  rw [← HB.out]
  clear HB
  refine (DrawReadNat_any _ _ _ _ _ (HR.out.kept KK.out (by simp))).mono ?_
  rintro e w7 ⟨tx, rfl, ht, hk⟩
  replace KK := Lib.hid (KK.out.trans0 hk)
  replace HL := Lib.hid ((HL.out.kept0 hk))
  replace XS := Lib.hid (XS.out.kept0 hk)
  replace XD := Lib.hid (XD.out.kept0 hk)
  clear hk
  obtain ⟨rc, hv⟩ : ∃ v, v = rnCode (bytesOf tx) := ⟨_, rfl⟩
  have HRC := Lib.hid hv
  clear hv
  obtain ⟨rl, hv⟩ : ∃ v, v = rnLimbs (bytesOf tx) := ⟨_, rfl⟩
  have HRL := Lib.hid hv
  clear hv
  go_wp2_with fail
  refine (ReadNat_any _ _  (by omega)).mono ?_
  rw [← HRC.out, ← HRL.out]
  rintro e w8 ⟨ar, cr, rfl, hq, _, hk⟩
  replace KK := Lib.hid (KK.out.trans0 hk)
  replace HL := Lib.hid (((HL.out.kept0 hk).cons hq))
  replace XS := Lib.hid (XS.out.kept0 hk)
  replace XD := Lib.hid (XD.out.kept0 hk)
  clear hk hq
  obtain ⟨w9, hb⟩ : ∃ w', w' = w8.alloc (.cells #[.int .i64 rc, .slice ar rl.length cr] 28) := ⟨_, rfl⟩
  have HB := Lib.hid hb
  clear hb
  have hk : Kept [] w8 w9 := by rw [HB.out]; exact (Kept.refl [] w8).alloc _
  have XR : Hid (Bx w9 w8.heap.size [.int .i64 rc, .slice ar rl.length cr]) := by rw [HB.out]; exact Lib.hid (Bx.new _ _ _)
  replace KK := Lib.hid (KK.out.trans0 hk)
  replace HL := Lib.hid ((HL.out.kept0 hk))
  replace XS := Lib.hid (XS.out.kept0 hk)
  replace XD := Lib.hid (XD.out.kept0 hk)
  clear hk
  go_wp2_with fail
  rw [← HB.out]
  clear HB
  refine (DrawNatOf_any _ _ _ _ _ (HR.out.kept KK.out (by simp))).mono ?_
  rintro e w10 ⟨m, rfl, hm1, hm2, hk⟩
  replace KK := Lib.hid (KK.out.trans0 hk)
  replace HL := Lib.hid ((HL.out.kept0 hk))
  replace XS := Lib.hid (XS.out.kept0 hk)
  replace XD := Lib.hid (XD.out.kept0 hk)
  replace XR := Lib.hid (XR.out.kept0 hk)
  clear hk
  go_wp2_with fail
  refine (DrawNatValue_any _ _ _ _ _ (HR.out.kept KK.out (by simp))).mono ?_
  rintro e w11 ⟨av, cv, zs, rfl, h1, hk⟩
  replace KK := Lib.hid (KK.out.trans0 hk)
  replace HL := Lib.hid (((HL.out.kept0 hk).cons h1.1))
  replace XS := Lib.hid (XS.out.kept0 hk)
  replace XD := Lib.hid (XD.out.kept0 hk)
  replace XR := Lib.hid (XR.out.kept0 hk)
  have nzs := Lib.hid h1.2.2.1; have lzs := Lib.hid h1.2.2.2
  clear h1 hk
  clear nzs lzs nxs nys lxs lys
  obtain ⟨nc, hv⟩ : ∃ v, v = (if m < 0 then (3 : Int) else 0) := ⟨_, rfl⟩
  have HNC := Lib.hid hv
  clear hv
  obtain ⟨nl, hv⟩ : ∃ v, v = digits m := ⟨_, rfl⟩
  have HNL := Lib.hid hv
  clear hv
  obtain ⟨vc, hv⟩ : ∃ v, v = valCode zs := ⟨_, rfl⟩
  have HVC := Lib.hid hv
  clear hv
  obtain ⟨vv, hv⟩ : ∃ v, v = valVal zs := ⟨_, rfl⟩
  have HVV := Lib.hid hv
  clear hv
  obtain ⟨fa, hv⟩ : ∃ v, v = natFault xs := ⟨_, rfl⟩
  have HFA := Lib.hid hv
  clear hv
  have HM2 := Lib.hid hm2
  go_upto_region 11 with fail
  go_cut [85] (fun v wx => v = .bool false ∧ Hid (Kept [] w11 wx))
  case first =>
    have cS0 := XS.out.at 0 (by simp) (v := .int .i64 sc) rfl
    have cD0 := XD.out.at 0 (by simp) (v := .int .i64 dc) rfl
    have cR0 := XR.out.at 0 (by simp) (v := .int .i64 rc) rfl
    go_region_held3 (fun w' => Hid (Kept [] w11 w') ∧ w'.cell? ⟨w2.heap.size, 0, none⟩ = some (.int .i64 sc) ∧ w'.cell? ⟨w5.heap.size, 0, none⟩ = some (.int .i64 dc) ∧ w'.cell? ⟨w8.heap.size, 0, none⟩ = some (.int .i64 rc))
      (with_reducible first | assumption | exact mkFnNats_1 cS0 cD0 cR0 (by with_reducible first | assumption | exact Lib.hid ((Kept.refl _ _).drew) | exact Kept.allocD (by assumption) | exact Kept.alloc1 (by assumption) | exact Lib.hid (Kept.trans0 (Hid.out (by assumption)) (by assumption))))
      (first
        | (go_at_call 16; go_split_ands; refine (sAddNats_c _ _ _ _ _ _ _ _ _ (((HL.out.at (show (aa, ca, xs) ∈ _ by simp)).rd).kept0 (Hid.out (by assumption))) (((HL.out.at (show (ab, cb, ys) ∈ _ by simp)).rd).kept0 (Hid.out (by assumption)))).mono ?_; rw [← HSC.out, ← HSL.out]; rintro e v1 ⟨b1, d1, rfl, _, _, hj1⟩)
        | (go_at_call 17; go_split_ands; refine (sSubNats_any _ _ _ _ _ _ _ _ _ (((HL.out.at (show (ax, cx, us) ∈ _ by simp)).rd).kept0 (Hid.out (by assumption))) (((HL.out.at (show (ay, cy, vs) ∈ _ by simp)).rd).kept0 (Hid.out (by assumption)))).mono ?_; rw [← HDC.out, ← HDL.out]; rintro e v2 ⟨b2, d2, rfl, _, _, hj2⟩)
        | (go_at_call 18; go_split_ands; refine (sReadNat_any _ _ (by omega)).mono ?_; rw [← HRC.out, ← HRL.out]; rintro e v3 ⟨b3, d3, rfl, _, _, hj3⟩)
        | (go_at_call 19; go_split_ands; refine (NatOf_any _ _ (HM2.out)).mono ?_; rw [← HNC.out, ← HNL.out]; rintro e v4 ⟨b4, d4, rfl, _, _, hj4⟩)
        | (go_at_call 20; go_split_ands; refine (sNatOf_any _ _ (HM2.out)).mono ?_; rw [← HNC.out, ← HNL.out]; rintro e v5 ⟨b5, d5, rfl, _, _, hj5⟩)
        | (go_at_call 21; go_split_ands; refine (NatValue_any _ _ _ _ _ (((HL.out.at (show (av, cv, zs) ∈ _ by simp)).rd).kept0 (Hid.out (by assumption)))).mono ?_; rw [← HVC.out, ← HVV.out]; rintro e v6 ⟨rfl, hj6⟩)
        | (go_at_call 22; go_split_ands; refine (sNatValue_any _ _ _ _ _ (((HL.out.at (show (av, cv, zs) ∈ _ by simp)).rd).kept0 (Hid.out (by assumption)))).mono ?_; rw [← HVC.out, ← HVV.out]; rintro e v7 ⟨rfl, hj7⟩)
        | (go_at_call 23; go_split_ands; refine (NatFault_any _ _ _ _ _ (((HL.out.at (show (aa, ca, xs) ∈ _ by simp)).rd).kept0 (Hid.out (by assumption)))).mono ?_; rw [← HFA.out]; rintro e v8 ⟨rfl, hj8⟩)
        | (go_at_call 24; go_split_ands; refine (sNatFault_any _ _ _ _ _ (((HL.out.at (show (aa, ca, xs) ∈ _ by simp)).rd).kept0 (Hid.out (by assumption)))).mono ?_; rw [← HFA.out]; rintro e v9 ⟨rfl, hj9⟩))
    rename_i hH
    go_wp2_with fail
    go_meet
    exact ⟨rfl, Lib.hid hH.1.out⟩
  case rest =>
    obtain ⟨rfl, hk0⟩ := hcut
    obtain ⟨w12, hw9⟩ : ∃ w' : World, w' = wc := ⟨_, rfl⟩
    subst hw9
    have hk := hk0.out
    clear hk0
    replace KK := Lib.hid (KK.out.trans0 hk)
    replace HL := Lib.hid ((HL.out.kept0 hk))
    replace XS := Lib.hid (XS.out.kept0 hk)
    replace XD := Lib.hid (XD.out.kept0 hk)
    replace XR := Lib.hid (XR.out.kept0 hk)
    clear hk
    go_upto_region 13 with fail
    go_cut [121] (fun v wx => v = .bool false ∧ Hid (Kept [] w12 wx))
    case first =>
      by_cases h0 : sc = 0
      · subst h0
        have hb := sum_back HSC.out.symm
        rw [← HSL.out] at hb
        obtain ⟨t, ht⟩ : ∃ t, t = cmpN sl xs := ⟨_, rfl⟩
        rw [← ht] at hb
        have HT := Lib.hid ht
        have ht0 := hb.2.2
        have hb3 : ¬ t < 0 := by omega
        have hb4 : decide (t < 0) = false := decide_eq_false hb3
        have HB := Lib.hid hb
        clear hb ht
        obtain ⟨qc, hqc⟩ : ∃ v, v = subCode sl ys := ⟨_, rfl⟩
        have HQC := Lib.hid hqc
        clear hqc
        have cS0 := XS.out.at 0 (by simp) rfl
        have cS1 := XS.out.at 1 (by simp) rfl
        go_region_held3 (fun w' => Hid (Kept [] w12 w') ∧ w'.cell? ⟨w2.heap.size, 0, none⟩ = some (.int .i64 0) ∧ w'.cell? ⟨w2.heap.size, 1, none⟩ = some (.slice as_ sl.length cs))
          (with_reducible first | assumption | exact mkFnNats_2 cS0 cS1 (by with_reducible first | assumption | exact Lib.hid ((Kept.refl _ _).drew) | exact Kept.allocD (by assumption) | exact Kept.alloc1 (by assumption) | exact Lib.hid (Kept.trans0 (Hid.out (by assumption)) (by assumption))))
          (first
            | (go_at_call 23; go_split_ands; refine (NatFault_any _ _ _ _ _ (((HL.out.at (show (as_, cs, sl) ∈ _ by simp)).rd).kept0 (Hid.out (by assumption)))).mono ?_; rw [HB.out.1]; rintro e v1 ⟨rfl, hj1⟩)
            | (go_at_call 11; go_split_ands; refine (SubNats_any _ _ _ _ _ _ _ _ _ (((HL.out.at (show (as_, cs, sl) ∈ _ by simp))).kept0 (Hid.out (by assumption))) (((HL.out.at (show (ab, cb, ys) ∈ _ by simp)).rd).kept0 (Hid.out (by assumption)))).mono ?_; rw [← HQC.out, HB.out.2.1]; rintro e v2 ⟨b2, d2, rfl, ht2, _, hj2⟩)
            | (go_at_call 25; go_split_ands; refine (lwNums_yes _ _ _ _ _ _ _ (by with_reducible first | exact ht2.rd | exact (ht2.kept0 (by assumption)).rd | exact ((HL.out.at (show (as_, cs, sl) ∈ _ by simp)).rd).kept0 (Hid.out (by assumption))) (by with_reducible first | exact ((HL.out.at (show (aa, ca, xs) ∈ _ by simp)).rd).kept0 (Hid.out (by assumption)) | exact ht5.rd | exact (ht5.kept0 (by assumption)).rd)).mono ?_; rintro e v3 ⟨rfl, hj3⟩)
            | (go_at_call 26; go_split_ands; refine (CompareNats_c _ _ _ _ _ _ _ _ _ (((HL.out.at (show (as_, cs, sl) ∈ _ by simp)).rd).kept0 (Hid.out (by assumption))) (((HL.out.at (show (aa, ca, xs) ∈ _ by simp)).rd).kept0 (Hid.out (by assumption)))).mono ?_; rw [← HT.out]; rintro e v4 ⟨rfl, hj4⟩)
            | (go_at_call 16; go_split_ands; refine (sAddNats_c _ _ _ _ _ _ _ _ _ (((HL.out.at (show (aa, ca, xs) ∈ _ by simp)).rd).kept0 (Hid.out (by assumption))) (((HL.out.at (show (ab, cb, ys) ∈ _ by simp)).rd).kept0 (Hid.out (by assumption)))).mono ?_; rw [← HSC.out, ← HSL.out]; rintro e v5 ⟨b5, d5, rfl, ht5, _, hj5⟩))
        rename_i hH
        go_wp2_with fail
        go_meet
        exact ⟨rfl, Lib.hid hH.1.out⟩
      · have z1 : (sc == 0) = false := beq_eq_false_iff_ne.2 h0
        have z2 : decide (sc = 0) = false := decide_eq_false h0
        have cS0 := XS.out.at 0 (by simp) rfl
        go_quiet (fail)
        go_wp2_with fail
        go_meet
        exact ⟨rfl, Lib.hid ((Kept.refl [] _).drewN _)⟩
    case rest =>
      obtain ⟨rfl, hk0⟩ := hcut
      obtain ⟨w13, hw9⟩ : ∃ w' : World, w' = wc := ⟨_, rfl⟩
      subst hw9
      have hk := hk0.out
      clear hk0
      replace KK := Lib.hid (KK.out.trans0 hk)
      replace HL := Lib.hid ((HL.out.kept0 hk))
      replace XS := Lib.hid (XS.out.kept0 hk)
      replace XD := Lib.hid (XD.out.kept0 hk)
      replace XR := Lib.hid (XR.out.kept0 hk)
      clear hk
      go_upto_region 15 with fail
      go_cut [140] (fun v wx => v = .bool false ∧ Hid (Kept [] w13 wx))
      case first =>
        by_cases h0 : dc = 0
        · subst h0
          have hb := sub_back HDC.out.symm
          rw [← HDL.out] at hb
          obtain ⟨t, ht⟩ : ∃ t, t = cmpN us vs := ⟨_, rfl⟩
          rw [← ht] at hb
          have HT := Lib.hid ht
          have ht0 := hb.2
          have hb3 : ¬ t < 0 := by omega
          have hb4 : decide (t < 0) = false := decide_eq_false hb3
          have HB := Lib.hid hb
          clear hb ht
          have cD0 := XD.out.at 0 (by simp) rfl
          have cD1 := XD.out.at 1 (by simp) rfl
          have K0 := Lib.hid (Kept.refl [] w13)
          go_wp2_with fail
          refine (AddNats_c _ _ _ _ _ _ _ _ _  ((HL.out.at (show (ad, cd, dl) ∈ _ by simp)).rd) ((HL.out.at (show (ay, cy, vs) ∈ _ by simp)).rd)).mono ?_
          rw [HB.out.1]
          rintro e v2 ⟨b2, d2, rfl, ht2, _, hj2⟩
          replace K0 := Lib.hid (K0.out.trans0 hj2)
          go_wp2_with fail
          refine (lwNums_yes _ _ _ _ _ _ _  (ht2.rd) ((HL.out.at (show (ax, cx, us) ∈ _ by simp)).rd.kept0 K0.out)).mono ?_
          rintro e v3 ⟨rfl, hj3⟩
          replace K0 := Lib.hid (K0.out.trans0 hj3)
          go_wp2_with fail
          refine (CompareNats_c _ _ _ _ _ _ _ _ _  ((HL.out.at (show (ax, cx, us) ∈ _ by simp)).rd.kept0 K0.out) ((HL.out.at (show (ay, cy, vs) ∈ _ by simp)).rd.kept0 K0.out)).mono ?_
          rw [← HT.out]
          rintro e v4 ⟨rfl, hj4⟩
          replace K0 := Lib.hid (K0.out.trans0 hj4)
          go_wp2_with fail
          go_meet
          exact ⟨rfl, K0⟩
        · have z1 : (dc == 0) = false := beq_eq_false_iff_ne.2 h0
          have z2 : decide (dc = 0) = false := decide_eq_false h0
          have cD0 := XD.out.at 0 (by simp) rfl
          go_wp2_with fail
          go_meet
          exact ⟨rfl, Lib.hid (Kept.refl [] _)⟩
      case rest =>
        obtain ⟨rfl, hk0⟩ := hcut
        obtain ⟨w14, hw9⟩ : ∃ w' : World, w' = wc := ⟨_, rfl⟩
        subst hw9
        have hk := hk0.out
        clear hk0
        replace KK := Lib.hid (KK.out.trans0 hk)
        replace HL := Lib.hid ((HL.out.kept0 hk))
        replace XS := Lib.hid (XS.out.kept0 hk)
        replace XD := Lib.hid (XD.out.kept0 hk)
        replace XR := Lib.hid (XR.out.kept0 hk)
        clear hk
        go_upto_region 17 with fail
        go_cut [151] (fun v wx => v = .bool false ∧ Hid (Kept [] w14 wx))
        case first =>
          by_cases h0 : rc = 0
          · subst h0
            have hb := read_back HRC.out.symm
            rw [← HRL.out] at hb
            have HB := Lib.hid hb
            clear hb
            have cR0 := XR.out.at 0 (by simp) rfl
            have cR1 := XR.out.at 1 (by simp) rfl
            have K0 := Lib.hid (Kept.refl [] w14)
            go_wp2_with fail
            refine (NatText_any _ _ _ _ _  ((HL.out.at (show (ar, cr, rl) ∈ _ by simp)))).mono ?_
            rw [HB.out.1, HB.out.2]
            rintro e v1 ⟨rfl, hj1⟩
            replace K0 := Lib.hid (K0.out.trans0 hj1)
            go_wp2_with fail
            go_meet
            exact ⟨rfl, K0⟩
          · have z1 : (rc == 0) = false := beq_eq_false_iff_ne.2 h0
            have z2 : decide (rc = 0) = false := decide_eq_false h0
            have cR0 := XR.out.at 0 (by simp) rfl
            go_wp2_with fail
            go_meet
            exact ⟨rfl, Lib.hid (Kept.refl [] _)⟩
        case rest =>
          obtain ⟨rfl, hk0⟩ := hcut
          obtain ⟨w15, hw9⟩ : ∃ w' : World, w' = wc := ⟨_, rfl⟩
          subst hw9
          have hk := hk0.out
          clear hk0
          replace KK := Lib.hid (KK.out.trans0 hk)
          replace HL := Lib.hid ((HL.out.kept0 hk))
          replace XS := Lib.hid (XS.out.kept0 hk)
          replace XD := Lib.hid (XD.out.kept0 hk)
          replace XR := Lib.hid (XR.out.kept0 hk)
          clear hk
          by_cases hm0 : m < 0
          · go_wp2_with fail
            go_ret
            exact ⟨rfl, KK.out⟩
          · have hv := value_back (n := m) (by omega) HM2.out
            rw [← HNL.out] at hv
            have HV := Lib.hid hv
            clear hv hm1 hm2
            go_wp2_with fail
            refine (NatOf_any _ _ HM2.out).mono ?_
            rw [← HNC.out, ← HNL.out]
            rintro e v1 ⟨b4, d4, rfl, ht4, _, hj4⟩
            go_wp2_with fail
            refine (NatValue_any _ _ _ _ _ ht4.rd).mono ?_
            rw [HV.out.1, HV.out.2]
            rintro e v2 ⟨rfl, hj5⟩
            have KF := Lib.hid ((KK.out.trans0 hj4).trans0 hj5)
            go_wp2_with fail
            go_ret
            exact ⟨rfl, KF.out⟩

end Go.Proofs.Ytledbpiaipmgkaa
