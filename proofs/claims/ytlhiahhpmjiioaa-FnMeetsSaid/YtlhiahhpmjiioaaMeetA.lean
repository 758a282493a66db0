/-
  Contract of MeetSpan, the model's. Conditions: the limbs read as lists of numbers.
-/
import Derived.Deep.RegionHeld3
import Derived.Deep.DrawnRows
import Derived.Deep.DeepCutAuto
import Derived.Test.YtlhiahhpmjiioaaMeetD
namespace Go.Proofs.Ytlhiahhpmjiioaa
open Go.RowKit


set_option maxHeartbeats 16000000 in
set_option maxRecDepth 20000 in
theorem sMeetSpan_any (p q : Bool) (a b : Option Addr) (n c m d : Nat) (xs ys : List Int) (p' q' : Bool) (a' b' : Option Addr) (n' c' m' d' : Nat) (xs' ys' : List Int) (w : World) (h1 : Sl w a n c xs) (h2 : Sl w b m d ys) (h3 : Sl w a' n' c' xs') (h4 : Sl w b' m' d' ys') :
    Calls Try.prog 10 #[.agg #[.bool p, .slice a n c, .bool q, .slice b m d], .agg #[.bool p', .slice a' n' c', .bool q', .slice b' m' d']] w (SpanM w (meetS p xs q ys p' xs' q' ys')) := by
  have H1 := Lib.hid h1
  have H2 := Lib.hid h2
  have H3 := Lib.hid h3
  have H4 := Lib.hid h4
  clear h1 h2 h3 h4
  have F1 := Lib.hid H1.out.lt
  have F2 := Lib.hid H2.out.lt
  have F3 := Lib.hid H3.out.lt
  have F4 := Lib.hid H4.out.lt
  by_cases hz : spanFault2 p xs q ys p' xs' q' ys' = 0
  · skip
    obtain ⟨t1, ht1⟩ : ∃ t, t = maxZ (sv p xs) (sv p' xs') := ⟨_, rfl⟩
    obtain ⟨t2, ht2⟩ : ∃ t, t = minZ (sv q ys) (sv q' ys') := ⟨_, rfl⟩
    have hz0 := hz
    have HZ := Lib.hid hz
    obtain ⟨ox, oy⟩ := spanFault2_zero hz
    have OX := Lib.hid ox
    have OY := Lib.hid oy
    clear ox oy hz
    have B1 := Lib.hid OX.out.lo
    have B2 := Lib.hid OX.out.hi
    have B3 := Lib.hid OY.out.lo
    have B4 := Lib.hid OY.out.hi
    have X1 := Lib.hid OX.out.lx
    have X2 := Lib.hid OX.out.ly
    have X3 := Lib.hid OY.out.lx
    have X4 := Lib.hid OY.out.ly
    have l1 : (mag t1).length ≤ 20 := by rw [ht1]; exact maxZ_len B1.out B3.out X1.out X3.out
    have l2 : (mag t2).length ≤ 20 := by rw [ht2]; exact minZ_len B2.out B4.out X2.out X4.out
    obtain ⟨r, hr⟩ : ∃ r : SV, r = (if t2 < t1 then noSpan 4 else fitS t1 t2) := ⟨_, rfl⟩
    rw [show meetS p xs q ys p' xs' q' ys' = r from by unfold meetS; rw [twoS_zero hz0, ← ht1, ← ht2, hr]]
    have HRR := Lib.hid hr
    clear hr
    have HT1 := Lib.hid ht1
    have HT2 := Lib.hid ht2
    have BT1 := Lib.hid (bigOk_of (z := t1) (by omega))
    have BT2 := Lib.hid (bigOk_of (z := t2) (by omega))
    clear ht1 ht2 hz0
    go_enter Try.func10, Try.ntmps10
    go_wp2_with fail
    generalize hW : (((w.alloc (.cells #[.bool p, .slice a n c, .bool q, .slice b m d] 28)).alloc (.cells #[.bool p', .slice a' n' c', .bool q', .slice b' m' d'] 28)).alloc (.cells #[.int .i64 0, .bool false, .slice none 0 0, .bool false, .slice none 0 0] 32)) = ww0
    have hkk : Kept [] (((w.alloc (.cells #[.bool p, .slice a n c, .bool q, .slice b m d] 28)).alloc (.cells #[.bool p', .slice a' n' c', .bool q', .slice b' m' d'] 28)).alloc (.cells #[.int .i64 0, .bool false, .slice none 0 0, .bool false, .slice none 0 0] 32)) ww0 := by rw [hW]; exact Kept.refl _ _
    have zzA : w.heap.size + 1 + 1 + 1 = ww0.heap.size := by rw [← hW]; simp
    obtain ⟨⟨nA0, nA1, nA2, nA3⟩, _⟩ := tp4 hkk.peel.peel (g := w.heap.size) (by simp) (by simp)
    obtain ⟨⟨nB0, nB1, nB2, nB3⟩, _⟩ := tp4 hkk.peel (g := w.heap.size + 1) (by simp) (by simp)
    obtain ⟨⟨nR0, nR1, nR2, nR3, nR4⟩, fR0, fR1, fR2, fR3, fR4⟩ := tp5 hkk (g := w.heap.size + 1 + 1) (by simp) (by simp)
    have hk := hkk.peel.peel.peel
    clear hkk hW
    have z0 := hk.size
    have KT := Lib.hid hk
    clear hk
    replace H1 := Lib.hid (H1.out.kept0 KT.out)
    replace H2 := Lib.hid (H2.out.kept0 KT.out)
    replace H3 := Lib.hid (H3.out.kept0 KT.out)
    replace H4 := Lib.hid (H4.out.kept0 KT.out)
    refine (l3Two_any _ _ _ _ _ _ _ _ _ _ _ _ _ _ _ _ _ _ _ _ _ H1.out H2.out H3.out H4.out).mono ?_
    rintro e ww1 ⟨rfl, hk⟩
    rw [HZ.out]
    have z1 := hk.size
    replace fR0 := kf hk nR0 fR0
    replace fR1 := kf hk nR1 fR1
    replace fR2 := kf hk nR2 fR2
    replace fR3 := kf hk nR3 fR3
    replace fR4 := kf hk nR4 fR4
    replace nA0 := kc hk nA0
    replace nA1 := kc hk nA1
    replace nA2 := kc hk nA2
    replace nA3 := kc hk nA3
    replace nB0 := kc hk nB0
    replace nB1 := kc hk nB1
    replace nB2 := kc hk nB2
    replace nB3 := kc hk nB3
    replace nR0 := kc hk nR0
    replace nR1 := kc hk nR1
    replace nR2 := kc hk nR2
    replace nR3 := kc hk nR3
    replace nR4 := kc hk nR4
    replace H1 := Lib.hid (H1.out.kept0 hk)
    replace H2 := Lib.hid (H2.out.kept0 hk)
    replace H3 := Lib.hid (H3.out.kept0 hk)
    replace H4 := Lib.hid (H4.out.kept0 hk)
    replace KT := Lib.hid (KT.out.trans0 hk)
    clear hk
    have tA0 := nA0.out
    have tA1 := nA1.out
    have tA2 := nA2.out
    have tA3 := nA3.out
    have tB0 := nB0.out
    have tB1 := nB1.out
    have tB2 := nB2.out
    have tB3 := nB3.out
    have kr := Lib.hid (Kept.refl [] ww1)
    have hUw : w.heap.size ≤ ww1.heap.size := by omega
    go_upto_region 4 with fail
    go_cut [6] (fun s wx => Hid (Box4F ww1 t1 t2 s wx))
    case first =>
      have hHeld : RdE ww1 w.heap.size (w.heap.size + 1) (.bool p) (.slice a n c) (.bool q) (.slice b m d) (.bool p') (.slice a' n' c') (.bool q') (.slice b' m' d') ww1.drew := ⟨tA0, tA1, tA2, tA3, tB0, tB1, tB2, tB3, (Kept.refl [] ww1).drew⟩
      have l7 := World.block_lt_of_cell? ww1 _ tA0; have l8 := World.block_lt_of_cell? ww1 _ tB0; dsimp only at l7 l8
      clear tA0 tA1 tA2 tA3 tB0 tB1 tB2 tB3 kr
      refine wp_region_held_drew (S := RdE ww1 w.heap.size (w.heap.size + 1) (.bool p) (.slice a n c) (.bool q) (.slice b m d) (.bool p') (.slice a' n' c') (.bool q') (.slice b' m' d')) (by kernel_rfl) hHeld (fun hHeld => ?_)
      refine take_d (i := 0) (d := 14) (v := .pointer (some ⟨w.heap.size, 0, none⟩)) rfl rfl (by kernel_rfl) (by kernel_rfl) (by kernel_rfl) (fun _ _ _ h => h) (by rfl) ?_ hHeld ?_
      · intro w9 _; go_simp
      simp only [List.setIfInBounds_toArray, List.set_cons_zero, List.set_cons_succ]
      refine take_d (i := 1) (d := 15) (v := .agg #[.bool p, .slice a n c]) rfl rfl (by kernel_rfl) (by kernel_rfl) (by kernel_rfl) (fun _ _ _ h => h) (by rfl) ?_ hHeld ?_
      · intro w9 hS9; obtain ⟨t0, t1, t2, t3, s0, s1, s2, s3, _⟩ := hS9; go_simp
      simp only [List.setIfInBounds_toArray, List.set_cons_zero, List.set_cons_succ]
      refine take_d (i := 2) (d := 16) (v := .pointer (some ⟨w.heap.size + 1, 0, none⟩)) rfl rfl (by kernel_rfl) (by kernel_rfl) (by kernel_rfl) (fun _ _ _ h => h) (by rfl) ?_ hHeld ?_
      · intro w9 _; go_simp
      simp only [List.setIfInBounds_toArray, List.set_cons_zero, List.set_cons_succ]
      refine take_d (i := 3) (d := 17) (v := .agg #[.bool p', .slice a' n' c']) rfl rfl (by kernel_rfl) (by kernel_rfl) (by kernel_rfl) (fun _ _ _ h => h) (by rfl) ?_ hHeld ?_
      · intro w9 hS9; obtain ⟨t0, t1, t2, t3, s0, s1, s2, s3, _⟩ := hS9; go_simp
      simp only [List.setIfInBounds_toArray, List.set_cons_zero, List.set_cons_succ]
      refine take_d (i := 6) (d := 20) (v := .pointer (some ⟨w.heap.size, 2, none⟩)) rfl rfl (by kernel_rfl) (by kernel_rfl) (by kernel_rfl) (fun _ _ _ h => h) (by rfl) ?_ hHeld ?_
      · intro w9 _; go_simp
      simp only [List.setIfInBounds_toArray, List.set_cons_zero, List.set_cons_succ]
      refine take_d (i := 7) (d := 21) (v := .agg #[.bool q, .slice b m d]) rfl rfl (by kernel_rfl) (by kernel_rfl) (by kernel_rfl) (fun _ _ _ h => h) (by rfl) ?_ hHeld ?_
      · intro w9 hS9; obtain ⟨t0, t1, t2, t3, s0, s1, s2, s3, _⟩ := hS9; go_simp
      simp only [List.setIfInBounds_toArray, List.set_cons_zero, List.set_cons_succ]
      refine take_d (i := 8) (d := 22) (v := .pointer (some ⟨w.heap.size + 1, 2, none⟩)) rfl rfl (by kernel_rfl) (by kernel_rfl) (by kernel_rfl) (fun _ _ _ h => h) (by rfl) ?_ hHeld ?_
      · intro w9 _; go_simp
      simp only [List.setIfInBounds_toArray, List.set_cons_zero, List.set_cons_succ]
      refine take_d (i := 9) (d := 23) (v := .agg #[.bool q', .slice b' m' d']) rfl rfl (by kernel_rfl) (by kernel_rfl) (by kernel_rfl) (fun _ _ _ h => h) (by rfl) ?_ hHeld ?_
      · intro w9 hS9; obtain ⟨t0, t1, t2, t3, s0, s1, s2, s3, _⟩ := hS9; go_simp
      simp only [List.setIfInBounds_toArray, List.set_cons_zero, List.set_cons_succ]
      refine run_from #[true, true, true, true, true, true, true, true, true, true, true, true, true, true, false] 1 (by kernel_rfl) (fun a0 listed a8 w9 => ∃ (r1 r2 c1 c2 a1 bd : Bool) (s1 s2 v1 v2 p1 v3 : Value) (gs : List Nat) (l : List Bg3), listed = #[true, true, true, true, r1, c1, true, true, true, true, r2, c2, bd, a1, false] ∧ (c1 = true → r1 = true) ∧ (c2 = true → r2 = true ∧ c1 = true) ∧ (bd = true → c2 = true) ∧ (bd = true → ∃ x0 x1 x2 x3, v1 = .agg #[x0, x1] ∧ v2 = .agg #[x2, x3] ∧ v3 = .agg #[x0, x1, x2, x3]) ∧ a8 = ((((((a0.put (some 18) s1).put (some 19) v1).put (some 24) s2).put (some 25) v2).put (some 6) p1).put (some 26) v3) ∧ RdE ww1 w.heap.size (w.heap.size + 1) (.bool p) (.slice a n c) (.bool q) (.slice b m d) (.bool p') (.slice a' n' c') (.bool q') (.slice b' m' d') w9 ∧ StR ww1 #[.bool false, .slice none 0 0, .bool false, .slice none 0 0] 28 (fun t => Fr ww1.heap.size t.1 (mag t.2.2).length) ⟨p, a, n, c, xs⟩ ⟨q, b, m, d, ys⟩ ⟨p', a', n', c', xs'⟩ ⟨q', b', m', d', ys'⟩ t1 t2 r1 r2 c1 c2 a1 false s1 s2 v1 v2 p1 undef gs l w9) ?_ ?_ ?_ ⟨false, false, false, false, false, false, _, _, _, _, _, _, [], [], rfl, nofun, nofun, nofun, nofun, rfl, hHeld, StR.start (Kept.refl [] ww1).drew⟩ (by kernel_rfl)
      · clear hHeld
        rintro a9 W9 ⟨r1, r2, c1, c2, a1, bd, s1, s2, v1, v2, p1, v3, gs, l, hl, _, _, _, hv3, rfl, hHeld, hS⟩
        obtain rfl : r1 = true := congrArg (fun x : Array Bool => x.getD 4 false) hl.symm
        obtain rfl : r2 = true := congrArg (fun x : Array Bool => x.getD 10 false) hl.symm
        obtain rfl : c1 = true := congrArg (fun x : Array Bool => x.getD 5 false) hl.symm
        obtain rfl : c2 = true := congrArg (fun x : Array Bool => x.getD 11 false) hl.symm
        obtain rfl : a1 = true := congrArg (fun x : Array Bool => x.getD 13 false) hl.symm
        obtain rfl : bd = true := congrArg (fun x : Array Bool => x.getD 12 false) hl.symm
        clear hl
        obtain ⟨hM, _, _, hv1, hv2, hp1, hp2, hpp⟩ := hS
        obtain ⟨b1, cc1, rfl, m1⟩ := hv1 rfl
        obtain ⟨b2, cc2, rfl, m2⟩ := hv2 rfl
        obtain ⟨gX, rfl, gX9⟩ := hp1 rfl
        obtain ⟨x0, x1, x2, x3, q1, q2, rfl⟩ := hv3 rfl; simp only [Value.agg.injEq, Array.mk.injEq, List.cons.injEq, and_true] at q1 q2; obtain ⟨rfl, rfl⟩ := q1; obtain ⟨rfl, rfl⟩ := q2
        clear hv1 hv2 hp1 hp2 hpp
        simp only [Act.put, List.setIfInBounds_toArray, List.set_cons_zero, List.set_cons_succ]
        have mX := hM.2.1 gX gX9
        have d0 := cell_of_row W9 gX 0 _ _ _ mX.2; have i0 := frozen_of_row W9 gX 0 _ _ mX.2
        have d1 := cell_of_row W9 gX 1 _ _ _ mX.2; have i1 := frozen_of_row W9 gX 1 _ _ mX.2
        have d2 := cell_of_row W9 gX 2 _ _ _ mX.2; have i2 := frozen_of_row W9 gX 2 _ _ mX.2
        have d3 := cell_of_row W9 gX 3 _ _ _ mX.2; have i3 := frozen_of_row W9 gX 3 _ _ mX.2
        refine wpAnyH_ready (rs := [14]) (by kernel_rfl) (by simp) ?_
        refine AllReadyH.cons rfl (fun K hK => ?_) AllReadyH.nil
        go_simp
        clear d0 i0 d1 i1 d2 i2 d3 i3
        have kX : Kept [gX] W9 ((((W9.setCell ⟨gX, 0, none⟩ (.bool (isNeg t1))).setCell ⟨gX, 1, none⟩ (.slice b1 (mag t1).length cc1)).setCell ⟨gX, 2, none⟩ (.bool (isNeg t2))).setCell ⟨gX, 3, none⟩ (.slice b2 (mag t2).length cc2)) := (Kept.set4 (Lib.hid (Kept.refl [gX] W9))).out
        refine hK.out _ ((((W9.setCell ⟨gX, 0, none⟩ (.bool (isNeg t1))).setCell ⟨gX, 1, none⟩ (.slice b1 (mag t1).length cc1)).setCell ⟨gX, 2, none⟩ (.bool (isNeg t2))).setCell ⟨gX, 3, none⟩ (.slice b2 (mag t2).length cc2)) (hHeld.set kX mX.1 l7 l8) (fun hHeld => ?_)
        clear hK
        refine wpAnyH_done (by kernel_rfl) ?_ _
        go_wp2_with fail
        go_meet
        exact Lib.hid (box4_fin (v := W9) (set4_heap mX.2) mX.1 kX (hM.2.2.1 _ m1) (hM.2.2.1 _ m2) (hM.2.2.2.1 gX gX9 _ m1) (hM.2.2.2.1 gX gX9 _ m2) (hM.2.2.2.2 _ m1) (hM.2.2.2.2 _ m2) hM.1)
      · clear hHeld
        rintro fuel listed a9 W9 ⟨r1, r2, c1, c2, a1, bd, s1, s2, v1, v2, p1, v3, gs, l, rfl, hc1, hc2, hbd, hv3, rfl, hHeld, hS⟩ hne hcnt ih
        have IH := Lib.hid ih; have HC := Lib.hid hcnt; have HS := Lib.hid hS; have HV3 := Lib.hid hv3; clear ih hcnt hS hv3
        simp only [Act.put, List.setIfInBounds_toArray, List.set_cons_zero, List.set_cons_succ]
        cases r1 <;> cases r2 <;> cases c1 <;> cases c2 <;> cases a1 <;> cases bd
        any_goals (first | exact absurd (hc1 rfl) Bool.false_ne_true | exact absurd (hc2 rfl).1 Bool.false_ne_true | exact absurd (hc2 rfl).2 Bool.false_ne_true | exact absurd (hbd rfl) Bool.false_ne_true | exact absurd rfl hne)
        all_goals clear hc1 hc2 hne hbd
        · refine wpAnyH_ready (rs := [4, 10, 13]) (by kernel_rfl) (by simp) ?_
          refine AllReadyH.cons rfl (fun K hK => ?_) (AllReadyH.cons rfl (fun K hK => ?_) (AllReadyH.cons rfl (fun K hK => ?_) AllReadyH.nil))
          · go_simp; refine hK.out _ _ (hHeld.kept ((Kept.refl [] _).alloc _)) (fun hHeld => IH.out _ _ _ ⟨true, false, false, false, false, false, _, _, _, _, _, _, _, _, rfl, by decide, by decide, by decide, nofun, rfl, hHeld, HS.out.row1 _⟩ (Nat.succ.inj HC.out))
          · go_simp; refine hK.out _ _ (hHeld.kept ((Kept.refl [] _).alloc _)) (fun hHeld => IH.out _ _ _ ⟨false, true, false, false, false, false, _, _, _, _, _, _, _, _, rfl, by decide, by decide, by decide, nofun, rfl, hHeld, HS.out.row2 _⟩ (Nat.succ.inj HC.out))
          · go_simp; refine hK.out _ _ (hHeld.kept ((Kept.refl [] _).alloc _)) (fun hHeld => IH.out _ _ _ ⟨false, false, false, false, true, false, _, _, _, _, _, _, _, _, rfl, by decide, by decide, by decide, nofun, rfl, hHeld, HS.out.box1⟩ (Nat.succ.inj HC.out))
        · refine wpAnyH_ready (rs := [4, 10]) (by kernel_rfl) (by simp) ?_
          refine AllReadyH.cons rfl (fun K hK => ?_) (AllReadyH.cons rfl (fun K hK => ?_) AllReadyH.nil)
          · go_simp; refine hK.out _ _ (hHeld.kept ((Kept.refl [] _).alloc _)) (fun hHeld => IH.out _ _ _ ⟨true, false, false, false, true, false, _, _, _, _, _, _, _, _, rfl, by decide, by decide, by decide, nofun, rfl, hHeld, HS.out.row1 _⟩ (Nat.succ.inj HC.out))
          · go_simp; refine hK.out _ _ (hHeld.kept ((Kept.refl [] _).alloc _)) (fun hHeld => IH.out _ _ _ ⟨false, true, false, false, true, false, _, _, _, _, _, _, _, _, rfl, by decide, by decide, by decide, nofun, rfl, hHeld, HS.out.row2 _⟩ (Nat.succ.inj HC.out))
        · refine wpAnyH_ready (rs := [4, 13]) (by kernel_rfl) (by simp) ?_
          refine AllReadyH.cons rfl (fun K hK => ?_) (AllReadyH.cons rfl (fun K hK => ?_) AllReadyH.nil)
          · go_simp; refine hK.out _ _ (hHeld.kept ((Kept.refl [] _).alloc _)) (fun hHeld => IH.out _ _ _ ⟨true, true, false, false, false, false, _, _, _, _, _, _, _, _, rfl, by decide, by decide, by decide, nofun, rfl, hHeld, HS.out.row1 _⟩ (Nat.succ.inj HC.out))
          · go_simp; refine hK.out _ _ (hHeld.kept ((Kept.refl [] _).alloc _)) (fun hHeld => IH.out _ _ _ ⟨false, true, false, false, true, false, _, _, _, _, _, _, _, _, rfl, by decide, by decide, by decide, nofun, rfl, hHeld, HS.out.box1⟩ (Nat.succ.inj HC.out))
        · refine wpAnyH_ready (rs := [4]) (by kernel_rfl) (by simp) ?_
          refine AllReadyH.cons rfl (fun K hK => ?_) AllReadyH.nil
          · go_simp; refine hK.out _ _ (hHeld.kept ((Kept.refl [] _).alloc _)) (fun hHeld => IH.out _ _ _ ⟨true, true, false, false, true, false, _, _, _, _, _, _, _, _, rfl, by decide, by decide, by decide, nofun, rfl, hHeld, HS.out.row1 _⟩ (Nat.succ.inj HC.out))
        · refine wpAnyH_ready (rs := [5, 10, 13]) (by kernel_rfl) (by simp) ?_
          refine AllReadyH.cons rfl (fun K hK => ?_) (AllReadyH.cons rfl (fun K hK => ?_) (AllReadyH.cons rfl (fun K hK => ?_) AllReadyH.nil))
          · go_simp; obtain ⟨g9, rfl, hrow⟩ := HS.out.2.1 rfl; refine (l3Most_two g9 p p' a a' n c n' c' xs xs' t1 _ hrow (H1.out.kept0 HS.out.1.1) (H3.out.kept0 HS.out.1.1) B1.out B3.out HT1.out).mono ?_; rintro e v9 ⟨b9, c9, rfl, hs, hf, hk⟩; refine hK.out _ _ (hHeld.kept hk) (fun hHeld => IH.out _ _ _ ⟨true, false, true, false, false, false, _, _, _, _, _, _, _, _, rfl, by decide, by decide, by decide, nofun, rfl, hHeld, HS.out.call1 hk hs (fun hn x hx => .inr (hf hn x hx)) (hf.mono HS.out.1.1.size)⟩ (Nat.succ.inj HC.out))
          · go_simp; refine hK.out _ _ (hHeld.kept ((Kept.refl [] _).alloc _)) (fun hHeld => IH.out _ _ _ ⟨true, true, false, false, false, false, _, _, _, _, _, _, _, _, rfl, by decide, by decide, by decide, nofun, rfl, hHeld, HS.out.row2 _⟩ (Nat.succ.inj HC.out))
          · go_simp; refine hK.out _ _ (hHeld.kept ((Kept.refl [] _).alloc _)) (fun hHeld => IH.out _ _ _ ⟨true, false, false, false, true, false, _, _, _, _, _, _, _, _, rfl, by decide, by decide, by decide, nofun, rfl, hHeld, HS.out.box1⟩ (Nat.succ.inj HC.out))
        · refine wpAnyH_ready (rs := [5, 10]) (by kernel_rfl) (by simp) ?_
          refine AllReadyH.cons rfl (fun K hK => ?_) (AllReadyH.cons rfl (fun K hK => ?_) AllReadyH.nil)
          · go_simp; obtain ⟨g9, rfl, hrow⟩ := HS.out.2.1 rfl; refine (l3Most_two g9 p p' a a' n c n' c' xs xs' t1 _ hrow (H1.out.kept0 HS.out.1.1) (H3.out.kept0 HS.out.1.1) B1.out B3.out HT1.out).mono ?_; rintro e v9 ⟨b9, c9, rfl, hs, hf, hk⟩; refine hK.out _ _ (hHeld.kept hk) (fun hHeld => IH.out _ _ _ ⟨true, false, true, false, true, false, _, _, _, _, _, _, _, _, rfl, by decide, by decide, by decide, nofun, rfl, hHeld, HS.out.call1 hk hs (fun hn x hx => .inr (hf hn x hx)) (hf.mono HS.out.1.1.size)⟩ (Nat.succ.inj HC.out))
          · go_simp; refine hK.out _ _ (hHeld.kept ((Kept.refl [] _).alloc _)) (fun hHeld => IH.out _ _ _ ⟨true, true, false, false, true, false, _, _, _, _, _, _, _, _, rfl, by decide, by decide, by decide, nofun, rfl, hHeld, HS.out.row2 _⟩ (Nat.succ.inj HC.out))
        · refine wpAnyH_ready (rs := [10, 13]) (by kernel_rfl) (by simp) ?_
          refine AllReadyH.cons rfl (fun K hK => ?_) (AllReadyH.cons rfl (fun K hK => ?_) AllReadyH.nil)
          · go_simp; refine hK.out _ _ (hHeld.kept ((Kept.refl [] _).alloc _)) (fun hHeld => IH.out _ _ _ ⟨true, true, true, false, false, false, _, _, _, _, _, _, _, _, rfl, by decide, by decide, by decide, nofun, rfl, hHeld, HS.out.row2 _⟩ (Nat.succ.inj HC.out))
          · go_simp; refine hK.out _ _ (hHeld.kept ((Kept.refl [] _).alloc _)) (fun hHeld => IH.out _ _ _ ⟨true, false, true, false, true, false, _, _, _, _, _, _, _, _, rfl, by decide, by decide, by decide, nofun, rfl, hHeld, HS.out.box1⟩ (Nat.succ.inj HC.out))
        · refine wpAnyH_ready (rs := [10]) (by kernel_rfl) (by simp) ?_
          refine AllReadyH.cons rfl (fun K hK => ?_) AllReadyH.nil
          · go_simp; refine hK.out _ _ (hHeld.kept ((Kept.refl [] _).alloc _)) (fun hHeld => IH.out _ _ _ ⟨true, true, true, false, true, false, _, _, _, _, _, _, _, _, rfl, by decide, by decide, by decide, nofun, rfl, hHeld, HS.out.row2 _⟩ (Nat.succ.inj HC.out))
        · refine wpAnyH_ready (rs := [5, 13]) (by kernel_rfl) (by simp) ?_
          refine AllReadyH.cons rfl (fun K hK => ?_) (AllReadyH.cons rfl (fun K hK => ?_) AllReadyH.nil)
          · go_simp; obtain ⟨g9, rfl, hrow⟩ := HS.out.2.1 rfl; refine (l3Most_two g9 p p' a a' n c n' c' xs xs' t1 _ hrow (H1.out.kept0 HS.out.1.1) (H3.out.kept0 HS.out.1.1) B1.out B3.out HT1.out).mono ?_; rintro e v9 ⟨b9, c9, rfl, hs, hf, hk⟩; refine hK.out _ _ (hHeld.kept hk) (fun hHeld => IH.out _ _ _ ⟨true, true, true, false, false, false, _, _, _, _, _, _, _, _, rfl, by decide, by decide, by decide, nofun, rfl, hHeld, HS.out.call1 hk hs (fun hn x hx => .inr (hf hn x hx)) (hf.mono HS.out.1.1.size)⟩ (Nat.succ.inj HC.out))
          · go_simp; refine hK.out _ _ (hHeld.kept ((Kept.refl [] _).alloc _)) (fun hHeld => IH.out _ _ _ ⟨true, true, false, false, true, false, _, _, _, _, _, _, _, _, rfl, by decide, by decide, by decide, nofun, rfl, hHeld, HS.out.box1⟩ (Nat.succ.inj HC.out))
        · refine wpAnyH_ready (rs := [5]) (by kernel_rfl) (by simp) ?_
          refine AllReadyH.cons rfl (fun K hK => ?_) AllReadyH.nil
          · go_simp; obtain ⟨g9, rfl, hrow⟩ := HS.out.2.1 rfl; refine (l3Most_two g9 p p' a a' n c n' c' xs xs' t1 _ hrow (H1.out.kept0 HS.out.1.1) (H3.out.kept0 HS.out.1.1) B1.out B3.out HT1.out).mono ?_; rintro e v9 ⟨b9, c9, rfl, hs, hf, hk⟩; refine hK.out _ _ (hHeld.kept hk) (fun hHeld => IH.out _ _ _ ⟨true, true, true, false, true, false, _, _, _, _, _, _, _, _, rfl, by decide, by decide, by decide, nofun, rfl, hHeld, HS.out.call1 hk hs (fun hn x hx => .inr (hf hn x hx)) (hf.mono HS.out.1.1.size)⟩ (Nat.succ.inj HC.out))
        · refine wpAnyH_ready (rs := [11, 13]) (by kernel_rfl) (by simp) ?_
          refine AllReadyH.cons rfl (fun K hK => ?_) (AllReadyH.cons rfl (fun K hK => ?_) AllReadyH.nil)
          · go_simp; obtain ⟨g9, rfl, hrow⟩ := HS.out.2.2.1 rfl; refine (l3Least_two g9 q q' b b' m d m' d' ys ys' t2 _ hrow (H2.out.kept0 HS.out.1.1) (H4.out.kept0 HS.out.1.1) B2.out B4.out HT2.out).mono ?_; rintro e v9 ⟨b9, c9, rfl, hs, hf, hk⟩; refine hK.out _ _ (hHeld.kept hk) (fun hHeld => IH.out _ _ _ ⟨true, true, true, true, false, false, _, _, _, _, _, _, _, _, rfl, by decide, by decide, by decide, nofun, rfl, hHeld, HS.out.call2 hk hs (fun hn x hx => .inr (hf hn x hx)) (hf.mono HS.out.1.1.size)⟩ (Nat.succ.inj HC.out))
          · go_simp; refine hK.out _ _ (hHeld.kept ((Kept.refl [] _).alloc _)) (fun hHeld => IH.out _ _ _ ⟨true, true, true, false, true, false, _, _, _, _, _, _, _, _, rfl, by decide, by decide, by decide, nofun, rfl, hHeld, HS.out.box1⟩ (Nat.succ.inj HC.out))
        · refine wpAnyH_ready (rs := [11]) (by kernel_rfl) (by simp) ?_
          refine AllReadyH.cons rfl (fun K hK => ?_) AllReadyH.nil
          · go_simp; obtain ⟨g9, rfl, hrow⟩ := HS.out.2.2.1 rfl; refine (l3Least_two g9 q q' b b' m d m' d' ys ys' t2 _ hrow (H2.out.kept0 HS.out.1.1) (H4.out.kept0 HS.out.1.1) B2.out B4.out HT2.out).mono ?_; rintro e v9 ⟨b9, c9, rfl, hs, hf, hk⟩; refine hK.out _ _ (hHeld.kept hk) (fun hHeld => IH.out _ _ _ ⟨true, true, true, true, true, false, _, _, _, _, _, _, _, _, rfl, by decide, by decide, by decide, nofun, rfl, hHeld, HS.out.call2 hk hs (fun hn x hx => .inr (hf hn x hx)) (hf.mono HS.out.1.1.size)⟩ (Nat.succ.inj HC.out))
        · refine wpAnyH_ready (rs := [12, 13]) (by kernel_rfl) (by simp) ?_
          refine AllReadyH.cons rfl (fun K hK => ?_) (AllReadyH.cons rfl (fun K hK => ?_) AllReadyH.nil)
          · obtain ⟨b1, cc1, rfl, _⟩ := HS.out.2.2.2.1 rfl; obtain ⟨b2, cc2, rfl, _⟩ := HS.out.2.2.2.2.1 rfl; go_simp; refine hK.out _ _ hHeld (fun hHeld => IH.out _ _ _ ⟨true, true, true, true, false, true, _, _, _, _, _, _, _, _, rfl, by decide, by decide, by decide, fun _ => ⟨_, _, _, _, rfl, rfl, rfl⟩, rfl, hHeld, HS.out⟩ (Nat.succ.inj HC.out))
          · go_simp; refine hK.out _ _ (hHeld.kept ((Kept.refl [] _).alloc _)) (fun hHeld => IH.out _ _ _ ⟨true, true, true, true, true, false, _, _, _, _, _, _, _, _, rfl, by decide, by decide, by decide, nofun, rfl, hHeld, HS.out.box1⟩ (Nat.succ.inj HC.out))
        · refine wpAnyH_ready (rs := [13]) (by kernel_rfl) (by simp) ?_
          refine AllReadyH.cons rfl (fun K hK => ?_) AllReadyH.nil
          · go_simp; refine hK.out _ _ (hHeld.kept ((Kept.refl [] _).alloc _)) (fun hHeld => IH.out _ _ _ ⟨true, true, true, true, true, true, _, _, _, _, _, _, _, _, rfl, by decide, by decide, by decide, HV3.out, rfl, hHeld, HS.out.box1⟩ (Nat.succ.inj HC.out))
        · refine wpAnyH_ready (rs := [12]) (by kernel_rfl) (by simp) ?_
          refine AllReadyH.cons rfl (fun K hK => ?_) AllReadyH.nil
          · obtain ⟨b1, cc1, rfl, _⟩ := HS.out.2.2.2.1 rfl; obtain ⟨b2, cc2, rfl, _⟩ := HS.out.2.2.2.2.1 rfl; go_simp; refine hK.out _ _ hHeld (fun hHeld => IH.out _ _ _ ⟨true, true, true, true, true, true, _, _, _, _, _, _, _, _, rfl, by decide, by decide, by decide, fun _ => ⟨_, _, _, _, rfl, rfl, rfl⟩, rfl, hHeld, HS.out⟩ (Nat.succ.inj HC.out))
      · clear hHeld
        rintro listed a9 W9 ⟨r1, r2, c1, c2, a1, bd, _, _, _, _, _, _, gs, l, rfl, hc1, hc2, hbd, _⟩ hne
        cases r1 <;> cases r2 <;> cases c1 <;> cases c2 <;> cases a1 <;> cases bd <;> first | exact absurd rfl hne | decide +kernel
    case rest =>
    have hc := hcut.out
    clear hcut kr tA0 tA1 tA2 tA3 tB0 tB1 tB2 tB3
    obtain ⟨gC, b1, cc1, b2, cc2, rfl, e0, e1, e2, e3, hgC, hglC, hs1, hs2, hf1, hf2, hk⟩ := hc
    obtain ⟨ww2, rfl⟩ : ∃ w' : World, w' = wc := ⟨_, rfl⟩
    have z2 := hk.size
    replace fR0 := kf hk nR0 fR0
    replace fR1 := kf hk nR1 fR1
    replace fR2 := kf hk nR2 fR2
    replace fR3 := kf hk nR3 fR3
    replace fR4 := kf hk nR4 fR4
    replace nA0 := kc hk nA0
    replace nA1 := kc hk nA1
    replace nA2 := kc hk nA2
    replace nA3 := kc hk nA3
    replace nB0 := kc hk nB0
    replace nB1 := kc hk nB1
    replace nB2 := kc hk nB2
    replace nB3 := kc hk nB3
    replace nR0 := kc hk nR0
    replace nR1 := kc hk nR1
    replace nR2 := kc hk nR2
    replace nR3 := kc hk nR3
    replace nR4 := kc hk nR4
    replace H1 := Lib.hid (H1.out.kept0 hk)
    replace H2 := Lib.hid (H2.out.kept0 hk)
    replace H3 := Lib.hid (H3.out.kept0 hk)
    replace H4 := Lib.hid (H4.out.kept0 hk)
    replace KT := Lib.hid (KT.out.trans0 hk)
    clear hk
    have nC0 := Lib.hid e0
    have nC1 := Lib.hid e1
    have nC2 := Lib.hid e2
    have nC3 := Lib.hid e3
    clear e0 e1 e2 e3
    have S1 := Lib.hid hs1
    have S2 := Lib.hid hs2
    clear hs1 hs2
    have G1 := Lib.hid (hf1.mono (B' := w.heap.size + 1 + 1 + 1) (by omega))
    have G2 := Lib.hid (hf2.mono (B' := w.heap.size + 1 + 1 + 1) (by omega))
    clear hf1 hf2
    by_cases hlt : t2 < t1
    · skip
      have HR := Lib.hid (show r = noSpan 4 from by rw [HRR.out, if_pos hlt])
      have hr9 := HR.out
      clear HR HRR
      subst hr9
      obtain ⟨v9, hv⟩ : ∃ v : Int, v = cmpV (sv (isNeg t1) (mag t1)) (sv (isNeg t2) (mag t2)) := ⟨_, rfl⟩
      have hd9 : decide (0 < v9) = true := by rw [hv, cmpV_pos, sv_mag, sv_mag]; exact decide_eq_true hlt
      have HV := Lib.hid hv
      clear hv
      clear hlt
      have tC0 := nC0.out
      have tC1 := nC1.out
      have tC2 := nC2.out
      have tC3 := nC3.out
      go_wp2_with fail
      clear tC0 tC1 tC2 tC3
      refine (l2Compare_any _ _ _ _ _ _ _ _ _ _ _ BT1.out.n40 BT2.out.n40 S1.out S2.out).mono ?_
      rintro e ww3 ⟨rfl, hk⟩
      rw [← HV.out]
      have z3 := hk.size
      replace fR0 := kf hk nR0 fR0
      replace fR1 := kf hk nR1 fR1
      replace fR2 := kf hk nR2 fR2
      replace fR3 := kf hk nR3 fR3
      replace fR4 := kf hk nR4 fR4
      replace nA0 := kc hk nA0
      replace nA1 := kc hk nA1
      replace nA2 := kc hk nA2
      replace nA3 := kc hk nA3
      replace nB0 := kc hk nB0
      replace nB1 := kc hk nB1
      replace nB2 := kc hk nB2
      replace nB3 := kc hk nB3
      replace nR0 := kc hk nR0
      replace nR1 := kc hk nR1
      replace nR2 := kc hk nR2
      replace nR3 := kc hk nR3
      replace nR4 := kc hk nR4
      replace H1 := Lib.hid (H1.out.kept0 hk)
      replace H2 := Lib.hid (H2.out.kept0 hk)
      replace H3 := Lib.hid (H3.out.kept0 hk)
      replace H4 := Lib.hid (H4.out.kept0 hk)
      replace nC0 := kc hk nC0
      replace nC1 := kc hk nC1
      replace nC2 := kc hk nC2
      replace nC3 := kc hk nC3
      replace S1 := Lib.hid (S1.out.kept0 hk)
      replace S2 := Lib.hid (S2.out.kept0 hk)
      replace KT := Lib.hid (KT.out.trans0 hk)
      clear hk
      have tR0 := nR0.out
      have tR1 := nR1.out
      have tR2 := nR2.out
      have tR3 := nR3.out
      have tR4 := nR4.out
      have uR0 := fR0.out
      have uR1 := fR1.out
      have uR2 := fR2.out
      have uR3 := fR3.out
      have uR4 := fR4.out
      go_wp2_with fail
      clear tR0 tR1 tR2 tR3 tR4 uR0 uR1 uR2 uR3 uR4
      clear nC0 nC1 nC2 nC3
      generalize hW : (((((ww3.setCell ⟨w.heap.size + 1 + 1, 0, none⟩ (.int .i64 4)).setCell ⟨w.heap.size + 1 + 1, 1, none⟩ (.bool false)).setCell ⟨w.heap.size + 1 + 1, 2, none⟩ (.slice none 0 0)).setCell ⟨w.heap.size + 1 + 1, 3, none⟩ (.bool false)).setCell ⟨w.heap.size + 1 + 1, 4, none⟩ (.slice none 0 0)) = ww4
      have hk : Kept [w.heap.size + 1 + 1] ww3 ww4 := by rw [← hW]; exact (((((Kept.refl _ _).setCell _ _ (by simp)).setCell _ _ (by simp)).setCell _ _ (by simp)).setCell _ _ (by simp)).setCell _ _ (by simp)
      have hfz : ∀ x, ww4.frozen? x = ww3.frozen? x := by rw [← hW]; intro x; simp only [World.frozen?_setCell]
      obtain ⟨e0, e1, e2, e3, e4⟩ := st5 hW.symm nR0.out nR1.out nR2.out nR3.out nR4.out
      have z4 := hk.size
      replace fR0 := kz hfz fR0
      replace fR1 := kz hfz fR1
      replace fR2 := kz hfz fR2
      replace fR3 := kz hfz fR3
      replace fR4 := kz hfz fR4
      replace nA0 := kd hk nA0 (by simp <;> omega)
      replace nA1 := kd hk nA1 (by simp <;> omega)
      replace nA2 := kd hk nA2 (by simp <;> omega)
      replace nA3 := kd hk nA3 (by simp <;> omega)
      replace nB0 := kd hk nB0 (by simp <;> omega)
      replace nB1 := kd hk nB1 (by simp <;> omega)
      replace nB2 := kd hk nB2 (by simp <;> omega)
      replace nB3 := kd hk nB3 (by simp <;> omega)
      replace H1 := Lib.hid (H1.out.kept hk (fun hn y hy hm => by have h9 := F1.out hn y hy; simp at hm; omega))
      replace H2 := Lib.hid (H2.out.kept hk (fun hn y hy hm => by have h9 := F2.out hn y hy; simp at hm; omega))
      replace H3 := Lib.hid (H3.out.kept hk (fun hn y hy hm => by have h9 := F3.out hn y hy; simp at hm; omega))
      replace H4 := Lib.hid (H4.out.kept hk (fun hn y hy hm => by have h9 := F4.out hn y hy; simp at hm; omega))
      replace S1 := Lib.hid (S1.out.kept hk (fun hn y hy hm => by have h9 := G1.out hn y hy; simp at hm; omega))
      replace S2 := Lib.hid (S2.out.kept hk (fun hn y hy hm => by have h9 := G2.out hn y hy; simp at hm; omega))
      replace nR0 := Lib.hid e0
      replace nR1 := Lib.hid e1
      replace nR2 := Lib.hid e2
      replace nR3 := Lib.hid e3
      replace nR4 := Lib.hid e4
      replace KT := Lib.hid (KT.out.trans hk (fun x hx hlt => by simp at hx; omega))
      clear hk hfz hW e0 e1 e2 e3 e4
      have e0 := nR0.out
      have e1 := nR1.out
      have e2 := nR2.out
      have e3 := nR3.out
      have e4 := nR4.out
      refine bodyPost_ret (v := .agg #[.int .i64 4, .bool false, .slice none 0 0, .bool false, .slice none 0 0]) (by simp [results, Try.results10, go_sem, e0, e1, e2, e3, e4]) rfl ?_
      exact spanM_no KT.out
    · skip
      have HR := Lib.hid (show r = fitS t1 t2 from by rw [HRR.out, if_neg hlt])
      have hr9 : r = ⟨0, t1, t2⟩ := by rw [HR.out, fitS_ok l1 l2]
      clear HR HRR
      subst hr9
      obtain ⟨v9, hv⟩ : ∃ v : Int, v = cmpV (sv (isNeg t1) (mag t1)) (sv (isNeg t2) (mag t2)) := ⟨_, rfl⟩
      have hd9 : decide (0 < v9) = false := by rw [hv, cmpV_pos, sv_mag, sv_mag]; exact decide_eq_false hlt
      have HV := Lib.hid hv
      clear hv
      clear hlt
      have tC0 := nC0.out
      have tC1 := nC1.out
      have tC2 := nC2.out
      have tC3 := nC3.out
      go_wp2_with fail
      clear tC0 tC1 tC2 tC3
      refine (l2Compare_any _ _ _ _ _ _ _ _ _ _ _ BT1.out.n40 BT2.out.n40 S1.out S2.out).mono ?_
      rintro e ww3 ⟨rfl, hk⟩
      rw [← HV.out]
      have z3 := hk.size
      replace fR0 := kf hk nR0 fR0
      replace fR1 := kf hk nR1 fR1
      replace fR2 := kf hk nR2 fR2
      replace fR3 := kf hk nR3 fR3
      replace fR4 := kf hk nR4 fR4
      replace nA0 := kc hk nA0
      replace nA1 := kc hk nA1
      replace nA2 := kc hk nA2
      replace nA3 := kc hk nA3
      replace nB0 := kc hk nB0
      replace nB1 := kc hk nB1
      replace nB2 := kc hk nB2
      replace nB3 := kc hk nB3
      replace nR0 := kc hk nR0
      replace nR1 := kc hk nR1
      replace nR2 := kc hk nR2
      replace nR3 := kc hk nR3
      replace nR4 := kc hk nR4
      replace H1 := Lib.hid (H1.out.kept0 hk)
      replace H2 := Lib.hid (H2.out.kept0 hk)
      replace H3 := Lib.hid (H3.out.kept0 hk)
      replace H4 := Lib.hid (H4.out.kept0 hk)
      replace nC0 := kc hk nC0
      replace nC1 := kc hk nC1
      replace nC2 := kc hk nC2
      replace nC3 := kc hk nC3
      replace S1 := Lib.hid (S1.out.kept0 hk)
      replace S2 := Lib.hid (S2.out.kept0 hk)
      replace KT := Lib.hid (KT.out.trans0 hk)
      clear hk
      have tC0 := nC0.out
      have tC1 := nC1.out
      have tC2 := nC2.out
      have tC3 := nC3.out
      have tR0 := nR0.out
      have tR1 := nR1.out
      have tR2 := nR2.out
      have tR3 := nR3.out
      have tR4 := nR4.out
      have uR0 := fR0.out
      have uR1 := fR1.out
      have uR2 := fR2.out
      have uR3 := fR3.out
      have uR4 := fR4.out
      go_wp2_with fail
      clear tC0 tC1 tC2 tC3 tR0 tR1 tR2 tR3 tR4 uR0 uR1 uR2 uR3 uR4
      clear nC0 nC1 nC2 nC3
      generalize hW : (((((ww3.setCell ⟨w.heap.size + 1 + 1, 0, none⟩ (.int .i64 0)).setCell ⟨w.heap.size + 1 + 1, 1, none⟩ (.bool (isNeg t1))).setCell ⟨w.heap.size + 1 + 1, 2, none⟩ (.slice b1 (mag t1).length cc1)).setCell ⟨w.heap.size + 1 + 1, 3, none⟩ (.bool (isNeg t2))).setCell ⟨w.heap.size + 1 + 1, 4, none⟩ (.slice b2 (mag t2).length cc2)) = ww4
      have hk : Kept [w.heap.size + 1 + 1] ww3 ww4 := by rw [← hW]; exact (((((Kept.refl _ _).setCell _ _ (by simp)).setCell _ _ (by simp)).setCell _ _ (by simp)).setCell _ _ (by simp)).setCell _ _ (by simp)
      have hfz : ∀ x, ww4.frozen? x = ww3.frozen? x := by rw [← hW]; intro x; simp only [World.frozen?_setCell]
      obtain ⟨e0, e1, e2, e3, e4⟩ := st5 hW.symm nR0.out nR1.out nR2.out nR3.out nR4.out
      have z4 := hk.size
      replace fR0 := kz hfz fR0
      replace fR1 := kz hfz fR1
      replace fR2 := kz hfz fR2
      replace fR3 := kz hfz fR3
      replace fR4 := kz hfz fR4
      replace nA0 := kd hk nA0 (by simp <;> omega)
      replace nA1 := kd hk nA1 (by simp <;> omega)
      replace nA2 := kd hk nA2 (by simp <;> omega)
      replace nA3 := kd hk nA3 (by simp <;> omega)
      replace nB0 := kd hk nB0 (by simp <;> omega)
      replace nB1 := kd hk nB1 (by simp <;> omega)
      replace nB2 := kd hk nB2 (by simp <;> omega)
      replace nB3 := kd hk nB3 (by simp <;> omega)
      replace H1 := Lib.hid (H1.out.kept hk (fun hn y hy hm => by have h9 := F1.out hn y hy; simp at hm; omega))
      replace H2 := Lib.hid (H2.out.kept hk (fun hn y hy hm => by have h9 := F2.out hn y hy; simp at hm; omega))
      replace H3 := Lib.hid (H3.out.kept hk (fun hn y hy hm => by have h9 := F3.out hn y hy; simp at hm; omega))
      replace H4 := Lib.hid (H4.out.kept hk (fun hn y hy hm => by have h9 := F4.out hn y hy; simp at hm; omega))
      replace S1 := Lib.hid (S1.out.kept hk (fun hn y hy hm => by have h9 := G1.out hn y hy; simp at hm; omega))
      replace S2 := Lib.hid (S2.out.kept hk (fun hn y hy hm => by have h9 := G2.out hn y hy; simp at hm; omega))
      replace nR0 := Lib.hid e0
      replace nR1 := Lib.hid e1
      replace nR2 := Lib.hid e2
      replace nR3 := Lib.hid e3
      replace nR4 := Lib.hid e4
      replace KT := Lib.hid (KT.out.trans hk (fun x hx hlt => by simp at hx; omega))
      clear hk hfz hW e0 e1 e2 e3 e4
      have e0 := nR0.out
      have e1 := nR1.out
      have e2 := nR2.out
      have e3 := nR3.out
      have e4 := nR4.out
      refine bodyPost_ret (v := .agg #[.int .i64 0, .bool (isNeg t1), .slice b1 (mag t1).length cc1, .bool (isNeg t2), .slice b2 (mag t2).length cc2]) (by simp [results, Try.results10, go_sem, e0, e1, e2, e3, e4]) rfl ?_
      exact ⟨b1, cc1, b2, cc2, rfl, S1.out, S2.out, G1.out.mono (by omega), G2.out.mono (by omega), KT.out⟩
  · skip
    rw [show meetS p xs q ys p' xs' q' ys' = noSpan (spanFault2 p xs q ys p' xs' q' ys') from twoS_not hz]
    generalize hf : spanFault2 p xs q ys p' xs' q' ys' = f at *
    have hne : (f == 0) = false := by rw [beq_eq_false_iff_ne]; exact hz
    have HZ := Lib.hid hf
    clear hf hz
    go_enter Try.func10, Try.ntmps10
    go_wp2_with fail
    generalize hW : (((w.alloc (.cells #[.bool p, .slice a n c, .bool q, .slice b m d] 28)).alloc (.cells #[.bool p', .slice a' n' c', .bool q', .slice b' m' d'] 28)).alloc (.cells #[.int .i64 0, .bool false, .slice none 0 0, .bool false, .slice none 0 0] 32)) = ww0
    have hkk : Kept [] (((w.alloc (.cells #[.bool p, .slice a n c, .bool q, .slice b m d] 28)).alloc (.cells #[.bool p', .slice a' n' c', .bool q', .slice b' m' d'] 28)).alloc (.cells #[.int .i64 0, .bool false, .slice none 0 0, .bool false, .slice none 0 0] 32)) ww0 := by rw [hW]; exact Kept.refl _ _
    have zzA : w.heap.size + 1 + 1 + 1 = ww0.heap.size := by rw [← hW]; simp
    obtain ⟨⟨nA0, nA1, nA2, nA3⟩, _⟩ := tp4 hkk.peel.peel (g := w.heap.size) (by simp) (by simp)
    obtain ⟨⟨nB0, nB1, nB2, nB3⟩, _⟩ := tp4 hkk.peel (g := w.heap.size + 1) (by simp) (by simp)
    obtain ⟨⟨nR0, nR1, nR2, nR3, nR4⟩, fR0, fR1, fR2, fR3, fR4⟩ := tp5 hkk (g := w.heap.size + 1 + 1) (by simp) (by simp)
    have hk := hkk.peel.peel.peel
    clear hkk hW
    have z0 := hk.size
    have KT := Lib.hid hk
    clear hk
    replace H1 := Lib.hid (H1.out.kept0 KT.out)
    replace H2 := Lib.hid (H2.out.kept0 KT.out)
    replace H3 := Lib.hid (H3.out.kept0 KT.out)
    replace H4 := Lib.hid (H4.out.kept0 KT.out)
    refine (l3Two_any _ _ _ _ _ _ _ _ _ _ _ _ _ _ _ _ _ _ _ _ _ H1.out H2.out H3.out H4.out).mono ?_
    rintro e ww1 ⟨rfl, hk⟩
    rw [HZ.out]
    have z1 := hk.size
    replace fR0 := kf hk nR0 fR0
    replace fR1 := kf hk nR1 fR1
    replace fR2 := kf hk nR2 fR2
    replace fR3 := kf hk nR3 fR3
    replace fR4 := kf hk nR4 fR4
    replace nA0 := kc hk nA0
    replace nA1 := kc hk nA1
    replace nA2 := kc hk nA2
    replace nA3 := kc hk nA3
    replace nB0 := kc hk nB0
    replace nB1 := kc hk nB1
    replace nB2 := kc hk nB2
    replace nB3 := kc hk nB3
    replace nR0 := kc hk nR0
    replace nR1 := kc hk nR1
    replace nR2 := kc hk nR2
    replace nR3 := kc hk nR3
    replace nR4 := kc hk nR4
    replace H1 := Lib.hid (H1.out.kept0 hk)
    replace H2 := Lib.hid (H2.out.kept0 hk)
    replace H3 := Lib.hid (H3.out.kept0 hk)
    replace H4 := Lib.hid (H4.out.kept0 hk)
    replace KT := Lib.hid (KT.out.trans0 hk)
    clear hk
    have tR0 := nR0.out
    have tR1 := nR1.out
    have tR2 := nR2.out
    have tR3 := nR3.out
    have tR4 := nR4.out
    have uR0 := fR0.out
    have uR1 := fR1.out
    have uR2 := fR2.out
    have uR3 := fR3.out
    have uR4 := fR4.out
    go_wp2_with fail
    clear tR0 tR1 tR2 tR3 tR4 uR0 uR1 uR2 uR3 uR4
    generalize hW : (((((ww1.setCell ⟨w.heap.size + 1 + 1, 0, none⟩ (.int .i64 f)).setCell ⟨w.heap.size + 1 + 1, 1, none⟩ (.bool false)).setCell ⟨w.heap.size + 1 + 1, 2, none⟩ (.slice none 0 0)).setCell ⟨w.heap.size + 1 + 1, 3, none⟩ (.bool false)).setCell ⟨w.heap.size + 1 + 1, 4, none⟩ (.slice none 0 0)) = ww2
    have hk : Kept [w.heap.size + 1 + 1] ww1 ww2 := by rw [← hW]; exact (((((Kept.refl _ _).setCell _ _ (by simp)).setCell _ _ (by simp)).setCell _ _ (by simp)).setCell _ _ (by simp)).setCell _ _ (by simp)
    have hfz : ∀ x, ww2.frozen? x = ww1.frozen? x := by rw [← hW]; intro x; simp only [World.frozen?_setCell]
    obtain ⟨e0, e1, e2, e3, e4⟩ := st5 hW.symm nR0.out nR1.out nR2.out nR3.out nR4.out
    have z2 := hk.size
    replace fR0 := kz hfz fR0
    replace fR1 := kz hfz fR1
    replace fR2 := kz hfz fR2
    replace fR3 := kz hfz fR3
    replace fR4 := kz hfz fR4
    replace nA0 := kd hk nA0 (by simp <;> omega)
    replace nA1 := kd hk nA1 (by simp <;> omega)
    replace nA2 := kd hk nA2 (by simp <;> omega)
    replace nA3 := kd hk nA3 (by simp <;> omega)
    replace nB0 := kd hk nB0 (by simp <;> omega)
    replace nB1 := kd hk nB1 (by simp <;> omega)
    replace nB2 := kd hk nB2 (by simp <;> omega)
    replace nB3 := kd hk nB3 (by simp <;> omega)
    replace H1 := Lib.hid (H1.out.kept hk (fun hn y hy hm => by have h9 := F1.out hn y hy; simp at hm; omega))
    replace H2 := Lib.hid (H2.out.kept hk (fun hn y hy hm => by have h9 := F2.out hn y hy; simp at hm; omega))
    replace H3 := Lib.hid (H3.out.kept hk (fun hn y hy hm => by have h9 := F3.out hn y hy; simp at hm; omega))
    replace H4 := Lib.hid (H4.out.kept hk (fun hn y hy hm => by have h9 := F4.out hn y hy; simp at hm; omega))
    replace nR0 := Lib.hid e0
    replace nR1 := Lib.hid e1
    replace nR2 := Lib.hid e2
    replace nR3 := Lib.hid e3
    replace nR4 := Lib.hid e4
    replace KT := Lib.hid (KT.out.trans hk (fun x hx hlt => by simp at hx; omega))
    clear hk hfz hW e0 e1 e2 e3 e4
    have e0 := nR0.out
    have e1 := nR1.out
    have e2 := nR2.out
    have e3 := nR3.out
    have e4 := nR4.out
    refine bodyPost_ret (v := .agg #[.int .i64 f, .bool false, .slice none 0 0, .bool false, .slice none 0 0]) (by simp [results, Try.results10, go_sem, e0, e1, e2, e3, e4]) rfl ?_
    exact spanM_no KT.out

end Go.Proofs.Ytlhiahhpmjiioaa
