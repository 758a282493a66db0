/-
  The draws of two spans: contract of DrawMeetSpan. Condition: the bytes are at most 1048576.
-/
import Derived.Test.YtlhiahhpmjiioaaDrwL2
namespace Go.Proofs.Ytlhiahhpmjiioaa
open Go.RowKit

set_option maxHeartbeats 16000000 in
set_option maxRecDepth 20000 in
theorem DrawMeetSpan_any (a : Option Addr) (n c : Nat) (bs : List Int) (w : World) (h : Rd8 w a n bs) :
    Calls Try.prog 5 #[.slice a n c] w (Draw2S w) := by
  have HR := Lib.hid h
  clear h
  go_enter Try.func5, Try.ntmps5
  go_upto_region 1 with fail
  obtain ⟨W0, hW0⟩ : ∃ W, W = (w.alloc (.cells #[.bool false, .slice none 0 0, .bool false, .slice none 0 0] 28)).alloc (.cells #[.bool false, .slice none 0 0, .bool false, .slice none 0 0] 28) := ⟨_, rfl⟩
  have k0 : Kept [] w W0 := by rw [hW0]; exact ((Kept.refl _ _).alloc _).alloc _
  have z0 : w.heap.size + 1 < W0.heap.size := by rw [hW0]; simp
  have RB := Lib.hid (show B4 W0 w.heap.size _ _ _ _ by rw [hW0]; exact B4.new (L := []) ((Kept.refl _ _).alloc _) (by simp))
  have TB := Lib.hid (show B4 W0 (w.heap.size + 1) _ _ _ _ by rw [hW0]; have := B4.new (w := w.alloc (.cells #[.bool false, .slice none 0 0, .bool false, .slice none 0 0] 28)) (L := []) (Kept.refl _ ((w.alloc (.cells #[.bool false, .slice none 0 0, .bool false, .slice none 0 0] 28)).alloc (.cells #[.bool false, .slice none 0 0, .bool false, .slice none 0 0] 28))) (by simp); simpa using this)
  obtain ⟨R, hR⟩ : ∃ R, R = w.heap.size := ⟨_, rfl⟩
  obtain ⟨T, hT⟩ : ∃ R, R = w.heap.size + 1 := ⟨_, rfl⟩
  rw [← hW0]
  rw [← hT] at TB ⊢
  rw [← hR] at RB ⊢
  have HRR := Lib.hid hR
  have HTT := Lib.hid hT
  have hRT : R < T := by omega
  have hRz : R < W0.heap.size := by omega
  have hTz : T < W0.heap.size := by omega
  clear hW0 hR hT z0
  go_wp2_with fail
  refine (l1Source_any _ _ _ _ _ (HR.out.kept k0 (by simp))).mono ?_
  rintro e w1 ⟨g, rfl, hg, hS1, hK1⟩
  have hgT : T < g := by omega
  have S1 := Lib.hid hS1
  have K1 := Lib.hid hK1
  have hz1 := hK1.size
  have halt : Hid (∀ x : Addr, 0 < n → a = some x → x.block < R) := Lib.hid (fun x hn hx => by have := HR.out.lt hn x hx; have := HRR.out; omega)
  clear hS1 hK1
  go_wp2_with fail
  refine (l3Draw_any g a n c bs 0 _ S1.out (by omega)).mono ?_
  rintro e w2 ⟨p, av, cv, xs, q, bv, dv, ys, at2, rfl, hE1, hE2, hx4, hy4, hS2, hat2, hK2⟩
  obtain ⟨w3, h3⟩ : ∃ w3, w3 = w2.alloc (.cells #[.bool p, .slice av xs.length cv, .bool q, .slice bv ys.length dv] 28) := ⟨_, rfl⟩
  have H3 := Lib.hid h3
  have hk3 : Kept [] w2 w3 := by rw [h3]; exact (Kept.refl [] w2).alloc _
  have hz2 := hK2.size
  have hz3 : w2.heap.size < w3.heap.size := by rw [h3]; simp
  have AB := Lib.hid (show B4 w3 w2.heap.size (.bool p) (.slice av xs.length cv) (.bool q) (.slice bv ys.length dv) by rw [h3]; exact B4.new (L := []) (Kept.refl _ _) (by simp))
  obtain ⟨A, hA⟩ : ∃ A, A = w2.heap.size := ⟨_, rfl⟩
  have hgl : g < w1.heap.size := S1.out.lt
  have hgA : g < A := by omega
  have S3 := Lib.hid (hS2.kept0 hk3)
  have K3 : Hid (Kept [g] W0 w3) := ((K1.out.mono (M := [g]) (by simp)).trans hK2 (fun _ hx _ => hx)).trans0 hk3
  have E1 := Lib.hid (hE1.kept hk3 (by simp))
  have E2 := Lib.hid (hE2.kept hk3 (by simp))
  have HX := Lib.hid (And.intro hx4 hy4)
  have hlx : xs.length ≤ 20 := hE1.2.2
  have hly : ys.length ≤ 20 := hE2.2.2
  clear h3 hk3 hE1 hE2 hS2 hK2 hx4 hy4
  go_upto_region 3 with fail
  rw [← H3.out, ← hA]
  rw [← hA] at AB
  clear H3 hA hz3
  go_wp2_with fail
  refine (l1Chance_any g a n c bs at2 3 _ S3.out (by omega) (by omega)).mono ?_
  rintro e w4 ⟨b, rfl, hS4, hK4⟩
  have S4 := Lib.hid hS4
  have K4 : Hid (Kept [g] W0 w4) := K3.out.trans hK4 (fun _ hx _ => hx)
  have A4 := Lib.hid (AB.out.kept hK4 (by simp; omega))
  have E14 := Lib.hid (E1.out.kept hK4 (by simp; omega))
  have E24 := Lib.hid (E2.out.kept hK4 (by simp; omega))
  have hz4 := K4.out.size
  have hA4 := A4.out.lt
  clear hS4 hK4 S3 K3 AB E1 E2 S1 K1 hz2
  have hRg : R ∉ [g] := by simp; omega
  have hTg : T ∉ [g] := by simp; omega
  have rr : ∀ v, Kept [g] W0 v → B4 v R (.bool false) (.slice none 0 0) (.bool false) (.slice none 0 0) ∧ B4 v T (.bool false) (.slice none 0 0) (.bool false) (.slice none 0 0) := fun v k => ⟨RB.out.kept k hRg, TB.out.kept k hTg⟩
  have RR := Lib.hid rr
  clear rr
  have rA0 : ∀ w', Hid (Kept [g, R, T] w4 w') → w'.cell? ⟨A, 0, none⟩ = some (.bool p) := fun w' k => k.out.cell A4.out.c0 (by simp; omega)
  have rA1 : ∀ w', Hid (Kept [g, R, T] w4 w') → w'.cell? ⟨A, 1, none⟩ = some (.slice av xs.length cv) := fun w' k => k.out.cell A4.out.c1 (by simp; omega)
  have rA2 : ∀ w', Hid (Kept [g, R, T] w4 w') → w'.cell? ⟨A, 2, none⟩ = some (.bool q) := fun w' k => k.out.cell A4.out.c2 (by simp; omega)
  have rA3 : ∀ w', Hid (Kept [g, R, T] w4 w') → w'.cell? ⟨A, 3, none⟩ = some (.slice bv ys.length dv) := fun w' k => k.out.cell A4.out.c3 (by simp; omega)
  cases b
  · go_upto_region 5 with fail
    have hgw : g < w4.heap.size := S4.out.lt
    have hbg : Hid (∀ y : Addr, w4.heap.size ≤ y.block → y.block ≠ g) := Lib.hid (fun y hy => by omega)
    have e2 : (w4.alloc (.cells #[.int .i64 5, .int .i64 9] 2)).heap.size = w4.heap.size + 1 := by simp
    have e1 : (w4.alloc (.cells #[.int .i64 (-3), .int .i64 0, .int .i64 5] 2)).heap.size = w4.heap.size + 1 := by simp
    have r1 := (Sl.ofBlk (Blk.new w4 [-3, 0, 5]) (by simp)).rd
    have R1a := Lib.hid (r1.kept0 (Kept.refl [] _).drew)
    have R1b := Lib.hid (r1.kept0 ((Kept.refl [] _).alloc (.cells #[.int .i64 5, .int .i64 9] 2)).drew)
    have r2 := (Sl.ofBlk (Blk.new (w4.alloc (.cells #[.int .i64 5, .int .i64 9] 2)) [-3, 0, 5]) (by simp)).rd
    rw [e2] at r2
    have R1c := Lib.hid (r2.kept0 (Kept.refl [] _).drew)
    have q1 := (Sl.ofBlk (Blk.new w4 [5, 9]) (by simp)).rd
    have Q1 := Lib.hid (q1.kept0 ((Kept.refl [] _).alloc (.cells #[.int .i64 (-3), .int .i64 0, .int .i64 5] 2)).drew)
    have q2 := (Sl.ofBlk (Blk.new (w4.alloc (.cells #[.int .i64 (-3), .int .i64 0, .int .i64 5] 2)) [5, 9]) (by simp)).rd
    rw [e1] at q2
    have Q2 := Lib.hid (q2.kept0 (Kept.refl [] _).drew)
    clear r1 r2 q1 q2 e1 e2
    go_region_held3 (fun w' => Hid (Kept [g, R, T] w4 w'))
      (with_reducible first | assumption | exact kgS (kgS (kgS (kgS (by assumption) (by simp)) (by simp)) (by simp)) (by simp) | exact Lib.hid ((Kept.refl _ _).drew) | exact Lib.hid (((Kept.refl _ _).alloc _).drew) | exact Lib.hid ((((Kept.refl _ _).alloc _).alloc _).drew) | exact kgA (by assumption) _ | exact kg0 (by assumption) (by assumption) | exact kg1 (by simp) (by assumption) (by assumption))
      (first
        | (go_at_call 22; go_split_ands; have S66 := S6; clear S66; refine (l1Pick_any g a n c bs (at2 + 1 + 1) _ 2 _ [5, 9] _ (by with_reducible first | exact S6.out | exact S6.out.kept0 ((Kept.refl _ _).alloc _)) (by omega) (by first | exact zr2.out | exact (Sl.ofBlk (Blk.new v2 [5, 9]) (by simp)).rd) (fun _ y hy => by cases hy; exact hbg.out _ (by first | (simp; done) | (simp; omega))) (by omega)).mono ?_; rintro e v3 ⟨j2, hj2, rfl, hS7, k7⟩; have hu2 := pick_in (lo := -100) (hi := 100) (ys := [5, 9]) (by decide) hj2; generalize ([5, 9] : List Int).getD j2 0 = x2 at hu2; have k7' : Kept [g] v2 v3 := (by with_reducible first | exact k7 | exact k7.peel); have KH3 := kb1 (g := g) (by simp) KH2 k7'; have zs7 := k7'.size; clear hS7 k7 hj2)
        | (go_at_call 22; go_split_ands; (fail_if_success have S66 := S6); refine (l1Pick_any g a n c bs (at2 + 1) _ 3 _ [-3, 0, 5] _ (S4.out.kept0 (by first | exact ((Kept.refl _ _).alloc _).drew | exact (((Kept.refl _ _).alloc _).alloc _).drew)) (by omega) (by first | exact R1a.out | exact R1b.out | exact R1c.out) (fun _ y hy => by cases hy; exact hbg.out _ (by simp)) (by omega)).mono ?_; rintro e v1 ⟨j1, hj1, rfl, hS5, k5⟩; have hu1 := pick_in (lo := -100) (hi := 100) (ys := [-3, 0, 5]) (by decide) hj1; generalize ([-3, 0, 5] : List Int).getD j1 0 = x1 at hu1; have k5' : Kept [g] w4 v1 := (Kept.mono (L := []) (by first | exact ((Kept.refl _ _).alloc _).drew | exact (((Kept.refl _ _).alloc _).alloc _).drew) (by simp)).trans k5 (fun _ hx _ => hx); have KH1 : Hid (Kept [g, R, T] w4 v1) := Lib.hid (k5'.mono (by simp)); have S5 := Lib.hid hS5; have zs5 := k5'.size; (first | (have zr := Lib.hid (Q1.out.kept k5 (fun _ y hy hm => by cases hy; simp at hm; omega))) | (have zr := Lib.hid (Q2.out.kept k5 (fun _ y hy hm => by cases hy; simp at hm; omega))) | skip); clear hS5 k5 hj1)
        | (go_at_call 21; go_split_ands; (fail_if_success have S66 := S6); refine (sBigOf_any x1 _ (by omega) (by omega)).mono ?_; rintro e v2 ⟨a1, c1, rfl, hs1, hf1, k6⟩; have k6' : Kept [] v1 v2 := (by with_reducible first | exact k6 | exact k6.peel); have KH2 := Lib.hid (KH1.out.trans0 k6'); have S6 := Lib.hid (S5.out.kept0 k6'); have zs6 := k6'.size; (first | (have zr2 := Lib.hid (zr.out.kept0 k6')) | (have hk9 : Kept [] (v1.alloc (.cells #[.int .i64 5, .int .i64 9] 2)) v2 := (by with_reducible exact k6); have zr2 := Lib.hid (((Sl.ofBlk (Blk.new v1 [5, 9]) (by simp)).rd).kept0 hk9)) | skip); clear k6)
        | (go_at_call 21; go_split_ands; refine (sBigOf_any x2 _ (by omega) (by omega)).mono ?_; rintro e v4 ⟨a2, c2, rfl, hs2, hf2, k8⟩; have KH4 := Lib.hid (KH3.out.trans0 k8); have zs8 := k8.size)
        | (go_at_call 20; go_split_ands; refine (l3Add_any p q av bv _ cv _ dv xs ys (isNeg x1) (isNeg x2) a1 a2 _ c1 _ c2 (mag x1) (mag x2) (sv p xs + sv (isNeg x1) (mag x1)) (sv q ys + sv (isNeg x2) (mag x2)) _ (E14.out.kept ((k5'.trans0 k6').trans (k7'.trans0 k8) (fun _ hx _ => hx)) (by simp; omega)).1 (E24.out.kept ((k5'.trans0 k6').trans (k7'.trans0 k8) (fun _ hx _ => hx)) (by simp; omega)).1 (hs1.kept (k7'.trans0 k8) (fun hn y hy => by have := hf1 hn y hy; simp at *; omega)) hs2 HX.out.1 HX.out.2 (nat40_mag (by omega)).1 (nat40_mag (by omega)).1 rfl rfl).mono ?_; rintro e v9 ⟨a', c', b', d', rfl, hs3, hs4, hf3, hf4, k9⟩; have KV : Kept [g] w4 v9 := ((k5'.trans0 k6').trans (k7'.trans0 k8) (fun _ hx _ => hx)).trans0 k9; have KH : Hid (Kept [g, R, T] w4 v9) := Lib.hid (KV.mono (by simp)); have hEC : EndD W0 v9 a' c' (mag (sv p xs + sv (isNeg x1) (mag x1))) 60 := ⟨hs3, hf3.mono (by omega), Nat.le_trans (sum_len40 HX.out.1 hlx (nat40_mag (by omega)).1 (Nat.le_trans (nat40_mag (by omega)).2 (by omega))) (by omega)⟩; have hED : EndD W0 v9 b' d' (mag (sv q ys + sv (isNeg x2) (mag x2))) 60 := ⟨hs4, hf4.mono (by omega), Nat.le_trans (sum_len40 HX.out.2 hly (nat40_mag (by omega)).1 (Nat.le_trans (nat40_mag (by omega)).2 (by omega))) (by omega)⟩; obtain ⟨⟨m0, m1, m2, m3, m4, m5, m6, m7, _⟩, ⟨n0, n1, n2, n3, n4, n5, n6, n7, _⟩⟩ := RR.out v9 (K4.out.trans KV (fun _ hx _ => hx)))
        | fail)
    all_goals
      try go_wp2_with fail
      have KW : Kept [g] W0 v9 := K4.out.trans KV (fun _ hx _ => hx)
      obtain ⟨BR, BT⟩ := RR.out v9 KW
      have hEA := (E14.out.kept KV (by simp; omega)).mono hz1 (Nat.le_refl _)
      have hEB := (E24.out.kept KV (by simp; omega)).mono hz1 (Nat.le_refl _)
      have hK := k0.trans KW (L := []) (fun x hx hlt => by simp at hx; have := HRR.out; omega)
      obtain ⟨⟨s0, s1, s2, s3, _, _, _, _, _⟩, ⟨t0, t1, t2, t3, _, _, _, _, _⟩⟩ := BR.two BT (by omega) (.bool p) (.slice av xs.length cv) (.bool q) (.slice bv ys.length dv) (.bool (isNeg (sv p xs + sv (isNeg x1) (mag x1)))) (.slice a' (mag (sv p xs + sv (isNeg x1) (mag x1))).length c') (.bool (isNeg (sv q ys + sv (isNeg x2) (mag x2)))) (.slice b' (mag (sv q ys + sv (isNeg x2) (mag x2))).length d')
      have k9 := kset8 v9 R T (.bool p) (.slice av xs.length cv) (.bool q) (.slice bv ys.length dv) (.bool (isNeg (sv p xs + sv (isNeg x1) (mag x1)))) (.slice a' (mag (sv p xs + sv (isNeg x1) (mag x1))).length c') (.bool (isNeg (sv q ys + sv (isNeg x2) (mag x2)))) (.slice b' (mag (sv q ys + sv (isNeg x2) (mag x2))).length d')
      have hw0 : w.heap.size ≤ W0.heap.size := k0.size
      refine bodyPost_ret (v := .tuple #[.agg #[.bool p, .slice av xs.length cv, .bool q, .slice bv ys.length dv], .agg #[.bool (isNeg (sv p xs + sv (isNeg x1) (mag x1))), .slice a' (mag (sv p xs + sv (isNeg x1) (mag x1))).length c', .bool (isNeg (sv q ys + sv (isNeg x2) (mag x2))), .slice b' (mag (sv q ys + sv (isNeg x2) (mag x2))).length d']]) (by simp [results, Try.results5, go_sem, s0, s1, s2, s3, t0, t1, t2, t3]) rfl ?_
      exact ⟨p, av, cv, xs, q, bv, dv, ys, (isNeg (sv p xs + sv (isNeg x1) (mag x1))), a', c', (mag (sv p xs + sv (isNeg x1) (mag x1))), (isNeg (sv q ys + sv (isNeg x2) (mag x2))), b', d', (mag (sv q ys + sv (isNeg x2) (mag x2))), rfl, (hEA.keptRS k9 hRz hTz).mono hw0 (by omega), (hEB.keptRS k9 hRz hTz).mono hw0 (by omega), (hEC.keptRS k9 hRz hTz).mono hw0 (by omega), (hED.keptRS k9 hRz hTz).mono hw0 (by omega), hK.trans k9 (fun x hx hlt => by simp at hx; have := HRR.out; have := HTT.out; omega)⟩
  · go_upto_region 4 with fail
    go_region_held3 (fun w' => Hid (Kept [g, R, T] w4 w'))
      (with_reducible first | assumption | exact kgS (kgS (kgS (kgS (by assumption) (by simp)) (by simp)) (by simp)) (by simp) | exact Lib.hid ((Kept.refl _ _).drew) | exact Lib.hid (((Kept.refl _ _).alloc _).drew) | exact Lib.hid ((((Kept.refl _ _).alloc _).alloc _).drew) | exact kgA (by assumption) _ | exact kg0 (by assumption) (by assumption) | exact kg1 (by simp) (by assumption) (by assumption))
      (first
        | (go_at_call 19; go_split_ands; refine (l3Bent_any g a n c bs (at2 + 1) _ (S4.out.kept0 ((Kept.refl [] _).drew)) (by omega)).mono ?_; rintro e v9 ⟨p', a', c', xs', q', b', d', ys', at5, rfl, hC, hD, hS5, hat5, k5⟩; have KV : Kept [g] w4 v9 := ((Kept.refl [g] w4).drew).trans k5 (fun _ hx _ => hx); have KH : Hid (Kept [g, R, T] w4 v9) := Lib.hid (KV.mono (by simp)); have hEC := hC.mono (w0 := W0) (m := 60) (by simpa using hz4) (by omega); have hED := hD.mono (w0 := W0) (m := 60) (by simpa using hz4) (by omega); obtain ⟨⟨m0, m1, m2, m3, m4, m5, m6, m7, _⟩, ⟨n0, n1, n2, n3, n4, n5, n6, n7, _⟩⟩ := RR.out v9 (K4.out.trans KV (fun _ hx _ => hx)); clear hC hD k5)
        | fail)
    all_goals
      try go_wp2_with fail
      have KW : Kept [g] W0 v9 := K4.out.trans KV (fun _ hx _ => hx)
      obtain ⟨BR, BT⟩ := RR.out v9 KW
      have hEA := (E14.out.kept KV (by simp; omega)).mono hz1 (Nat.le_refl _)
      have hEB := (E24.out.kept KV (by simp; omega)).mono hz1 (Nat.le_refl _)
      have hK := k0.trans KW (L := []) (fun x hx hlt => by simp at hx; have := HRR.out; omega)
      obtain ⟨⟨s0, s1, s2, s3, _, _, _, _, _⟩, ⟨t0, t1, t2, t3, _, _, _, _, _⟩⟩ := BR.two BT (by omega) (.bool p) (.slice av xs.length cv) (.bool q) (.slice bv ys.length dv) (.bool p') (.slice a' xs'.length c') (.bool q') (.slice b' ys'.length d')
      have k9 := kset8 v9 R T (.bool p) (.slice av xs.length cv) (.bool q) (.slice bv ys.length dv) (.bool p') (.slice a' xs'.length c') (.bool q') (.slice b' ys'.length d')
      have hw0 : w.heap.size ≤ W0.heap.size := k0.size
      refine bodyPost_ret (v := .tuple #[.agg #[.bool p, .slice av xs.length cv, .bool q, .slice bv ys.length dv], .agg #[.bool p', .slice a' xs'.length c', .bool q', .slice b' ys'.length d']]) (by simp [results, Try.results5, go_sem, s0, s1, s2, s3, t0, t1, t2, t3]) rfl ?_
      exact ⟨p, av, cv, xs, q, bv, dv, ys, p', a', c', xs', q', b', d', ys', rfl, (hEA.keptRS k9 hRz hTz).mono hw0 (by omega), (hEB.keptRS k9 hRz hTz).mono hw0 (by omega), (hEC.keptRS k9 hRz hTz).mono hw0 (by omega), (hED.keptRS k9 hRz hTz).mono hw0 (by omega), hK.trans k9 (fun x hx hlt => by simp at hx; have := HRR.out; have := HTT.out; omega)⟩

end Go.Proofs.Ytlhiahhpmjiioaa
