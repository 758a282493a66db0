/-
  Draws of shapes that may be bent: contract of l8Bent. Condition: few bytes have been read so far.
-/
import Derived.Test.YtlhiahhpmjiioadGreatDoorShpD
namespace Go.Proofs.YtlhiahhpmjiioadGreatDoor
open Go.RowKit

/-- What a draw of a shape that may be bent answers: its points are in no memory that was there. -/
def ShpB (lim : Int) (w : World) (g : Nat) (a : Option Addr) (n c : Nat) (bs : List Int) (at_ : Int) (e : Ending) (w' : World) : Prop :=
  ∃ k p m d xs at2, e = .returned (.agg #[.int .i64 k, .slice p m d]) ∧ Rd w' p (m * 2) xs ∧ Fr w.heap.size p (m * 2) ∧ m ≤ 14 ∧ Src w' g a n c bs at2 ∧ at2 ≤ at_ + lim ∧ Kept [g] w w'
theorem OwP.fr {B : Nat} {w : World} {p : Option Addr} {m d : Nat} {ps : List (Int × Int)} (h : OwP B w (.slice p m d) ps) : Fr B p (m * 2) := fun _ x hx => h.lt (by rw [hx]; rfl)
theorem ShpQ.b {lim : Int} {m0 m1 : Nat} {w : World} {g : Nat} {a : Option Addr} {n c : Nat} {bs : List Int} {at_ : Int} {e : Ending} {w' : World} (h : ShpQ lim m0 m1 w g a n c bs at_ e w') (hm : m1 ≤ 14) : ShpB lim w g a n c bs at_ e w' := by
  obtain ⟨k, v, ps, at2, he, ho, _, h1, hs, hat, hk⟩ := h
  obtain ⟨p, d, rfl⟩ := ho.sl
  exact ⟨k, p, ps.length, d, flatP ps, at2, he, (ho.rd (by omega)).2, ho.fr, by omega, hs, hat, hk⟩
theorem pick4m {j : Nat} (hj : j < ([0, 12, 13, 3] : List Int).length) : ∃ m : Nat, ([0, 12, 13, 3] : List Int).getD j 0 = m ∧ m ≤ 13 := by
  match j, hj with
  | 0, _ => exact ⟨0, rfl, by omega⟩
  | 1, _ => exact ⟨12, rfl, by omega⟩
  | 2, _ => exact ⟨13, rfl, by omega⟩
  | 3, _ => exact ⟨3, rfl, by omega⟩
  | n + 4, h => exact absurd h (by simp)

set_option maxHeartbeats 1000000 in
set_option maxRecDepth 20000 in
theorem l8Bent_any (g : Nat) (a : Option Addr) (n c : Nat) (bs : List Int) (at_ : Int) (w : World) (h : Src w g a n c bs at_) (ha : at_ ≤ 600000) :
    Calls Tryz.prog 16 #[.pointer (some ⟨g, 0, none⟩)] w (ShpB 60 w g a n c bs at_) := by
  have HS := Lib.hid h
  have hgl := h.lt
  have hat := h.2.2.2.2.2
  clear h
  obtain ⟨R, hR⟩ : ∃ R, R = w.heap.size := ⟨_, rfl⟩
  have HR := Lib.hid hR
  go_enter Tryz.func16, Tryz.ntmps16
  go_wp2_with fail
  rw [← hR]
  have KR : Kept [] w (w.alloc (.cells #[.int .i64 0, .slice none 0 0] 26)) := (Kept.refl _ _).alloc _
  have R1 : SB (w.alloc (.cells #[.int .i64 0, .slice none 0 0] 26)) R 0 (.slice none 0 0) := by rw [hR]; exact SB.new
  obtain ⟨W, hW⟩ : ∃ W, w.alloc (.cells #[.int .i64 0, .slice none 0 0] 26) = W := ⟨_, rfl⟩
  have hWz : W.heap.size = w.heap.size + 1 := by rw [← hW]; simp
  rw [hW] at KR R1 ⊢
  have KR := Lib.hid KR
  have R1 := Lib.hid R1
  have HWZ := Lib.hid hWz
  clear hW hR hWz
  refine (l8Draw_any g a n c bs at_ _ (HS.out.kept0 KR.out) (by omega)).mono ?_
  rintro e w2 ⟨k, v, ps, at1, rfl, hop, hp1, hp6, hS2, hat1, k2⟩
  have hgR : g < R := by have := HR.out; omega
  have S2 := Lib.hid hS2
  have R2 := Lib.hid (R1.out.kept k2 (by simp; omega))
  have K2 := Lib.hid (KR.out.mono (M := [g]) (by simp) |>.trans k2 (fun _ hx _ => hx))
  obtain ⟨av, cv, rfl⟩ := hop.sl
  have OP := Lib.hid (hop.mono (show w.heap.size ≤ W.heap.size by have := HWZ.out; omega))
  have hat1' := hS2.2.2.2.2.2
  clear hS2 k2 hop KR R1
  obtain ⟨O, hO⟩ : ∃ O, O = w2.heap.size := ⟨_, rfl⟩
  have hRO : R < O := by have := R2.out.lt; omega
  obtain ⟨ln, hln⟩ : ∃ ln, ps.length = ln := ⟨_, rfl⟩
  have HLN := Lib.hid hln
  have F : Hid (DrF w O R g n a) := Lib.hid ⟨hgl, by have := HR.out; omega, hRO, fun hn y hy => HS.out.2.2.2.1.lt hn y hy⟩
  rw [hln] at OP hp1 hp6
  rw [hln]
  clear hln
  go_wp2_with fail
  rw [← hO]
  have D2 : Hid (DrS w (w2.alloc (.cells #[.int .i64 k, .slice av ln cv] 26)) O R k (.slice av ln cv) ps g a n c bs at1) := by
    rw [hO]
    have ka := (Kept.refl [] w2).alloc (.cells #[.int .i64 k, .slice av ln cv] 26)
    exact Lib.hid ⟨SB.new, R2.out.kept0 ka, OP.out.alloc _, S2.out.kept0 ka, K2.out.trans0 ka⟩
  obtain ⟨W3, hW3⟩ : ∃ W3, w2.alloc (.cells #[.int .i64 k, .slice av ln cv] 26) = W3 := ⟨_, rfl⟩
  rw [hW3] at D2 ⊢
  clear hW3 hO OP R2 S2 K2
  refine (l1Next_any g a n c bs at1 12 _ D2.out.sr (by omega) (by omega)).mono ?_
  rintro e w3 ⟨q, rfl, q0, q1, hS3, k3⟩
  have D3 := Lib.hid (D2.out.next F.out hS3 k3)
  clear D2 hS3 k3
  by_cases hq0 : q = 0
  · subst hq0
    go_wp2_with fail
    have hR5 := (Sl.ofBlk (Blk.new w3 [0, 1, 2, 3, 4, 5]) (by simp)).rd
    refine (l1Pick_any g a n c bs (at1 + 1) _ 6 _ [0, 1, 2, 3, 4, 5] _ (D3.out.sr.kept0 ((Kept.refl [] w3).alloc _)) (by omega) hR5 (fun _ y hy => by cases hy; have := D3.out.sr.lt; simp; omega) (by omega)).mono ?_
    rintro e w4 ⟨j, hj, rfl, hS4, k4⟩
    generalize ([0, 1, 2, 3, 4, 5] : List Int).getD j 0 = u
    have D4 := Lib.hid ((D3.out.kept0 ((Kept.refl [] w3).alloc _)).next F.out hS4 k4)
    clear hS4 k4 hj hR5 D3
    have c0 := D4.out.ob.c0
    have f0 := D4.out.ob.f0
    go_upto_region 9 with fail
    have D5 := Lib.hid (D4.out.set0 F.out ⟨_, _, _, rfl⟩ (by have := HLN.out; omega) (by have := HLN.out; omega) u)
    obtain ⟨w5, hw5⟩ : ∃ w5, w4.setCell ⟨O, 0, none⟩ (.int .i64 u) = w5 := ⟨_, rfl⟩
    rw [hw5] at D5 ⊢
    clear hw5 D4 c0 f0
    have c0 := D5.out.ob.c0
    have c1 := D5.out.ob.c1
    have r0 := D5.out.rb.c0
    have r1 := D5.out.rb.c1
    have g0 := D5.out.rb.f0
    have g1 := D5.out.rb.f1
    go_wp2_with fail
    obtain ⟨_, s0, s1⟩ := cells2 (.int .i64 u) (.slice av ln cv) r0 r1
    have hf := D5.out.fin F.out (by have := HLN.out; omega) (by have := HLN.out; omega) u
    exact bodyPost_ret (v := .agg #[.int .i64 u, .slice av ln cv]) (by simp [results, Tryz.results16, go_sem, s0, s1]) rfl (ShpQ.b (m0 := 0) (m1 := 14) ⟨u, .slice av ln cv, ps, at1 + 1 + 1, rfl, hf.1, by omega, by have := HLN.out; omega, hf.2.1, by omega, hf.2.2⟩ (by omega))
  by_cases hq1 : q = 1
  · subst hq1
    have c1 := D3.out.ob.c1
    have c1d : w3.drew.cell? ⟨O, 1, none⟩ = some (.slice av ln cv) := c1
    have hat6 : at1 + 1 ≤ 800000 := by omega
    go_upto_region 6 with fail
    go_region_law (first
      | (refine step_appP (by rfl) (.tmp 17) (.tmp 20) (by rfl) w.heap.size (.slice av ln cv) ps (by rfl) (D4.out.op) v1.heap.size x y (by rfl) (by rw [World.cell?_alloc_new]; rfl) (by rw [World.cell?_alloc_new]; rfl) (by have := HLN.out; omega) D4.out.kp.size ?_; intro v9 w9 hO9 hgr; obtain ⟨a9, e9, rfl⟩ := hO9.sl; have h9 := D4.out.appd F.out (by have := HLN.out; omega) (by have := HLN.out; omega) hgr; have c9 := h9.1.c1; have f9 := h9.1.f1; have D9 := Lib.hid (DrS.store F.out h9 ⟨_, _, _, rfl⟩ hO9 (by simp) (by simp; have := HLN.out; omega)); clear h9)
      | (go_simp; refine (l5Bent_any g a n c bs (at1 + 1) _ D3.out.sr.drewD hat6).mono ?_; rintro e v1 ⟨x, y, at4, rfl, jx, jy, hS4, hat4, k4⟩; have D1 := Lib.hid ((D3.out.kept0 (Kept.refl [] w3).drew).next F.out hS4 k4); have c4 := D1.out.ob.c1; have D4 := Lib.hid (D1.out.kept0 ((Kept.refl [] v1).alloc (.cells #[.int .i64 x, .int .i64 y] 44))); have c4a := D4.out.ob.c1)
      | fail)
    all_goals
      rw [List.length_append, List.length_singleton] at D9
      obtain ⟨wz, hwz⟩ : ∃ wz, w9.setCell ⟨O, 1, none⟩ (.slice a9 (ps.length + 1) e9) = wz := ⟨_, rfl⟩
      rw [hwz] at D9
      have HWZ := Lib.hid hwz
      clear hwz c9 f9 c1 c1d c4 c4a D4 D1 D3
      have c0 := D9.out.ob.c0
      have c1 := D9.out.ob.c1
      have r0 := D9.out.rb.c0
      have r1 := D9.out.rb.c1
      have g0 := D9.out.rb.f0
      have g1 := D9.out.rb.f1
      go_upto_region 9 with fail
      rw [HWZ.out]
      clear HWZ
      go_wp2_with fail
      obtain ⟨_, s0, s1⟩ := cells2 (.int .i64 k) (.slice a9 (ps.length + 1) e9) r0 r1
      have hf := D9.out.fin F.out (by simp) (by simp; have := HLN.out; omega) k
      exact bodyPost_ret (v := .agg #[.int .i64 k, .slice a9 (ps.length + 1) e9]) (by simp [results, Tryz.results16, go_sem, s0, s1]) rfl (ShpQ.b (m0 := 0) (m1 := 14) ⟨k, .slice a9 (ps.length + 1) e9, ps ++ [(x, y)], at4, rfl, hf.1, by omega, by have := HLN.out; simp; omega, hf.2.1, by omega, hf.2.2⟩ (by omega))
  by_cases hq2 : q = 2
  · subst hq2
    go_wp2_with fail
    have hR5 := (Sl.ofBlk (Blk.new w3 [0, 12, 13, 3]) (by simp)).rd
    refine (l1Pick_any g a n c bs (at1 + 1) _ 4 _ [0, 12, 13, 3] _ (D3.out.sr.kept0 ((Kept.refl [] w3).alloc _)) (by omega) hR5 (fun _ y hy => by cases hy; have := D3.out.sr.lt; simp; omega) (by omega)).mono ?_
    rintro e w4 ⟨j, hj, rfl, hS4, k4⟩
    obtain ⟨m, hm, hm13⟩ := pick4m hj
    rw [hm]
    have D4 := Lib.hid ((D3.out.kept0 ((Kept.refl [] w3).alloc _)).next F.out hS4 k4)
    clear hS4 k4 hj hR5 D3 hm
    obtain ⟨i0, hi, hzz⟩ := Option.map_eq_some_iff.1 Tryz.infoPt
    simp only [Prod.mk.injEq] at hzz
    obtain ⟨hz0, hz1, hz2⟩ := hzz
    have hmk : ∀ w : World, (Instr.makeSlice 24 (.int .i64 (m : Int)) (.int .i64 (m : Int))).run Tryz.prog w = .ok (.slice (some ⟨w.heap.size, 0, none⟩) m m) (w.alloc (.cells (madeCells #[Value.int .i64 0, Value.int .i64 0] (m * 2)) 44)) := by
      intro w
      have hr := run_make (P := Tryz.prog) w 24 44 i0 _ Tryz.underlying24 hi hz0 .i64 .i64 m m (by omega) (Int.le_refl _) (by rw [hz2]; omega) (by omega)
      simp only [Int.toNat_natCast, hz1] at hr
      exact hr
    have hOlt := D4.out.ob.lt
    have hRlt := D4.out.rb.lt
    have hwlt := D4.out.kp.size
    have hFh := F.out.hg
    have hFR := F.out.hR
    obtain ⟨q9, hq9⟩ : ∃ q9, w4.heap.size = q9 := ⟨_, rfl⟩
    obtain ⟨W5, hW5⟩ : ∃ W5, (w4.setCell ⟨O, 1, none⟩ (.slice (some ⟨w4.heap.size, 0, none⟩) m m)).alloc (.cells (madeCells #[Value.int .i64 0, Value.int .i64 0] (m * 2)) 44) = W5 := ⟨_, rfl⟩
    have hb5 : Blk W5 q9 (List.replicate (m * 2) 0) := by
      rw [← hW5, made_zeros2]
      have h9 := heap_alloc_new (w4.setCell ⟨O, 1, none⟩ (.slice (some ⟨w4.heap.size, 0, none⟩) m m)) (.cells (ints (List.replicate (m * 2) 0)) 44)
      simp only [World.size_setCell] at h9
      rw [hq9] at h9 ⊢
      exact ⟨(ints _, 44), h9, by rw [ints_size]; exact Nat.le_refl _, fun k hk => ints_get _ k hk⟩
    have kO : Kept [O] w4 (w4.setCell ⟨O, 1, none⟩ (.slice (some ⟨w4.heap.size, 0, none⟩) m m)) := (Kept.refl [O] w4).setCell _ _ (by simp)
    have kA : Kept [] (w4.setCell ⟨O, 1, none⟩ (.slice (some ⟨w4.heap.size, 0, none⟩) m m)) W5 := by rw [← hW5]; exact (Kept.refl [] _).alloc _
    have B5 : SB W5 O k (.slice (some ⟨w4.heap.size, 0, none⟩) m m) := (D4.out.ob.set1 _).kept0 kA
    have R5 : SB W5 R 0 (.slice none 0 0) := (D4.out.rb.kept kO (by simp; omega)).kept0 kA
    have S5 := Lib.hid ((D4.out.sr.setBox O 1 (.slice (some ⟨w4.heap.size, 0, none⟩) m m) (by omega) (fun y hn hy => by have := F.out.ha hn y hy; omega)).kept0 kA)
    have K5 := Lib.hid ((D4.out.kp.setCell ⟨O, 1, none⟩ (.slice (some ⟨w4.heap.size, 0, none⟩) m m) (by simp; omega)).trans0 kA)
    have HB := Lib.hid hb5
    have HW5 := Lib.hid hW5
    rw [hq9] at B5
    have HQ9 := Lib.hid hq9
    have c1 := D4.out.ob.c1
    have f1 := D4.out.ob.f1
    clear hb5 hW5 kO kA hq9
    go_upto_region 9 with fail
    rw [HW5.out, HQ9.out]
    have c0 := B5.c0
    have c1 := B5.c1
    have r0 := R5.c0
    have r1 := R5.c1
    have g0 := R5.f0
    have g1 := R5.f1
    have hRq : R < q9 := by have := HQ9.out; omega
    have hwq : w.heap.size ≤ q9 := by have := HQ9.out; omega
    clear HW5 HQ9 D4 B5 R5
    go_wp2_with fail
    obtain ⟨_, s0, s1⟩ := cells2 (.int .i64 k) (.slice (some ⟨q9, 0, none⟩) m m) r0 r1
    have kR : Kept [R] W5 ((W5.setCell ⟨R, 0, none⟩ (.int .i64 k)).setCell ⟨R, 1, none⟩ (.slice (some ⟨q9, 0, none⟩) m m)) := ((Kept.refl [R] W5).setCell _ _ (by simp)).setCell _ _ (by simp)
    have hb9 := kR.blk HB.out (by simp; omega)
    exact bodyPost_ret (v := .agg #[.int .i64 k, .slice (some ⟨q9, 0, none⟩) m m]) (by simp [results, Tryz.results16, go_sem, s0, s1]) rfl ⟨k, some ⟨q9, 0, none⟩, m, m, List.replicate (m * 2) 0, at1 + 1 + 1, rfl, rd_newP hb9 (by simp) (by omega), fun _ x hx => by cases hx; exact hwq, by omega, (S5.out.setBox R 0 _ (by omega) (fun y hn hy => by have := F.out.ha hn y hy; omega)).setBox R 1 _ (by omega) (fun y hn hy => by have := F.out.ha hn y hy; omega), by omega, (K5.out.setCell _ _ (by simp; omega)).setCell _ _ (by simp; omega)⟩
  · have z0 : (q == 0) = false := beq_eq_false_iff_ne.2 hq0
    have z1 : (q == 1) = false := beq_eq_false_iff_ne.2 hq1
    have z2 : (q == 2) = false := beq_eq_false_iff_ne.2 hq2
    have c0 := D3.out.ob.c0
    have c1 := D3.out.ob.c1
    have r0 := D3.out.rb.c0
    have r1 := D3.out.rb.c1
    have g0 := D3.out.rb.f0
    have g1 := D3.out.rb.f1
    go_wp2_with fail
    obtain ⟨_, s0, s1⟩ := cells2 (.int .i64 k) (.slice av ln cv) r0 r1
    have hf := D3.out.fin F.out (by have := HLN.out; omega) (by have := HLN.out; omega) k
    exact bodyPost_ret (v := .agg #[.int .i64 k, .slice av ln cv]) (by simp [results, Tryz.results16, go_sem, s0, s1]) rfl (ShpQ.b (m0 := 0) (m1 := 14) ⟨k, .slice av ln cv, ps, at1 + 1, rfl, hf.1, by omega, by have := HLN.out; omega, hf.2.1, by omega, hf.2.2⟩ (by omega))

end Go.Proofs.YtlhiahhpmjiioadGreatDoor
