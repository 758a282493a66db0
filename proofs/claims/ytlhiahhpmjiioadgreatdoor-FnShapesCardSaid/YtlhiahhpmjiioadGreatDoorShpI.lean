/-
  Draws of shapes, told closer: contract of l8Draw with the bounds of its kind and of its coordinates. Condition: few bytes have been read so far.
-/
import Derived.Test.YtlhiahhpmjiioadGreatDoorShpD
namespace Go.Proofs.YtlhiahhpmjiioadGreatDoor
open Go.RowKit

/-- What a draw of a shape answers: a kind, and drawn points in memory of its own. -/
def ShpQI (lim : Int) (m0 m1 : Nat) (w : World) (g : Nat) (a : Option Addr) (n c : Nat) (bs : List Int) (at_ : Int) (e : Ending) (w' : World) : Prop :=
  ∃ k v ps at2, e = .returned (.agg #[.int .i64 k, v]) ∧ ((1 ≤ k ∧ k ≤ 4) ∧ PtsD ps) ∧ OwP w.heap.size w' v ps ∧ m0 ≤ ps.length ∧ ps.length ≤ m1 ∧ Src w' g a n c bs at2 ∧ at2 ≤ at_ + lim ∧ Kept [g] w w'
theorem PtsD.snoc {ps : List (Int × Int)} {x y : Int} (h : PtsD ps) (hx : InD x) (hy : InD y) : PtsD (ps ++ [(x, y)]) := by
  intro p hp
  rcases List.mem_append.1 hp with hp | hp
  · exact h p hp
  · rw [List.mem_singleton] at hp; subst hp; exact ⟨hx, hy⟩
theorem PtsD.first {ps : List (Int × Int)} (h : PtsD ps) (h0 : 0 < ps.length) : InD ((flatP ps).getD 0 0) ∧ InD ((flatP ps).getD 1 0) := by
  cases ps with
  | nil => simp at h0
  | cons p ps => exact h p (by simp)
theorem PtsD.at : ∀ {ps : List (Int × Int)}, PtsD ps → ∀ i, i < ps.length → InD ((flatP ps).getD (i * 2) 0) ∧ InD ((flatP ps).getD (i * 2 + 1) 0)
  | [], _, i, hi => by simp at hi
  | p :: ps, h, 0, _ => h p (by simp)
  | p :: ps, h, i + 1, hi => by
    have := PtsD.at (ps := ps) (fun q hq => h q (by simp [hq])) i (by simpa using hi)
    rw [show (i + 1) * 2 = i * 2 + 1 + 1 by omega]
    exact this

variable {w wr v1 w9 : World} {O R : Nat} {k : Int} {v v9 : Value} {ps : List (Int × Int)} {g : Nat} {a : Option Addr} {n c : Nat} {bs : List Int} {at_ at4 : Int} {x y : Int}
set_option maxHeartbeats 1000000 in
set_option maxRecDepth 20000 in
theorem l8Draw_in (g : Nat) (a : Option Addr) (n c : Nat) (bs : List Int) (at_ : Int) (w : World) (h : Src w g a n c bs at_) (ha : at_ ≤ 700000) :
    Calls Tryz.prog 23 #[.pointer (some ⟨g, 0, none⟩)] w (ShpQI 40 1 6 w g a n c bs at_) := by
  have HS := Lib.hid h
  have hgl := h.lt
  have hat := h.2.2.2.2.2
  clear h
  obtain ⟨R, hR⟩ : ∃ R, R = w.heap.size := ⟨_, rfl⟩
  have HR := Lib.hid hR
  go_enter Tryz.func23, Tryz.ntmps23
  go_wp2_with fail
  rw [← hR]
  have KR : Kept [] w (w.alloc (.cells #[.int .i64 0, .slice none 0 0] 26)) := (Kept.refl _ _).alloc _
  have R1 : SB (w.alloc (.cells #[.int .i64 0, .slice none 0 0] 26)) R 0 (.slice none 0 0) := by rw [hR]; exact SB.new
  obtain ⟨W, hW⟩ : ∃ W, w.alloc (.cells #[.int .i64 0, .slice none 0 0] 26) = W := ⟨_, rfl⟩
  rw [hW] at KR R1 ⊢
  have KR := Lib.hid KR
  have R1 := Lib.hid R1
  clear hW hR
  refine (l1Next_any g a n c bs at_ 4 _ (HS.out.kept0 KR.out) (by omega) (by omega)).mono ?_
  rintro e w1 ⟨r, rfl, r0, r1, hS1, k1⟩
  have S1 := Lib.hid hS1
  have hgR : g < R := by have := HR.out; omega
  have R2 := Lib.hid (R1.out.kept k1 (by simp; omega))
  have K1 := Lib.hid (KR.out.mono (M := [g]) (by simp) |>.trans k1 (fun _ hx _ => hx))
  clear hS1 k1 KR R1
  obtain ⟨k, hk⟩ : ∃ k, 1 + r = k := ⟨_, rfl⟩
  have ew : IntKind.i64.wrap (1 + r) = k := by rw [hk]; exact IntWalk.i64_in _ (by omega)
  have hk1 : 1 ≤ k ∧ k ≤ 4 := by omega
  clear hk r0 r1
  go_wp2_with fail
  refine (l5Draw_any g a n c bs _ _ S1.out (by omega)).mono ?_
  rintro e w2 ⟨x0, y0, at1, rfl, ix, iy, hS2, hat1, k2⟩
  have S2 := Lib.hid hS2
  have R3 := Lib.hid (R2.out.kept k2 (by simp; omega))
  have K2 := Lib.hid (K1.out.trans k2 (fun _ hx _ => hx))
  have P0 : Hid (PtsD [(x0, y0)]) := Lib.hid (fun p hp => by rw [List.mem_singleton] at hp; subst hp; exact ⟨ix, iy⟩)
  clear hS2 k2 K1 R2 S1 ix iy
  have hgz2 := S2.out.lt
  have hz2 := K2.out.size
  have hRz2 := R3.out.lt
  obtain ⟨O, hO⟩ : ∃ O, O = w2.heap.size + 1 := ⟨_, rfl⟩
  obtain ⟨W3, hW3⟩ : ∃ W3, ((w2.alloc (.cells #[.int .i64 x0, .int .i64 y0] 44)).alloc (.cells #[.int .i64 k, .slice (some ⟨w2.heap.size, 0, none⟩) 1 1] 26)) = W3 := ⟨_, rfl⟩
  have kW : Kept [] w2 W3 := by rw [← hW3]; exact ((Kept.refl [] w2).alloc _).alloc _
  have OB : Hid (SB W3 O k (.slice (some ⟨w2.heap.size, 0, none⟩) 1 1)) := by
    rw [← hW3, hO]
    have := @SB.new (w2.alloc (.cells #[.int .i64 x0, .int .i64 y0] 44)) k (.slice (some ⟨w2.heap.size, 0, none⟩) 1 1) 26
    simpa using Lib.hid this
  have RB := Lib.hid (R3.out.kept0 kW)
  have SS := Lib.hid (S2.out.kept0 kW)
  have KK := Lib.hid (K2.out.trans0 kW)
  have OO : Hid (OwP w.heap.size W3 (.slice (some ⟨w2.heap.size, 0, none⟩) 1 1) [(x0, y0)]) := by
    rw [← hW3]
    exact Lib.hid ((OwP.one x0 y0 rfl hz2).alloc _)
  have D0 : Hid (DrS w W3 O R k (.slice (some ⟨w2.heap.size, 0, none⟩) 1 1) [(x0, y0)] g a n c bs at1) := Lib.hid ⟨OB.out, RB.out, OO.out, SS.out, KK.out⟩
  have F : Hid (DrF w O R g n a) := Lib.hid ⟨hgl, by have := HR.out; omega, by omega, fun hn y hy => HS.out.2.2.2.1.lt hn y hy⟩
  have HW3 := Lib.hid hW3
  have HO := Lib.hid hO
  clear hW3 hO OB RB SS KK OO kW S2 R3 K2 KR R1 hgz2 hz2 hRz2
  go_upto_block 0 with fail
  rw [HW3.out, ← HO.out]
  go_cut [4] (fun u wx => ∃ (m : Nat) (at2 : Int), u = .int .i64 m ∧ m ≤ 4 ∧ at2 ≤ at1 + 1 ∧ Hid (DrS w wx O R k (.slice (some ⟨w2.heap.size, 0, none⟩) 1 1) [(x0, y0)] g a n c bs at2))
  case first =>
    by_cases h2 : k = 2
    · subst h2
      go_wp2_with fail
      refine (l1Next_any g a n c bs at1 3 _ D0.out.sr (by omega) (by omega)).mono ?_
      rintro e w4 ⟨q, rfl, q0, q1, hS4, k4⟩
      obtain ⟨m, rfl⟩ := Int.eq_ofNat_of_zero_le q0
      go_wp2_with fail
      go_meet
      exact ⟨m, at1 + 1, rfl, by omega, by omega, Lib.hid (D0.out.next F.out hS4 k4)⟩
    by_cases h3 : k = 3
    · subst h3
      go_wp2_with fail
      refine (l1Next_any g a n c bs at1 3 _ D0.out.sr (by omega) (by omega)).mono ?_
      rintro e w4 ⟨q, rfl, q0, q1, hS4, k4⟩
      obtain ⟨m, rfl⟩ := Int.eq_ofNat_of_zero_le q0
      have ew1 : IntKind.i64.wrap (1 + (m : Int)) = 1 + (m : Int) := IntWalk.i64_in _ (by omega)
      go_wp2_with fail
      go_meet
      exact ⟨m + 1, at1 + 1, by congr 1; omega, by omega, by omega, Lib.hid (D0.out.next F.out hS4 k4)⟩
    by_cases h4 : k = 4
    · subst h4
      go_wp2_with fail
      refine (l1Next_any g a n c bs at1 3 _ D0.out.sr (by omega) (by omega)).mono ?_
      rintro e w4 ⟨q, rfl, q0, q1, hS4, k4⟩
      obtain ⟨m, rfl⟩ := Int.eq_ofNat_of_zero_le q0
      have ew1 : IntKind.i64.wrap (2 + (m : Int)) = 2 + (m : Int) := IntWalk.i64_in _ (by omega)
      go_wp2_with fail
      go_meet
      exact ⟨m + 2, at1 + 1, by congr 1; omega, by omega, by omega, Lib.hid (D0.out.next F.out hS4 k4)⟩
    · obtain rfl : k = 1 := by omega
      go_wp2_with fail
      go_meet
      exact ⟨0, at1, rfl, by omega, by omega, D0⟩
  case rest =>
    obtain ⟨m0, at2, rfl, hm0, hat2, hh⟩ := hcut
    obtain ⟨v0, hv0⟩ : ∃ v0 : Value, .slice (some ⟨w2.heap.size, 0, none⟩) 1 1 = v0 := ⟨_, rfl⟩
    rw [hv0] at hh
    clear D0 HW3 HO hv0
    go_wp2_with fail
    go_loopw [4] (fun i wr => ∃ (m : Nat) (v : Value) (ps : List (Int × Int)) (at3 : Int), i = .int .i64 m ∧ ps.length + m ≤ 5 ∧ 1 ≤ ps.length ∧ at3 + 5 * m ≤ at1 + 21 ∧ Hid (PtsD ps) ∧ Hid (DrS w wr O R k v ps g a n c bs at3)) (fun i _ => (intOf i).toNat)
    case atStart => exact ⟨m0, v0, [(x0, y0)], at2, rfl, by simp; omega, by simp, by omega, P0, hh⟩
    case round =>
      obtain ⟨m, v, ps, at3, rfl, hm, hp, hat3, hPD, hD⟩ := hrel
      obtain ⟨av, cv, rfl⟩ := hD.out.op.sl
      obtain ⟨ln, hln⟩ : ∃ ln, ps.length = ln := ⟨_, rfl⟩
      have HLN := Lib.hid hln
      rw [hln] at hm hp hD
      clear hln
      by_cases hpos : 0 < m
      · have c1 := hD.out.ob.c1
        have c1d : wr.drew.cell? ⟨O, 1, none⟩ = some (.slice av ln cv) := c1
        have hat6 : at3 ≤ 900000 := by omega
        have ew1 : IntKind.i64.wrap ((m : Int) - 1) = (m : Int) - 1 := IntWalk.i64_in _ (by omega)
        go_wp2_with fail
        go_region_law (first
          | (refine step_appP (by rfl) (.tmp 33) (.tmp 36) (by rfl) w.heap.size (.slice av ln cv) ps (by rfl) (D4.out.op) v1.heap.size x y (by rfl) (by rw [World.cell?_alloc_new]; rfl) (by rw [World.cell?_alloc_new]; rfl) (by have := HLN.out; omega) D4.out.kp.size ?_; intro v9 w9 hO9 hgr; obtain ⟨a9, e9, rfl⟩ := hO9.sl; have h9 := D4.out.appd F.out (by have := HLN.out; omega) (by have := HLN.out; omega) hgr; have c9 := h9.1.c1; have f9 := h9.1.f1; have D9 := Lib.hid (DrS.store F.out h9 ⟨_, _, _, rfl⟩ hO9 (by simp) (by simp; have := HLN.out; omega)); clear h9)
          | (go_simp; refine (l5Draw_any g a n c bs at3 _ hD.out.sr.drewD hat6).mono ?_; rintro e v1 ⟨x, y, at4, rfl, jx, jy, hS4, hat4, k4⟩; have D1 := Lib.hid ((hD.out.kept0 (Kept.refl [] wr).drew).next F.out hS4 k4); have c4 := D1.out.ob.c1; have D4 := Lib.hid (D1.out.kept0 ((Kept.refl [] v1).alloc (.cells #[.int .i64 x, .int .i64 y] 44))); have c4a := D4.out.ob.c1)
          | fail)
        all_goals
          rw [List.length_append] at D9
          go_wp2_with fail
          go_roundw
          case rel => exact ⟨m - 1, _, ps ++ [(x, y)], at4, by congr 1; omega, by have := HLN.out; simp; omega, by simp, by omega, Lib.hid (hPD.out.snoc jx jy), D9⟩
          case measure => simp [intOf]; omega
      · obtain rfl : m = 0 := by omega
        have HM := Lib.hid (And.intro hm hat3)
        have hap : at3 ≤ at1 + 21 := by omega
        clear hat3 hm
        have c0 := hD.out.ob.c0
        have c1 := hD.out.ob.c1
        have r0 := hD.out.rb.c0
        have r1 := hD.out.rb.c1
        have g0 := hD.out.rb.f0
        have g1 := hD.out.rb.f1
        by_cases h4 : k = 4
        · subst h4
          obtain ⟨gp, cp, hv, _, _, _, hb⟩ := hD.out.op.blk (by have := HLN.out; omega)
          simp only [Value.slice.injEq] at hv
          obtain ⟨rfl, hl9, rfl⟩ := hv
          have hr := rd_newP hb (flatP_len ps) (by have h7 := HLN.out; have h8 := HM.out.1; omega)
          obtain ⟨g1', off, e1, q0⟩ := hr.2.2 0 (by have := HLN.out; omega)
          obtain ⟨g2', off', e2, q1⟩ := hr.2.2 1 (by have := HLN.out; omega)
          simp only [Option.some.injEq, Addr.mk.injEq, and_true] at e1 e2
          obtain ⟨rfl, rfl⟩ := e1
          obtain ⟨rfl, rfl⟩ := e2
          rw [Nat.zero_add] at q0 q1
          have hI := hPD.out.first (by have := HLN.out; omega)
          generalize (flatP ps).getD 0 0 = x at q0 hI
          generalize (flatP ps).getD 1 0 = y at q1 hI
          have HI := Lib.hid hI
          clear hI
          have hln1 : 0 < ln := hp
          have c1d : wr.drew.cell? ⟨O, 1, none⟩ = some (.slice (some ⟨gp, 0, none⟩) ln cv) := c1
          have q0d : wr.drew.cell? ⟨gp, 0, none⟩ = some (.int .i64 x) := q0
          have q1d : wr.drew.cell? ⟨gp, 1, none⟩ = some (.int .i64 y) := q1
          have D4 : Hid (DrS w (wr.alloc (.cells #[.int .i64 x, .int .i64 y] 44)).drew O R 4 (.slice (some ⟨gp, 0, none⟩) ln cv) ps g a n c bs at3) := Lib.hid (hD.out.kept0 (((Kept.refl [] wr).alloc _).drew))
          have c4a := D4.out.ob.c1
          clear hr hb hl9
          go_wp2_with fail
          go_region_law (first
            | (refine step_appP (by rfl) (.tmp 43) (.tmp 48) (by rfl) w.heap.size (.slice (some ⟨gp, 0, none⟩) ln cv) ps (by rfl) (D4.out.op) wr.heap.size x y (by rfl) (by show (wr.alloc _).cell? _ = _; rw [World.cell?_alloc_new]; rfl) (by show (wr.alloc _).cell? _ = _; rw [World.cell?_alloc_new]; rfl) (by have h7 := HLN.out; have h8 := HM.out.1; omega) D4.out.kp.size ?_; intro v9 w9 hO9 hgr; obtain ⟨a9, e9, rfl⟩ := hO9.sl; have h9 := D4.out.appd F.out (by have := HLN.out; omega) (by have h7 := HLN.out; have h8 := HM.out.1; omega) hgr; have c9 := h9.1.c1; have f9 := h9.1.f1; have D9 := Lib.hid (DrS.store F.out h9 ⟨_, _, _, rfl⟩ hO9 (by simp) (by simp; have h7 := HLN.out; have h8 := HM.out.1; omega)); clear h9)
            | fail)
          all_goals
            rw [List.length_append, List.length_singleton] at D9
            obtain ⟨wz, hwz⟩ : ∃ wz, w9.setCell ⟨O, 1, none⟩ (.slice a9 (ps.length + 1) e9) = wz := ⟨_, rfl⟩
            rw [hwz] at D9
            have HWZ := Lib.hid hwz
            clear hwz c9 f9 c0 c1 r0 r1 g0 g1
            have c0 := D9.out.ob.c0
            have c1 := D9.out.ob.c1
            have r0 := D9.out.rb.c0
            have r1 := D9.out.rb.c1
            have g0 := D9.out.rb.f0
            have g1 := D9.out.rb.f1
            go_upto_region 15 with fail
            rw [HWZ.out]
            clear HWZ
            go_wp2_with fail
            obtain ⟨_, s0, s1⟩ := cells2 (.int .i64 4) (.slice a9 (ps.length + 1) e9) r0 r1
            have hf := D9.out.fin F.out (by simp) (by simp; have h7 := HLN.out; have h8 := HM.out.1; omega) 4
            exact bodyPost_ret (v := .agg #[.int .i64 4, .slice a9 (ps.length + 1) e9]) (by simp [results, Tryz.results23, go_sem, s0, s1]) rfl ⟨4, .slice a9 (ps.length + 1) e9, ps ++ [(x, y)], at3, rfl, ⟨⟨by omega, by omega⟩, hPD.out.snoc HI.out.1 HI.out.2⟩, hf.1, by simp, by have h7 := HLN.out; have h8 := HM.out.1; simp; omega, hf.2.1, by omega, hf.2.2⟩
        · have z4 : (k == 4) = false := beq_eq_false_iff_ne.2 h4
          go_wp2_with fail
          obtain ⟨_, s0, s1⟩ := cells2 (.int .i64 k) (.slice av ln cv) r0 r1
          have hf := hD.out.fin F.out (by have := HLN.out; omega) (by have h7 := HLN.out; have h8 := HM.out.1; omega) k
          refine bodyPost_ret (v := .agg #[.int .i64 k, .slice av ln cv]) (by simp [results, Tryz.results23, go_sem, s0, s1]) rfl ⟨k, .slice av ln cv, ps, at3, rfl, ⟨hk1, hPD.out⟩, hf.1, by have := HLN.out; omega, by have h7 := HLN.out; have h8 := HM.out.1; omega, hf.2.1, by omega, hf.2.2⟩

end Go.Proofs.YtlhiahhpmjiioadGreatDoor
