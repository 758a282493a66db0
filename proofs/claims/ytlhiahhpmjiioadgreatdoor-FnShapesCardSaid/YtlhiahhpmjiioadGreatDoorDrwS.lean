/-
  A draw of a point that may be bent: contract of l5Bent. Condition: few bytes have been read so far.
-/
import Derived.Test.YtlhiahhpmjiioadGreatDoorDrwP
namespace Go.Proofs.YtlhiahhpmjiioadGreatDoor
open Go.RowKit

/-- What a draw of a point that may be bent answers. -/
def PtB (w : World) (g : Nat) (a : Option Addr) (n c : Nat) (bs : List Int) (at_ : Int) (e : Ending) (w' : World) : Prop :=
  ∃ x y at2, e = .returned (.agg #[.int .i64 x, .int .i64 y]) ∧ InD x ∧ InD y ∧ Src w' g a n c bs at2 ∧ at2 ≤ at_ + 8 ∧ Kept [g] w w'
theorem pick3D {x y z : Int} {j : Nat} (hj : j < [x, y, z].length) (h : InD x ∧ InD y ∧ InD z) : InD ([x, y, z].getD j 0) := by
  match j, hj with
  | 0, _ => exact h.1
  | 1, _ => exact h.2.1
  | 2, _ => exact h.2.2
  | n + 3, h => exact absurd h (by simp)

set_option maxHeartbeats 1000000 in
theorem l5Bent_any (g : Nat) (a : Option Addr) (n c : Nat) (bs : List Int) (at_ : Int) (w : World) (h : Src w g a n c bs at_) (ha : at_ ≤ 800000) :
    Calls Tryz.prog 40 #[.pointer (some ⟨g, 0, none⟩)] w (PtB w g a n c bs at_) := by
  have HS := Lib.hid h
  have hgl := h.lt
  have hat := h.2.2.2.2.2
  clear h
  go_enter Tryz.func40, Tryz.ntmps40
  go_wp2_with fail
  refine (l5Draw_any g a n c bs at_ _ (HS.out.kept0 ((Kept.refl [] w).alloc _)) (by omega)).mono ?_
  rintro e w2 ⟨x0, y0, at1, rfl, ix, iy, hS2, hat1, k2⟩
  have S2 := Lib.hid hS2
  have K2 := Lib.hid k2
  have hz2 := k2.size
  have hat2 := hS2.2.2.2.2.2
  simp only [World.size_alloc] at hz2
  clear hS2 k2
  obtain ⟨A, hA⟩ : ∃ A, A = w2.heap.size := ⟨_, rfl⟩
  obtain ⟨R, hR⟩ : ∃ R, R = w.heap.size := ⟨_, rfl⟩
  have hgA : g < A := by have := S2.out.lt; omega
  have hRA : R < A := by omega
  have hgR : g ≠ R := by omega
  have haA : Hid (∀ x, 0 < n → a = some x → x.block ≠ A) := fun x hn hx => by have := S2.out.2.2.2.1.lt hn x hx; omega
  have haR : Hid (∀ x, 0 < n → a = some x → x.block ≠ R) := fun x hn hx => by have := HS.out.2.2.2.1.lt hn x hx; omega
  have S2' := Lib.hid (S2.out.kept0 ((Kept.refl [] w2).alloc (.cells #[.int .i64 x0, .int .i64 y0] 44)))
  have B2 : Hid (PB (w2.alloc (.cells #[.int .i64 x0, .int .i64 y0] 44)) A x0 y0) := by rw [hA]; exact Lib.hid PB.new
  have R2 : Hid (PB (w2.alloc (.cells #[.int .i64 x0, .int .i64 y0] 44)) R 0 0) := by
    rw [hR]
    exact Lib.hid ((PB.new.kept K2.out (by simp; omega)).kept ((Kept.refl [] w2).alloc _) (by simp))
  have KK : Hid (Kept [g] w (w2.alloc (.cells #[.int .i64 x0, .int .i64 y0] 44))) := Lib.hid (K2.out.peel.alloc _)
  have HR := Lib.hid hR
  go_wp2_with fail
  rw [← hA, ← hR]
  clear hR S2 K2
  refine (l1Next_any g a n c bs at1 20 _ S2'.out (by omega) (by omega)).mono ?_
  rintro e w3 ⟨k, rfl, k0, k1, hS3, k3⟩
  have S3 := Lib.hid hS3
  have B3 := Lib.hid (B2.out.kept k3 (by simp; omega))
  have R3 := Lib.hid (R2.out.kept k3 (by simp; omega))
  have K3 := Lib.hid (KK.out.trans k3 (fun _ hx _ => hx))
  clear hS3 k3 B2 R2 KK S2' hA
  by_cases hk0 : k = 0
  · subst hk0
    go_wp2_with fail
    have hR5 := (Sl.ofBlk (Blk.new w3 [-180000000001, 180000000001, 180000000000]) (by simp)).rd
    refine (l1Pick_any g a n c bs (at1 + 1) _ 3 _ [-180000000001, 180000000001, 180000000000] _ (S3.out.kept0 ((Kept.refl [] w3).alloc _)) (by omega) hR5 (fun _ y hy => by cases hy; have := S3.out.lt; simp; omega) (by omega)).mono ?_
    rintro e w4 ⟨j, hj, rfl, hS4, k4⟩
    have iu := pick3D hj (by unfold InD; omega)
    generalize ([-180000000001, 180000000001, 180000000000] : List Int).getD j 0 = u at iu
    have S4 := Lib.hid hS4
    have B4 := Lib.hid ((B3.out.kept ((Kept.refl [] w3).alloc _) (by simp)).kept k4 (by simp; omega))
    have R4 := Lib.hid ((R3.out.kept ((Kept.refl [] w3).alloc _) (by simp)).kept k4 (by simp; omega))
    have K4 := Lib.hid ((K3.out.alloc _).trans k4 (fun _ hx _ => hx))
    have c0u := B4.out.c0
    have f0u := B4.out.f0
    clear hS4 k4 hj hR5
    go_upto_region 7 with fail
    obtain ⟨w5, hw5⟩ : ∃ w', w' = w4.setCell ⟨A, 0, none⟩ (.int .i64 u) := ⟨_, rfl⟩
    have kk : Kept [A] w4 w5 := by rw [hw5]; exact (Kept.refl [A] w4).setCell _ _ (by simp)
    have B5 : Hid (PB w5 A u y0) := by rw [hw5]; exact Lib.hid (B4.out.set0 _)
    have R5 := Lib.hid (R4.out.kept kk (by simp; omega))
    have S5 : Hid (Src w5 g a n c bs (at1 + 1 + 1)) := by rw [hw5]; exact Lib.hid (S4.out.setBox A 0 _ (by omega) haA.out)
    have K5 : Hid (Kept [g] w w5) := by rw [hw5]; have hRw := HR.out; exact Lib.hid (K4.out.setCell _ _ (by simp; omega))
    rw [← hw5]
    clear kk hw5 c0u f0u
    have c0 := B5.out.c0
    have c1 := B5.out.c1
    have r0 := R5.out.c0
    have r1 := R5.out.c1
    have g0 := R5.out.f0
    have g1 := R5.out.f1
    go_wp2_with fail
    obtain ⟨_, s0, s1⟩ := cells2 (.int .i64 u) (.int .i64 y0) r0 r1
    refine bodyPost_ret (v := .agg #[.int .i64 u, .int .i64 y0]) (by simp [results, Tryz.results40, go_sem, s0, s1]) rfl ⟨u, y0, (at1 + 1 + 1), rfl, iu, iy, (S5.out.setBox R 0 _ hgR haR.out).setBox R 1 _ hgR haR.out, by omega, ?_⟩
    have hRw := HR.out
    exact (K5.out.setCell _ _ (by simp; omega)).setCell _ _ (by simp; omega)
  by_cases hk1 : k = 1
  · subst hk1
    go_wp2_with fail
    have hR5 := (Sl.ofBlk (Blk.new w3 [-90000000001, 90000000001, 90000000000]) (by simp)).rd
    refine (l1Pick_any g a n c bs (at1 + 1) _ 3 _ [-90000000001, 90000000001, 90000000000] _ (S3.out.kept0 ((Kept.refl [] w3).alloc _)) (by omega) hR5 (fun _ y hy => by cases hy; have := S3.out.lt; simp; omega) (by omega)).mono ?_
    rintro e w4 ⟨j, hj, rfl, hS4, k4⟩
    have iu := pick3D hj (by unfold InD; omega)
    generalize ([-90000000001, 90000000001, 90000000000] : List Int).getD j 0 = u at iu
    have S4 := Lib.hid hS4
    have B4 := Lib.hid ((B3.out.kept ((Kept.refl [] w3).alloc _) (by simp)).kept k4 (by simp; omega))
    have R4 := Lib.hid ((R3.out.kept ((Kept.refl [] w3).alloc _) (by simp)).kept k4 (by simp; omega))
    have K4 := Lib.hid ((K3.out.alloc _).trans k4 (fun _ hx _ => hx))
    have c1u := B4.out.c1
    have f1u := B4.out.f1
    clear hS4 k4 hj hR5
    go_upto_region 7 with fail
    obtain ⟨w5, hw5⟩ : ∃ w', w' = w4.setCell ⟨A, 1, none⟩ (.int .i64 u) := ⟨_, rfl⟩
    have kk : Kept [A] w4 w5 := by rw [hw5]; exact (Kept.refl [A] w4).setCell _ _ (by simp)
    have B5 : Hid (PB w5 A x0 u) := by rw [hw5]; exact Lib.hid (B4.out.set1 _)
    have R5 := Lib.hid (R4.out.kept kk (by simp; omega))
    have S5 : Hid (Src w5 g a n c bs (at1 + 1 + 1)) := by rw [hw5]; exact Lib.hid (S4.out.setBox A 1 _ (by omega) haA.out)
    have K5 : Hid (Kept [g] w w5) := by rw [hw5]; have hRw := HR.out; exact Lib.hid (K4.out.setCell _ _ (by simp; omega))
    rw [← hw5]
    clear kk hw5 c1u f1u
    have c0 := B5.out.c0
    have c1 := B5.out.c1
    have r0 := R5.out.c0
    have r1 := R5.out.c1
    have g0 := R5.out.f0
    have g1 := R5.out.f1
    go_wp2_with fail
    obtain ⟨_, s0, s1⟩ := cells2 (.int .i64 x0) (.int .i64 u) r0 r1
    refine bodyPost_ret (v := .agg #[.int .i64 x0, .int .i64 u]) (by simp [results, Tryz.results40, go_sem, s0, s1]) rfl ⟨x0, u, (at1 + 1 + 1), rfl, ix, iu, (S5.out.setBox R 0 _ hgR haR.out).setBox R 1 _ hgR haR.out, by omega, ?_⟩
    have hRw := HR.out
    exact (K5.out.setCell _ _ (by simp; omega)).setCell _ _ (by simp; omega)
  · have z0 : (k == 0) = false := beq_eq_false_iff_ne.2 hk0
    have z1 : (k == 1) = false := beq_eq_false_iff_ne.2 hk1
    have c0 := B3.out.c0
    have c1 := B3.out.c1
    have r0 := R3.out.c0
    have r1 := R3.out.c1
    have g0 := R3.out.f0
    have g1 := R3.out.f1
    go_wp2_with fail
    obtain ⟨_, s0, s1⟩ := cells2 (.int .i64 x0) (.int .i64 y0) r0 r1
    refine bodyPost_ret (v := .agg #[.int .i64 x0, .int .i64 y0]) (by simp [results, Tryz.results40, go_sem, s0, s1]) rfl ⟨x0, y0, (at1 + 1), rfl, ix, iy, (S3.out.setBox R 0 _ hgR haR.out).setBox R 1 _ hgR haR.out, by omega, ?_⟩
    have hRw := HR.out
    exact (K3.out.setCell _ _ (by simp; omega)).setCell _ _ (by simp; omega)

end Go.Proofs.YtlhiahhpmjiioadGreatDoor
