/-
  A draw of a point: contract of l5Draw. Condition: few bytes have been read so far.
-/
import Derived.Deep.RegionHeld3
import Derived.Deep.DrawnRows
import Derived.Deep.DeepCutAuto
import Derived.Test.YtlhiahhpmjiioadGreatDoorSrcB
namespace Go.Proofs.YtlhiahhpmjiioadGreatDoor
open Go.RowKit

theorem Src.drewD {w : World} {g : Nat} {a : Option Addr} {n c : Nat} {bs : List Int} {at_ : Int} (h : Src w g a n c bs at_) : Src w.drew g a n c bs at_ := h.kept0 ((Kept.refl [] w).drew)
theorem tdiv2 (x : Int) (h : -200000000000 ≤ x ∧ x ≤ 200000000000) : -200000000000 ≤ x.tdiv 2 ∧ x.tdiv 2 ≤ 200000000000 := by
  by_cases h0 : 0 ≤ x
  · rw [Int.tdiv_eq_ediv_of_nonneg h0]; omega
  · have e : x = -(-x) := by omega
    rw [e, Int.neg_tdiv, Int.tdiv_eq_ediv_of_nonneg (by omega)]; omega
/-- A number of a drawn point. -/
def InD (x : Int) : Prop := -300000000000 ≤ x ∧ x ≤ 300000000000
/-- What a draw of a point answers. -/
def PtR (w : World) (g : Nat) (a : Option Addr) (n c : Nat) (bs : List Int) (at_ : Int) (e : Ending) (w' : World) : Prop :=
  ∃ x y at2, e = .returned (.agg #[.int .i64 x, .int .i64 y]) ∧ InD x ∧ InD y ∧ Src w' g a n c bs at2 ∧ at2 ≤ at_ + 5 ∧ Kept [g] w w'
theorem ptBox {w w1 : World} {T U : TypeId} {L : List Nat} {x y u v : Int} (hk : Kept L ((w.alloc (.cells #[.int .i64 x, .int .i64 y] T)).alloc (.cells #[.int .i64 u, .int .i64 v] U)) w1) (h0 : w.heap.size ∉ L) (h1 : w.heap.size + 1 ∉ L) :
    (w1.cell? ⟨w.heap.size, 0, none⟩ = some (.int .i64 x) ∧ w1.cell? ⟨w.heap.size, 1, none⟩ = some (.int .i64 y) ∧ w1.frozen? ⟨w.heap.size, 0, none⟩ = false ∧ w1.frozen? ⟨w.heap.size, 1, none⟩ = false) ∧ w1.cell? ⟨w.heap.size + 1, 0, none⟩ = some (.int .i64 u) ∧ w1.cell? ⟨w.heap.size + 1, 1, none⟩ = some (.int .i64 v) ∧ w1.frozen? ⟨w.heap.size + 1, 0, none⟩ = false ∧ w1.frozen? ⟨w.heap.size + 1, 1, none⟩ = false :=
  ⟨⟨(hk.peel.top rfl h0 0 (v := .int .i64 x) rfl).1, (hk.peel.top rfl h0 1 (v := .int .i64 y) rfl).1, (hk.peel.top rfl h0 0 (v := .int .i64 x) rfl).2.1, (hk.peel.top rfl h0 1 (v := .int .i64 y) rfl).2.1⟩,
   (hk.top (g := w.heap.size + 1) (by simp) h1 0 (v := .int .i64 u) rfl).1, (hk.top (g := w.heap.size + 1) (by simp) h1 1 (v := .int .i64 v) rfl).1, (hk.top (g := w.heap.size + 1) (by simp) h1 0 (v := .int .i64 u) rfl).2.1, (hk.top (g := w.heap.size + 1) (by simp) h1 1 (v := .int .i64 v) rfl).2.1⟩

/-- A box of two numbers. -/
structure PB (w : World) (A : Nat) (x y : Int) : Prop where
  c0 : w.cell? ⟨A, 0, none⟩ = some (.int .i64 x)
  c1 : w.cell? ⟨A, 1, none⟩ = some (.int .i64 y)
  f0 : w.frozen? ⟨A, 0, none⟩ = false
  f1 : w.frozen? ⟨A, 1, none⟩ = false
theorem PB.kept {w w' : World} {A : Nat} {x y : Int} {L : List Nat} (h : PB w A x y) (k : Kept L w w') (hL : A ∉ L) : PB w' A x y :=
  ⟨k.cell h.c0 hL, k.cell h.c1 hL, k.free h.f0 (World.block_lt_of_cell? w _ h.c0) hL, k.free h.f1 (World.block_lt_of_cell? w _ h.c1) hL⟩
theorem PB.new {w : World} {x y : Int} {T : TypeId} : PB (w.alloc (.cells #[.int .i64 x, .int .i64 y] T)) w.heap.size x y :=
  ⟨by rw [World.cell?_alloc_new]; rfl, by rw [World.cell?_alloc_new]; rfl, by simp, by simp⟩
theorem PB.set0 {w : World} {A : Nat} {x y : Int} (h : PB w A x y) (u : Int) : PB (w.setCell ⟨A, 0, none⟩ (.int .i64 u)) A u y :=
  ⟨World.cell?_setCell_same _ _ _ h.c0, by rw [World.cell?_setCell_other _ _ _ _ (by simp)]; exact h.c1, by simpa using h.f0, by simpa using h.f1⟩
theorem PB.set1 {w : World} {A : Nat} {x y : Int} (h : PB w A x y) (u : Int) : PB (w.setCell ⟨A, 1, none⟩ (.int .i64 u)) A x u :=
  ⟨by rw [World.cell?_setCell_other _ _ _ _ (by simp)]; exact h.c0, World.cell?_setCell_same _ _ _ h.c1, by simpa using h.f0, by simpa using h.f1⟩
theorem Src.setBox {w : World} {g : Nat} {a : Option Addr} {n c : Nat} {bs : List Int} {at_ : Int} (h : Src w g a n c bs at_) (A i : Nat) (v : Value) (hg : g ≠ A) (ha : ∀ x, 0 < n → a = some x → x.block ≠ A) : Src (w.setCell ⟨A, i, none⟩ v) g a n c bs at_ :=
  h.kept (L := [A]) ((Kept.refl [A] w).setCell _ _ (by simp)) (by simpa using hg) (fun hn x hx => by simpa using ha x hn hx)

set_option maxHeartbeats 1000000 in
theorem l5Draw_any (g : Nat) (a : Option Addr) (n c : Nat) (bs : List Int) (at_ : Int) (w : World) (h : Src w g a n c bs at_) (ha : at_ ≤ 900000) :
    Calls Tryz.prog 50 #[.pointer (some ⟨g, 0, none⟩)] w (PtR w g a n c bs at_) := by
  have HS := Lib.hid h
  have hgl := h.lt
  have hat := h.2.2.2.2.2
  clear h
  go_enter Tryz.func50, Tryz.ntmps50
  go_wp2_with fail
  refine (l1Next_any g a n c bs at_ 361 _ (HS.out.kept0 ((Kept.refl [] w).alloc _)) (by omega) (by omega)).mono ?_
  rintro e w1 ⟨r, rfl, r0, r1, hS1, k1⟩
  have S1 := Lib.hid hS1
  have K1 := Lib.hid k1
  clear hS1 k1
  go_wp2_with fail
  refine (l1Next_any g a n c bs (at_ + 1) 181 _ S1.out (by omega) (by omega)).mono ?_
  rintro e w2 ⟨q, rfl, q0, q1, hS2, k2⟩
  have S2 := Lib.hid hS2
  have K2 := Lib.hid (K1.out.trans k2 (fun _ hx _ => hx))
  clear hS2 k2
  go_wp2_with fail
  obtain ⟨x0, hx0⟩ : ∃ x, x = (r - 180) * 1000000000 := ⟨_, rfl⟩
  obtain ⟨y0, hy0⟩ : ∃ x, x = (q - 90) * 1000000000 := ⟨_, rfl⟩
  rw [← hx0, ← hy0]
  have bx : -200000000000 ≤ x0 ∧ x0 ≤ 200000000000 := by omega
  have by_ : -200000000000 ≤ y0 ∧ y0 ≤ 200000000000 := by omega
  clear hx0 hy0 r0 r1 q0 q1
  obtain ⟨A, hA⟩ : ∃ A, A = w2.heap.size := ⟨_, rfl⟩
  obtain ⟨R, hR⟩ : ∃ R, R = w.heap.size := ⟨_, rfl⟩
  have hz2 := K2.out.size
  simp only [World.size_alloc] at hz2
  have hgA : g < A := by have := S2.out.lt; omega
  have hRA : R < A := by omega
  have hgR : g ≠ R := by omega
  have haA : Hid (∀ x, 0 < n → a = some x → x.block ≠ A) := fun x hn hx => by have := S2.out.2.2.2.1.lt hn x hx; omega
  have haR : Hid (∀ x, 0 < n → a = some x → x.block ≠ R) := fun x hn hx => by have := HS.out.2.2.2.1.lt hn x hx; omega
  have kA : Kept [g] w2 (w2.alloc (.cells #[.int .i64 x0, .int .i64 y0] 44)) := (Kept.refl _ _).alloc _
  have S2' := Lib.hid (S2.out.kept0 ((Kept.refl [] w2).alloc (.cells #[.int .i64 x0, .int .i64 y0] 44)))
  have B2 : Hid (PB (w2.alloc (.cells #[.int .i64 x0, .int .i64 y0] 44)) A x0 y0) := by rw [hA]; exact Lib.hid PB.new
  have R2 : Hid (PB (w2.alloc (.cells #[.int .i64 x0, .int .i64 y0] 44)) R 0 0) := by
    rw [hR]
    exact Lib.hid ((PB.new.kept K2.out (by simp; omega)).kept ((Kept.refl [] w2).alloc _) (by simp))
  have KK : Hid (Kept [g] w (w2.alloc (.cells #[.int .i64 x0, .int .i64 y0] 44))) := Lib.hid (K2.out.peel.alloc _)
  have HR := Lib.hid hR
  rw [← hA, ← hR]
  clear kA hR S2 K1 K2 S1
  refine (l1Next_any g a n c bs (at_ + 1 + 1) 5 _ S2'.out (by omega) (by omega)).mono ?_
  rintro e w3 ⟨k, rfl, k0, k1, hS3, k3⟩
  have S3 := Lib.hid hS3
  have B3 := Lib.hid (B2.out.kept k3 (by simp; omega))
  have R3 := Lib.hid (R2.out.kept k3 (by simp; omega))
  have K3 := Lib.hid (KK.out.trans k3 (fun _ hx _ => hx))
  clear hS3 k3 B2 R2 KK S2' hA
  by_cases hk0 : k = 0
  · subst hk0
    go_upto_region 4 with fail
    go_cut [] (fun wx => ∃ x9, Hid (InD x9 ∧ PB wx A x9 y0 ∧ PB wx R 0 0 ∧ Src wx g a n c bs (at_ + 1 + 1 + 1 + 1) ∧ Kept [g] w wx))
    case first =>
      have c0 := B3.out.c0
      have f0 := B3.out.f0
      have d0 : w3.drew.cell? ⟨A, 0, none⟩ = some (.int .i64 x0) := c0
      have t2 := tdiv2 x0 bx
      obtain ⟨t, ht⟩ : ∃ t, x0.tdiv 2 = t := ⟨_, rfl⟩
      rw [ht] at t2
      have e1 : IntKind.i64.wrap t = t := IntWalk.i64_in _ (by omega)
      go_region_with (first
        | (go_at_call 27; refine (l1Next_any g a n c bs (at_ + 1 + 1 + 1) 1000 _ S3.out.drewD (by omega) (by omega)).mono ?_; rintro e v1 ⟨m, rfl, m0, m1, hS4, k4⟩; have c4 := (B3.out.kept (Kept.refl [] w3).drew (by simp)).kept k4 (by simp; omega); have d4 := c4.c0; have f4 := c4.f0; have e3 : IntKind.i64.wrap (m * 999983) = m * 999983 := IntWalk.i64_in _ (by omega); have e2 : IntKind.i64.wrap (t + m * 999983) = t + m * 999983 := IntWalk.i64_in _ (by omega)))
      all_goals
        go_wp2_with fail
        go_meet
        have hRw := HR.out
        have q4 := (R3.out.kept (Kept.refl [] w3).drew (by simp)).kept k4 (by simp; omega)
        exact ⟨t + m * 999983, Lib.hid ⟨by unfold InD; omega, c4.set0 _, q4.kept (L := [A]) ((Kept.refl [A] v1).setCell _ _ (by simp)) (by simp; omega), hS4.setBox A 0 _ (by omega) haA.out, ((K3.out.trans0 (Kept.refl [] w3).drew).trans k4 (fun _ hx _ => hx)).setCell _ _ (by simp; omega)⟩⟩
    case rest =>
    obtain ⟨x1, hh⟩ := hcut
    obtain ⟨w4, hw9⟩ : ∃ w' : World, w' = wc := ⟨_, rfl⟩
    subst hw9
    have ix1 := hh.out.1
    have B4 := Lib.hid hh.out.2.1
    have R4 := Lib.hid hh.out.2.2.1
    have S4 := Lib.hid hh.out.2.2.2.1
    have K4 := Lib.hid hh.out.2.2.2.2
    clear hh
    go_upto_region 5 with fail
    have c0 := B4.out.c1
    have f0 := B4.out.f1
    have d0 : w4.drew.cell? ⟨A, 1, none⟩ = some (.int .i64 y0) := c0
    have t2 := tdiv2 y0 by_
    obtain ⟨t, ht⟩ : ∃ t, y0.tdiv 2 = t := ⟨_, rfl⟩
    rw [ht] at t2
    have e1 : IntKind.i64.wrap t = t := IntWalk.i64_in _ (by omega)
    go_region_with (first
      | (go_at_call 27; refine (l1Next_any g a n c bs (at_ + 1 + 1 + 1 + 1) 1000 _ S4.out.drewD (by omega) (by omega)).mono ?_; rintro e v1 ⟨m, rfl, m0, m1, hS4, k4⟩; have c4 := (B4.out.kept (Kept.refl [] w4).drew (by simp)).kept k4 (by simp; omega); have d4 := c4.c1; have f4 := c4.f1; have e3 : IntKind.i64.wrap (m * 7) = m * 7 := IntWalk.i64_in _ (by omega); have e2 : IntKind.i64.wrap (t - m * 7) = t - m * 7 := IntWalk.i64_in _ (by omega)))
    all_goals
      have q4 := (R4.out.kept (Kept.refl [] w4).drew (by simp)).kept k4 (by simp; omega)
      obtain ⟨y1, hy1⟩ : ∃ y, y = t - m * 7 := ⟨_, rfl⟩
      have iy1 : InD y1 := by unfold InD; omega
      rw [← hy1]
      obtain ⟨w5, hw5⟩ : ∃ w', w' = v1.setCell ⟨A, 1, none⟩ (.int .i64 y1) := ⟨_, rfl⟩
      have kk : Kept [A] v1 w5 := by rw [hw5]; exact (Kept.refl [A] v1).setCell _ _ (by simp)
      have B5 : Hid (PB w5 A x1 y1) := by rw [hw5]; exact Lib.hid (c4.set1 _)
      have R5 := Lib.hid (q4.kept kk (by simp; omega))
      have S5 : Hid (Src w5 g a n c bs (at_ + 1 + 1 + 1 + 1 + 1)) := by rw [hw5]; exact Lib.hid (hS4.setBox A 1 _ (by omega) haA.out)
      have K5 : Hid (Kept [g] w w5) := by rw [hw5]; have hRw := HR.out; exact Lib.hid (((K4.out.trans0 (Kept.refl [] w4).drew).trans k4 (fun _ hx _ => hx)).setCell _ _ (by simp; omega))
      rw [← hw5]
      clear kk hw5 hy1 c4 d4 f4 q4 e2 e3 c0 f0 d0 t2 ht e1 k4 hS4
      have c0 := B5.out.c0
      have c1 := B5.out.c1
      have r0 := R5.out.c0
      have r1 := R5.out.c1
      have g0 := R5.out.f0
      have g1 := R5.out.f1
      go_wp2_with fail
      obtain ⟨_, s0, s1⟩ := cells2 (.int .i64 x1) (.int .i64 y1) r0 r1
      refine bodyPost_ret (v := .agg #[.int .i64 x1, .int .i64 y1]) (by simp [results, Tryz.results50, go_sem, s0, s1]) rfl ⟨x1, y1, (at_ + 1 + 1 + 1 + 1 + 1), rfl, by first | assumption | (unfold InD; omega), by first | assumption | (unfold InD; omega), (S5.out.setBox R 0 _ hgR haR.out).setBox R 1 _ hgR haR.out, by omega, ?_⟩
      have hRw := HR.out
      exact (K5.out.setCell _ _ (by simp; omega)).setCell _ _ (by simp; omega)
  by_cases hk1 : k = 1
  · subst hk1
    go_wp2_with fail
    have hR5 := (Sl.ofBlk (Blk.new w3 [0, 0, 90, -90, 45]) (by simp)).rd
    refine (l1Pick_any g a n c bs (at_ + 1 + 1 + 1) _ 5 _ [0, 0, 90, -90, 45] _ (S3.out.kept0 ((Kept.refl [] w3).alloc _)) (by omega) hR5 (fun _ y hy => by cases hy; have := S3.out.lt; simp; omega) (by omega)).mono ?_
    rintro e w4 ⟨j, hj, rfl, hS4, k4⟩
    have hy : -180 ≤ ([0, 0, 90, -90, 45] : List Int).getD j 0 ∧ ([0, 0, 90, -90, 45] : List Int).getD j 0 ≤ 180 := by
      match j, hj with
      | 0, _ => show (-180 : Int) ≤ _ ∧ _ ≤ (180 : Int); simp
      | 1, _ => show (-180 : Int) ≤ _ ∧ _ ≤ (180 : Int); simp
      | 2, _ => show (-180 : Int) ≤ _ ∧ _ ≤ (180 : Int); simp
      | 3, _ => show (-180 : Int) ≤ _ ∧ _ ≤ (180 : Int); simp
      | 4, _ => show (-180 : Int) ≤ _ ∧ _ ≤ (180 : Int); simp
      | n + 5, h => exact absurd h (by simp)
    generalize ([0, 0, 90, -90, 45] : List Int).getD j 0 = u at hy
    have eu : IntKind.i64.wrap (u * 1000000000) = u * 1000000000 := IntWalk.i64_in _ (by omega)
    have iu : InD (u * 1000000000) := by unfold InD; omega
    have S4 := Lib.hid hS4
    have B4 := Lib.hid ((B3.out.kept ((Kept.refl [] w3).alloc _) (by simp)).kept k4 (by simp; omega))
    have R4 := Lib.hid ((R3.out.kept ((Kept.refl [] w3).alloc _) (by simp)).kept k4 (by simp; omega))
    have K4 := Lib.hid ((K3.out.alloc _).trans k4 (fun _ hx _ => hx))
    have c1u := B4.out.c1
    have f1u := B4.out.f1
    clear hS4 k4 hj hR5 hy
    go_upto_region 8 with fail
    obtain ⟨w5, hw5⟩ : ∃ w', w' = w4.setCell ⟨A, 1, none⟩ (.int .i64 (u * 1000000000)) := ⟨_, rfl⟩
    have kk : Kept [A] w4 w5 := by rw [hw5]; exact (Kept.refl [A] w4).setCell _ _ (by simp)
    have B5 : Hid (PB w5 A x0 (u * 1000000000)) := by rw [hw5]; exact Lib.hid (B4.out.set1 _)
    have R5 := Lib.hid (R4.out.kept kk (by simp; omega))
    have S5 : Hid (Src w5 g a n c bs (at_ + 1 + 1 + 1 + 1)) := by rw [hw5]; exact Lib.hid (S4.out.setBox A 1 _ (by omega) haA.out)
    have K5 : Hid (Kept [g] w w5) := by rw [hw5]; have hRw := HR.out; exact Lib.hid (K4.out.setCell _ _ (by simp; omega))
    rw [← hw5]
    clear kk hw5 c1u f1u
    go_wp2_with fail
    have hR5 := (Sl.ofBlk (Blk.new w5 [0, 0, 180, -180, 90]) (by simp)).rd
    refine (l1Pick_any g a n c bs (at_ + 1 + 1 + 1 + 1) _ 5 _ [0, 0, 180, -180, 90] _ (S5.out.kept0 ((Kept.refl [] w5).alloc _)) (by omega) hR5 (fun _ y hy => by cases hy; have := S5.out.lt; simp; omega) (by omega)).mono ?_
    rintro e w6 ⟨j, hj, rfl, hS4, k4⟩
    have hy : -180 ≤ ([0, 0, 180, -180, 90] : List Int).getD j 0 ∧ ([0, 0, 180, -180, 90] : List Int).getD j 0 ≤ 180 := by
      match j, hj with
      | 0, _ => show (-180 : Int) ≤ _ ∧ _ ≤ (180 : Int); simp
      | 1, _ => show (-180 : Int) ≤ _ ∧ _ ≤ (180 : Int); simp
      | 2, _ => show (-180 : Int) ≤ _ ∧ _ ≤ (180 : Int); simp
      | 3, _ => show (-180 : Int) ≤ _ ∧ _ ≤ (180 : Int); simp
      | 4, _ => show (-180 : Int) ≤ _ ∧ _ ≤ (180 : Int); simp
      | n + 5, h => exact absurd h (by simp)
    generalize ([0, 0, 180, -180, 90] : List Int).getD j 0 = v at hy
    have ev : IntKind.i64.wrap (v * 1000000000) = v * 1000000000 := IntWalk.i64_in _ (by omega)
    have iv : InD (v * 1000000000) := by unfold InD; omega
    have S6 := Lib.hid hS4
    have B6 := Lib.hid ((B5.out.kept ((Kept.refl [] w5).alloc _) (by simp)).kept k4 (by simp; omega))
    have R6 := Lib.hid ((R5.out.kept ((Kept.refl [] w5).alloc _) (by simp)).kept k4 (by simp; omega))
    have K6 := Lib.hid ((K5.out.alloc _).trans k4 (fun _ hx _ => hx))
    have c0v := B6.out.c0
    have f0v := B6.out.f0
    clear hS4 k4 hj hR5 hy
    go_upto_region 9 with fail
    obtain ⟨w7, hw7⟩ : ∃ w', w' = w6.setCell ⟨A, 0, none⟩ (.int .i64 (v * 1000000000)) := ⟨_, rfl⟩
    have kk : Kept [A] w6 w7 := by rw [hw7]; exact (Kept.refl [A] w6).setCell _ _ (by simp)
    have B7 : Hid (PB w7 A (v * 1000000000) (u * 1000000000)) := by rw [hw7]; exact Lib.hid (B6.out.set0 _)
    have R7 := Lib.hid (R6.out.kept kk (by simp; omega))
    have S7 : Hid (Src w7 g a n c bs (at_ + 1 + 1 + 1 + 1 + 1)) := by rw [hw7]; exact Lib.hid (S6.out.setBox A 0 _ (by omega) haA.out)
    have K7 : Hid (Kept [g] w w7) := by rw [hw7]; have hRw := HR.out; exact Lib.hid (K6.out.setCell _ _ (by simp; omega))
    rw [← hw7]
    clear kk hw7 c0v f0v
    have c0 := B7.out.c0
    have c1 := B7.out.c1
    have r0 := R7.out.c0
    have r1 := R7.out.c1
    have g0 := R7.out.f0
    have g1 := R7.out.f1
    go_wp2_with fail
    obtain ⟨_, s0, s1⟩ := cells2 (.int .i64 (v * 1000000000)) (.int .i64 (u * 1000000000)) r0 r1
    refine bodyPost_ret (v := .agg #[.int .i64 (v * 1000000000), .int .i64 (u * 1000000000)]) (by simp [results, Tryz.results50, go_sem, s0, s1]) rfl ⟨(v * 1000000000), (u * 1000000000), (at_ + 1 + 1 + 1 + 1 + 1), rfl, by first | assumption | (unfold InD; omega), by first | assumption | (unfold InD; omega), (S7.out.setBox R 0 _ hgR haR.out).setBox R 1 _ hgR haR.out, by omega, ?_⟩
    have hRw := HR.out
    exact (K7.out.setCell _ _ (by simp; omega)).setCell _ _ (by simp; omega)
  · have z0 : (k == 0) = false := beq_eq_false_iff_ne.2 hk0
    have z1 : (k == 1) = false := beq_eq_false_iff_ne.2 hk1
    have ix : InD x0 := by unfold InD; omega
    have iy : InD y0 := by unfold InD; omega
    have c0 := B3.out.c0
    have c1 := B3.out.c1
    have r0 := R3.out.c0
    have r1 := R3.out.c1
    have g0 := R3.out.f0
    have g1 := R3.out.f1
    go_wp2_with fail
    obtain ⟨_, s0, s1⟩ := cells2 (.int .i64 x0) (.int .i64 y0) r0 r1
    refine bodyPost_ret (v := .agg #[.int .i64 x0, .int .i64 y0]) (by simp [results, Tryz.results50, go_sem, s0, s1]) rfl ⟨x0, y0, (at_ + 1 + 1 + 1), rfl, by first | assumption | (unfold InD; omega), by first | assumption | (unfold InD; omega), (S3.out.setBox R 0 _ hgR haR.out).setBox R 1 _ hgR haR.out, by omega, ?_⟩
    have hRw := HR.out
    exact (K3.out.setCell _ _ (by simp; omega)).setCell _ _ (by simp; omega)

end Go.Proofs.YtlhiahhpmjiioadGreatDoor
