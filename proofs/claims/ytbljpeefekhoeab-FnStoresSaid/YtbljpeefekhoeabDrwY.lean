/-
  Several of my texts joined: the contracts of the functions that they name, each with the conditions that it states.
-/
import Derived.Test.YtbljpeefekhoeabDrwV
import Derived.Test.YtbljpeefekhoeabJ1
import Derived.Test.YtbljpeefekhoeabStoZ
import Derived.Test.YtbljpeefekhoeabDst
import Derived.Test.YtbljpeefekhoeabStoY
import Derived.Test.YtbljpeefekhoeabStoG
import Derived.Test.YtbljpeefekhoeabStoH
import Derived.Test.YtbljpeefekhoeabStoX
namespace Go.Proofs.Ytbljpeefekhoeab
open Go.RowKit

theorem Kept.noSrc {w w1 w' : World} {g : Nat} (k : Kept [] w w1) (hg : w.heap.size ≤ g) (k2 : Kept [g] w1 w') : Kept [] w w' := k.trans k2 (fun x hx hlt => by simp at hx; omega)

theorem DStR.nm {B : Nat} {w : World} {v : Value} {L : List Sh} (h : DStR B w v L) : ∀ i, i < L.length → (L.getD i sh0).nm.length ≤ 12 := by
  obtain ⟨xs, _, h2⟩ := h
  intro i hi
  obtain ⟨_, _, _, _, _, _, _, h⟩ := h2.2 i hi
  exact h
/-- A drawn store, read. -/
theorem DStR.end {B R : Nat} {w w' : World} {b : Option Addr} {m d : Nat} {L : List Sh} (h : DStR B w (.slice b m d) L) (hl : L.length ≤ 21) (hm : L.length = m) (k : Kept [R] w w') (hR : R < B) : RdSt w' b m L ∧ m ≤ 21 ∧ ∀ i, i < m → (L.getD i sh0).nm.length ≤ 12 := by
  have h1 := (h.kept k (by simp; omega)).rd (by omega)
  rw [hm] at h1
  exact ⟨h1.2, by omega, by have := h.nm; rw [hm] at this; exact this⟩

/-- What a draw of a store and a name answers. -/
def GetD (w : World) (e : Ending) (w' : World) : Prop :=
  ∃ b m d L l, e = .returned (.tuple #[.agg #[.slice b m d], .string (strB l)]) ∧ L.length = m ∧ DStR w.heap.size w' (.slice b m d) L ∧ m ≤ 21 ∧ l.length ≤ 12 ∧ Kept [] w w'

set_option maxHeartbeats 1000000 in
theorem DrawGetShape_any (a : Option Addr) (n c : Nat) (bs : List Int) (w : World) (h : Rd8 w a n bs) :
    Calls Try.prog 31 #[.slice a n c] w (GetD w) := by
  have HR := Lib.hid h
  clear h
  obtain ⟨R, hR⟩ : ∃ R, R = w.heap.size := ⟨_, rfl⟩
  have HRR := Lib.hid hR
  go_enter Try.func31, Try.ntmps31
  have KR : Kept [] w (w.alloc (.cells #[.slice none 0 0] 26)) := (Kept.refl _ _).alloc _
  have R1 : LB (w.alloc (.cells #[.slice none 0 0] 26)) R (.slice none 0 0) := by rw [hR]; exact LB.new
  obtain ⟨W, hW⟩ : ∃ W, w.alloc (.cells #[.slice none 0 0] 26) = W := ⟨_, rfl⟩
  have hWz : W.heap.size = w.heap.size + 1 := by rw [← hW]; simp
  rw [hW] at KR R1
  have HWW := Lib.hid hW
  have HWZ := Lib.hid hWz
  have KR := Lib.hid KR
  have R1 := Lib.hid R1
  clear hW hWz hR
  go_wp2_with fail
  rw [HWW.out, ← HRR.out]
  refine (l1Source_any _ _ _ _ _ (HR.out.kept KR.out (by simp))).mono ?_
  rintro e w1 ⟨g, rfl, hg, hS, hK⟩
  have S1 := Lib.hid hS
  have R2 := Lib.hid (R1.out.kept0 hK)
  have K1 := Lib.hid (KR.out.trans0 hK)
  have hz1 := hK.size
  have hRg : R < g ∧ w.heap.size ≤ g := by have h1 := HWZ.out; have h2 := HRR.out; omega
  clear hS hK R1 HWW
  go_wp2_with fail
  refine (l9Bent_any g a n c bs 0 _ S1.out (by omega)).mono ?_
  rintro e w2 ⟨v, L, at1, rfl, hop, hl21, hS2, hat1, k2⟩
  obtain ⟨b, d, rfl⟩ := hop.form
  have OP := Lib.hid hop
  have S2 := Lib.hid hS2
  have R3 := Lib.hid (R2.out.kept k2 (by simp; omega))
  have K2 := Lib.hid (K1.out.noSrc hRg.2 k2)
  have hg1 := S1.out.lt
  clear hop hS2 k2 R2 K1
  obtain ⟨m, hm⟩ : ∃ m, L.length = m := ⟨_, rfl⟩
  have HM := Lib.hid hm
  rw [hm] at hl21 OP ⊢
  clear hm
  go_wp2_with fail
  refine (l9Name_any g a n c bs at1 _ S2.out (by omega)).mono ?_
  rintro e w3 ⟨l, rfl, hl12, hS3, k3⟩
  have R4 := Lib.hid (R3.out.kept k3 (by simp; omega))
  have K3 := Lib.hid (K2.out.noSrc hRg.2 k3)
  have OP3 := Lib.hid (OP.out.kept k3 (by intro x hx; simp at hx; omega))
  clear hS3 k3 R3 K2 OP
  have r0 := R4.out.c0
  have rf := R4.out.f0
  go_wp2_with fail
  have s0 := World.cell?_setCell_same _ _ (.slice b m d) r0
  have hh := (OP3.out.kept (M := [R]) ((Kept.refl [R] w3).setCell ⟨R, 0, none⟩ (.slice b m d) (by simp)) (by simp; omega)).mono (show w.heap.size ≤ w1.heap.size by omega)
  exact bodyPost_ret (v := .tuple #[.agg #[.slice b m d], .string (strB l)]) (by simp [results, Try.results31, go_sem, s0]) rfl ⟨b, m, d, L, l, rfl, HM.out, hh, hl21, hl12, K3.out.setCell _ _ (by have := HRR.out; simp; omega)⟩

set_option maxHeartbeats 1000000 in
theorem DrawDropShape_any (a : Option Addr) (n c : Nat) (bs : List Int) (w : World) (h : Rd8 w a n bs) :
    Calls Try.prog 7 #[.slice a n c] w (GetD w) := by
  have HR := Lib.hid h
  clear h
  obtain ⟨R, hR⟩ : ∃ R, R = w.heap.size := ⟨_, rfl⟩
  have HRR := Lib.hid hR
  go_enter Try.func7, Try.ntmps7
  have KR : Kept [] w (w.alloc (.cells #[.slice none 0 0] 26)) := (Kept.refl _ _).alloc _
  have R1 : LB (w.alloc (.cells #[.slice none 0 0] 26)) R (.slice none 0 0) := by rw [hR]; exact LB.new
  obtain ⟨W, hW⟩ : ∃ W, w.alloc (.cells #[.slice none 0 0] 26) = W := ⟨_, rfl⟩
  have hWz : W.heap.size = w.heap.size + 1 := by rw [← hW]; simp
  have HWZ := Lib.hid hWz
  clear hWz
  rw [hW] at KR R1
  have HWW := Lib.hid hW
  have KR := Lib.hid KR
  have R1 := Lib.hid R1
  clear hW hR
  go_wp2_with fail
  rw [HWW.out, ← HRR.out]
  refine (DrawGetShape_any _ _ _ _ _ (HR.out.kept KR.out (by simp))).mono ?_
  rintro e w1 ⟨b, m, d, L, l, rfl, hm, hr, h21, hl, k1⟩
  have R2 := Lib.hid (R1.out.kept0 k1)
  have K1 := Lib.hid (KR.out.trans0 k1)
  have HRD := Lib.hid hr
  clear hr k1 R1 KR
  have r0 := R2.out.c0
  have rf := R2.out.f0
  go_wp2_with fail
  have s0 := World.cell?_setCell_same _ _ (.slice b m d) r0
  have hzw := HWZ.out
  have hh := (HRD.out.kept (M := [R]) ((Kept.refl [R] w1).setCell ⟨R, 0, none⟩ (.slice b m d) (by simp)) (by have := HRR.out; simp; omega)).mono (show w.heap.size ≤ W.heap.size by omega)
  exact bodyPost_ret (v := .tuple #[.agg #[.slice b m d], .string (strB l)]) (by simp [results, Try.results7, go_sem, s0]) rfl ⟨b, m, d, L, l, rfl, hm, hh, h21, hl, K1.out.setCell _ _ (by have := HRR.out; simp; omega)⟩

theorem put_fin {w5 : World} {R U : Nat} {v0 u0 : Value} {k0 : Int} (r : LB w5 R v0) (u : SB w5 U k0 u0) (hne : R ≠ U) (x z : Value) (k : Int) :
    ((((w5.setCell ⟨R, 0, none⟩ x).setCell ⟨U, 0, none⟩ (.int .i64 k)).setCell ⟨U, 1, none⟩ z).cell? ⟨R, 0, none⟩ = some x ∧ (((w5.setCell ⟨R, 0, none⟩ x).setCell ⟨U, 0, none⟩ (.int .i64 k)).setCell ⟨U, 1, none⟩ z).cell? ⟨U, 0, none⟩ = some (.int .i64 k) ∧
      (((w5.setCell ⟨R, 0, none⟩ x).setCell ⟨U, 0, none⟩ (.int .i64 k)).setCell ⟨U, 1, none⟩ z).cell? ⟨U, 1, none⟩ = some z) ∧ Kept [R, U] w5 (((w5.setCell ⟨R, 0, none⟩ x).setCell ⟨U, 0, none⟩ (.int .i64 k)).setCell ⟨U, 1, none⟩ z) := by
  have u' : SB (w5.setCell ⟨R, 0, none⟩ x) U k0 u0 := u.kept (L := [R]) ((Kept.refl [R] w5).setCell _ _ (by simp)) (by simp; omega)
  have r' : LB (((w5.setCell ⟨R, 0, none⟩ x).setCell ⟨U, 0, none⟩ (.int .i64 k)).setCell ⟨U, 1, none⟩ z) R x := (r.set x).kept (L := [U]) (((Kept.refl [U] _).setCell _ _ (by simp)).setCell _ _ (by simp)) (by simp; omega)
  have u2 := (u'.set0 k).set1 z
  exact ⟨⟨r'.c0, u2.c0, u2.c1⟩, (((Kept.refl [R, U] w5).setCell _ _ (by simp)).setCell _ _ (by simp)).setCell _ _ (by simp)⟩
/-- What a draw of a store, a name and a shape answers. -/
def PutD (w : World) (e : Ending) (w' : World) : Prop :=
  ∃ b m d L l k p q f xs, e = .returned (.tuple #[.agg #[.slice b m d], .string (strB l), .agg #[.int .i64 k, .slice p q f]]) ∧ L.length = m ∧ DStR w.heap.size w' (.slice b m d) L ∧ m ≤ 21 ∧ l.length ≤ 12 ∧ Rd w' p (q * 2) xs ∧ q ≤ 14 ∧ Kept [] w w'

set_option maxHeartbeats 1000000 in
theorem DrawPutShape_any (a : Option Addr) (n c : Nat) (bs : List Int) (w : World) (h : Rd8 w a n bs) :
    Calls Try.prog 5 #[.slice a n c] w (PutD w) := by
  have HR := Lib.hid h
  clear h
  obtain ⟨R, hR⟩ : ∃ R, R = w.heap.size := ⟨_, rfl⟩
  obtain ⟨U, hU⟩ : ∃ U, U = w.heap.size + 1 := ⟨_, rfl⟩
  have HRR := Lib.hid hR
  have HUU := Lib.hid hU
  go_enter Try.func5, Try.ntmps5
  obtain ⟨W, hW⟩ : ∃ W, (w.alloc (.cells #[.slice none 0 0] 26)).alloc (.cells #[.int .i64 0, .slice none 0 0] 29) = W := ⟨_, rfl⟩
  have KR : Kept [] w W := by rw [← hW]; exact ((Kept.refl _ _).alloc _).alloc _
  have R1 : LB W R (.slice none 0 0) := by rw [← hW, hR]; exact LB.new.kept0 ((Kept.refl [] _).alloc _)
  have U1 : SB W U 0 (.slice none 0 0) := by
    rw [← hW, hU]
    have := @SB.new (w.alloc (.cells #[.slice none 0 0] 26)) 0 (.slice none 0 0) 29
    simpa using this
  have hWz : W.heap.size = w.heap.size + 2 := by rw [← hW]; simp
  have HWW := Lib.hid hW
  have HWZ := Lib.hid hWz
  have KR := Lib.hid KR
  have R1 := Lib.hid R1
  have U1 := Lib.hid U1
  clear hW hWz hR hU
  go_wp2_with fail
  rw [HWW.out, ← HUU.out, ← HRR.out]
  refine (l1Source_any _ _ _ _ _ (HR.out.kept KR.out (by simp))).mono ?_
  rintro e w1 ⟨g, rfl, hg, hS, hK⟩
  have S1 := Lib.hid hS
  have R2 := Lib.hid (R1.out.kept0 hK)
  have U2 := Lib.hid (U1.out.kept0 hK)
  have K1 := Lib.hid (KR.out.trans0 hK)
  have hz1 := hK.size
  have hRg : R < g ∧ U < g ∧ w.heap.size ≤ g ∧ R < w1.heap.size ∧ U < w1.heap.size ∧ R ≠ U ∧ w.heap.size ≤ w1.heap.size ∧ w.heap.size ≤ R ∧ w.heap.size ≤ U := by have h1 := HWZ.out; have h2 := HRR.out; have h3 := HUU.out; omega
  have HRG := Lib.hid hRg
  clear hS hK R1 U1 HWW hRg hz1 hg
  go_wp2_with fail
  refine (l9Name_any g a n c bs 0 _ S1.out (by omega)).mono ?_
  rintro e w2 ⟨l0, rfl, hl0, hS2, k2⟩
  have S2 := Lib.hid hS2
  have R3 := Lib.hid (R2.out.kept k2 (by have := HRG.out; simp; omega))
  have U3 := Lib.hid (U2.out.kept k2 (by have := HRG.out; simp; omega))
  have K2 := Lib.hid (K1.out.noSrc HRG.out.2.2.1 k2)
  have hz2 := Lib.hid k2.size
  clear hS2 k2 R2 U2 K1
  go_wp2_with fail
  refine (l1Chance_any g a n c bs (0 + 1) 9 _ S2.out (by omega) (by omega)).mono ?_
  rintro e w3 ⟨t, rfl, hS3, k3⟩
  have S3 := Lib.hid hS3
  have R4 := Lib.hid (R3.out.kept k3 (by have := HRG.out; simp; omega))
  have U4 := Lib.hid (U3.out.kept k3 (by have := HRG.out; simp; omega))
  have K3 := Lib.hid (K2.out.noSrc HRG.out.2.2.1 k3)
  have hz3 := Lib.hid (Nat.le_trans hz2.out k3.size)
  clear hS3 k3 R3 U3 K2 hz2 S2
  have HB := Lib.hid (show strB [65] = (⟨#[65]⟩ : ByteArray) from rfl)
  cases t
  · go_wp2_with fail
    refine (l9Bent_any g a n c bs (0 + 1 + 1) _ S3.out (by omega)).mono ?_
    rintro e w4 ⟨v, L, at1, rfl, hop, hl21, hS4, hat1, k4⟩
    obtain ⟨b, d, rfl⟩ := hop.form
    have OP := Lib.hid hop
    have S4 := Lib.hid hS4
    have R5 := Lib.hid (R4.out.kept k4 (by have := HRG.out; simp; omega))
    have U5 := Lib.hid (U4.out.kept k4 (by have := HRG.out; simp; omega))
    have K4 := Lib.hid (K3.out.noSrc HRG.out.2.2.1 k4)
    have hz4 := Lib.hid (Nat.le_trans hz3.out k4.size)
    have hg4 : Hid (g < w3.heap.size) := Lib.hid S3.out.lt
    clear hop hS4 k4 R4 U4 K3
    obtain ⟨m, hm⟩ : ∃ m, L.length = m := ⟨_, rfl⟩
    have HM := Lib.hid hm
    rw [hm] at hl21 OP ⊢
    clear hm
    go_wp2_with fail
    refine (l8Bent_any g a n c bs at1 _ S4.out (by omega)).mono ?_
    rintro e w5 ⟨k, p, q, f, xs, at2, rfl, hrd, hfr, hq14, hS5, hat2, k5⟩
    have R6 := Lib.hid (R5.out.kept k5 (by have := HRG.out; simp; omega))
    have U6 := Lib.hid (U5.out.kept k5 (by have := HRG.out; simp; omega))
    have K5 := Lib.hid (K4.out.noSrc HRG.out.2.2.1 k5)
    have OP5 := Lib.hid (OP.out.kept k5 (by intro x hx; have := hg4.out; simp at hx; omega))
    have HRD := Lib.hid (And.intro hrd hfr)
    clear hS5 k5 R5 U5 K4 OP hrd hfr
    have r0 := R6.out.c0
    have rf := R6.out.f0
    have u0 := U6.out.c0
    have u1 := U6.out.c1
    have v0 := U6.out.f0
    have v1 := U6.out.f1
    have hRU : R ≠ U := HRG.out.2.2.2.2.2.1
    go_wp2_with fail
    obtain ⟨⟨e0, e1, e2⟩, kF⟩ := put_fin R6.out U6.out hRU (.slice b m d) (.slice p q f) k
    have hh := (OP5.out.kept kF (by have := HRG.out; have h9 := hz3.out; simp; omega)).mono (show w.heap.size ≤ w3.heap.size by have h1 := HRG.out; have h2 := hz3.out; omega)
    have hrd := HRD.out.1.kept kF (fun hn y hy hm => by have h1 := HRD.out.2 hn y hy; have h2 := HRG.out; have h3 := hz4.out; simp at hm; omega)
    exact bodyPost_ret (v := .tuple #[.agg #[.slice b m d], .string (strB l0), .agg #[.int .i64 k, .slice p q f]]) (by simp [results, Try.results5, go_sem, e0, e1, e2]) rfl ⟨b, m, d, L, l0, k, p, q, f, xs, rfl, HM.out, hh, hl21, by omega, hrd, hq14, ((K5.out.setCell _ _ (by have := HRG.out; simp; omega)).setCell _ _ (by have := HRG.out; simp; omega)).setCell _ _ (by have := HRG.out; simp; omega)⟩
  · go_wp2_with fail
    refine (l9Bent_any g a n c bs (0 + 1 + 1) _ S3.out (by omega)).mono ?_
    rintro e w4 ⟨v, L, at1, rfl, hop, hl21, hS4, hat1, k4⟩
    obtain ⟨b, d, rfl⟩ := hop.form
    have OP := Lib.hid hop
    have S4 := Lib.hid hS4
    have R5 := Lib.hid (R4.out.kept k4 (by have := HRG.out; simp; omega))
    have U5 := Lib.hid (U4.out.kept k4 (by have := HRG.out; simp; omega))
    have K4 := Lib.hid (K3.out.noSrc HRG.out.2.2.1 k4)
    have hz4 := Lib.hid (Nat.le_trans hz3.out k4.size)
    have hg4 : Hid (g < w3.heap.size) := Lib.hid S3.out.lt
    clear hop hS4 k4 R4 U4 K3
    obtain ⟨m, hm⟩ : ∃ m, L.length = m := ⟨_, rfl⟩
    have HM := Lib.hid hm
    rw [hm] at hl21 OP ⊢
    clear hm
    go_wp2_with fail
    refine (l8Bent_any g a n c bs at1 _ S4.out (by omega)).mono ?_
    rintro e w5 ⟨k, p, q, f, xs, at2, rfl, hrd, hfr, hq14, hS5, hat2, k5⟩
    have R6 := Lib.hid (R5.out.kept k5 (by have := HRG.out; simp; omega))
    have U6 := Lib.hid (U5.out.kept k5 (by have := HRG.out; simp; omega))
    have K5 := Lib.hid (K4.out.noSrc HRG.out.2.2.1 k5)
    have OP5 := Lib.hid (OP.out.kept k5 (by intro x hx; have := hg4.out; simp at hx; omega))
    have HRD := Lib.hid (And.intro hrd hfr)
    clear hS5 k5 R5 U5 K4 OP hrd hfr
    have r0 := R6.out.c0
    have rf := R6.out.f0
    have u0 := U6.out.c0
    have u1 := U6.out.c1
    have v0 := U6.out.f0
    have v1 := U6.out.f1
    have hRU : R ≠ U := HRG.out.2.2.2.2.2.1
    go_wp2_with fail
    obtain ⟨⟨e0, e1, e2⟩, kF⟩ := put_fin R6.out U6.out hRU (.slice b m d) (.slice p q f) k
    have hh := (OP5.out.kept kF (by have := HRG.out; have h9 := hz3.out; simp; omega)).mono (show w.heap.size ≤ w3.heap.size by have h1 := HRG.out; have h2 := hz3.out; omega)
    have hrd := HRD.out.1.kept kF (fun hn y hy hm => by have h1 := HRD.out.2 hn y hy; have h2 := HRG.out; have h3 := hz4.out; simp at hm; omega)
    exact bodyPost_ret (v := .tuple #[.agg #[.slice b m d], .string ⟨#[65]⟩, .agg #[.int .i64 k, .slice p q f]]) (by simp [results, Try.results5, go_sem, e0, e1, e2]) rfl ⟨b, m, d, L, [65], k, p, q, f, xs, rfl, HM.out, hh, hl21, by simp, hrd, hq14, ((K5.out.setCell _ _ (by have := HRG.out; simp; omega)).setCell _ _ (by have := HRG.out; simp; omega)).setCell _ _ (by have := HRG.out; simp; omega)⟩

end Go.Proofs.Ytbljpeefekhoeab

namespace Go.Proofs.Ytbljpeefekhoeab
open Go.RowKit

/-- Several slices read as several lists. -/
def SlL (w : World) (L : List (Option Addr × Nat × List Int)) : Prop := ∀ z, z ∈ L → Sl w z.1 z.2.2.length z.2.1 z.2.2
theorem SlL.nil (w : World) : SlL w [] := fun z hz => by cases hz
theorem SlL.cons {w : World} {L : List (Option Addr × Nat × List Int)} {a : Option Addr} {c : Nat} {xs : List Int} (h : SlL w L) (h' : Sl w a xs.length c xs) : SlL w ((a, c, xs) :: L) := fun z hz => by
  rcases List.mem_cons.1 hz with rfl | hz
  · exact h'
  · exact h z hz
theorem SlL.kept0 {w w' : World} {L : List (Option Addr × Nat × List Int)} (h : SlL w L) (k : Kept [] w w') : SlL w' L := fun z hz => (h z hz).kept0 k
theorem SlL.at {w : World} {L : List (Option Addr × Nat × List Int)} {a : Option Addr} {c : Nat} {xs : List Int} (h : SlL w L) (hz : (a, c, xs) ∈ L) : Sl w a xs.length c xs := h _ hz

/-- The cells of a box. -/
def Bx (w : World) (g : Nat) (vs : List Value) : Prop := ∀ i, i < vs.length → w.cell? ⟨g, i, none⟩ = vs[i]?
theorem Bx.kept0 {w w' : World} {g : Nat} {vs : List Value} (h : Bx w g vs) (k : Kept [] w w') : Bx w' g vs := fun i hi => by
  have := h i hi
  rw [List.getElem?_eq_getElem hi] at this ⊢
  exact k.cell this (by simp)
theorem Bx.at {w : World} {g : Nat} {vs : List Value} (h : Bx w g vs) (i : Nat) (hi : i < vs.length) {v : Value} (hv : vs[i]? = some v) : w.cell? ⟨g, i, none⟩ = some v := by rw [h i hi, hv]
theorem Bx.new (w : World) (vs : List Value) (t : TypeId) : Bx (w.alloc (.cells vs.toArray t)) w.heap.size vs := fun i hi => by
  rw [World.cell?_alloc_new]; simp

end Go.Proofs.Ytbljpeefekhoeab

namespace Go.Proofs.Ytbljpeefekhoeab
open Go.RowKit

/-- What a draw of two stores answers. -/
def SamD (w : World) (e : Ending) (w' : World) : Prop :=
  ∃ b m d L p q f M, e = .returned (.tuple #[.agg #[.slice b m d], .agg #[.slice p q f]]) ∧ RdSt w' b m L ∧ RdSt w' p q M ∧ Kept [] w w'

theorem RdSt.cast {w : World} {a : Option Addr} {n m : Nat} {L : List Sh} (h : RdSt w a n L) (e : n = m) : RdSt w a m L := by subst e; exact h
theorem sto_hv {L : List Sh} (h : storeC L = 0) : ∀ i, i < L.length → ((1 ≤ (L.getD i sh0).n ∧ (L.getD i sh0).n ≤ 12) ∧ (L.getD i sh0).nm.length ≤ 8) ∧ (L.getD i sh0).nm ≠ [] := by
  intro i hi
  have h1 := namedC_ok ((storeC_iff.1 h).2.1 _ (mem_getD.2 ⟨i, hi, rfl⟩))
  have h2 := isNm_len h1.1
  exact ⟨⟨shapeC_n h1.2, h2.2⟩, fun e => by rw [e] at h2; simp at h2⟩
theorem two_lists {w5 : World} {R U : Nat} {v0 u0 : Value} (r : LB w5 R v0) (u : LB w5 U u0) (hne : R ≠ U) (x z : Value) :
    (((w5.setCell ⟨R, 0, none⟩ x).setCell ⟨U, 0, none⟩ z).cell? ⟨R, 0, none⟩ = some x ∧ ((w5.setCell ⟨R, 0, none⟩ x).setCell ⟨U, 0, none⟩ z).cell? ⟨U, 0, none⟩ = some z) ∧ Kept [R, U] w5 ((w5.setCell ⟨R, 0, none⟩ x).setCell ⟨U, 0, none⟩ z) := by
  have u' : LB (w5.setCell ⟨R, 0, none⟩ x) U u0 := u.kept (L := [R]) ((Kept.refl [R] w5).setCell _ _ (by simp)) (by simp; omega)
  have r' : LB ((w5.setCell ⟨R, 0, none⟩ x).setCell ⟨U, 0, none⟩ z) R x := (r.set x).kept (L := [U]) ((Kept.refl [U] _).setCell _ _ (by simp)) (by simp; omega)
  exact ⟨⟨r'.c0, (u'.set z).c0⟩, ((Kept.refl [R, U] w5).setCell _ _ (by simp)).setCell _ _ (by simp)⟩

set_option maxHeartbeats 1000000 in
theorem DrawSameStores_any (a : Option Addr) (n c : Nat) (bs : List Int) (w : World) (h : Rd8 w a n bs) :
    Calls Try.prog 10 #[.slice a n c] w (SamD w) := by
  have HR := Lib.hid h
  clear h
  obtain ⟨R, hR⟩ : ∃ R, R = w.heap.size := ⟨_, rfl⟩
  obtain ⟨U, hU⟩ : ∃ U, U = w.heap.size + 1 := ⟨_, rfl⟩
  have HRR := Lib.hid hR
  have HUU := Lib.hid hU
  go_enter Try.func10, Try.ntmps10
  obtain ⟨W, hW⟩ : ∃ W, (w.alloc (.cells #[.slice none 0 0] 26)).alloc (.cells #[.slice none 0 0] 26) = W := ⟨_, rfl⟩
  have KR : Kept [] w W := by rw [← hW]; exact ((Kept.refl _ _).alloc _).alloc _
  have R1 : LB W R (.slice none 0 0) := by rw [← hW, hR]; exact LB.new.kept0 ((Kept.refl [] _).alloc _)
  have U1 : LB W U (.slice none 0 0) := by
    rw [← hW, hU]
    have := @LB.new (w.alloc (.cells #[.slice none 0 0] 26)) (.slice none 0 0) 26
    simpa using this
  have hWz : W.heap.size = w.heap.size + 2 := by rw [← hW]; simp
  have HWW := Lib.hid hW
  have HWZ := Lib.hid hWz
  have KR := Lib.hid KR
  have R1 := Lib.hid R1
  have U1 := Lib.hid U1
  clear hW hWz hR hU
  go_wp2_with fail
  rw [HWW.out, ← HUU.out, ← HRR.out]
  refine (l1Source_any _ _ _ _ _ (HR.out.kept KR.out (by simp))).mono ?_
  rintro e w1 ⟨g, rfl, hg, hS, hK⟩
  have S1 := Lib.hid hS
  have R2 := Lib.hid (R1.out.kept0 hK)
  have U2 := Lib.hid (U1.out.kept0 hK)
  have K1 := Lib.hid (KR.out.trans0 hK)
  have hz1 := hK.size
  have hRg : R < g ∧ U < g ∧ w.heap.size ≤ g ∧ R < w1.heap.size ∧ U < w1.heap.size ∧ R ≠ U ∧ w.heap.size ≤ w1.heap.size ∧ w.heap.size ≤ R ∧ w.heap.size ≤ U := by have h1 := HWZ.out; have h2 := HRR.out; have h3 := HUU.out; omega
  have HRG := Lib.hid hRg
  have HR1 := Lib.hid (HR.out.kept (KR.out.trans0 hK) (by simp))
  clear hS hK R1 U1 HWW hRg hz1 hg
  go_wp2_with fail
  refine (l9Draw_any g a n c bs 0 _ S1.out (by omega)).mono ?_
  rintro e w2 ⟨v, L, at1, rfl, hop, hl10, hz, hS2, hat1, k2⟩
  obtain ⟨b, d, rfl⟩ := hop.form
  have S2 := Lib.hid hS2
  have R3 := Lib.hid (R2.out.kept k2 (by have := HRG.out; simp; omega))
  have U3 := Lib.hid (U2.out.kept k2 (by have := HRG.out; simp; omega))
  have K2 := Lib.hid (K1.out.noSrc HRG.out.2.2.1 k2)
  have hz2 := Lib.hid k2.size
  have OP := Lib.hid hop
  have HZ := Lib.hid hz.1
  have HG1 := Lib.hid S1.out.lt
  clear hS2 k2 R2 U2 K1 hop hz
  obtain ⟨m, hm⟩ : ∃ m, L.length = m := ⟨_, rfl⟩
  have HM := Lib.hid hm
  rw [hm] at hl10 OP ⊢
  clear hm
  obtain ⟨O, hO⟩ : ∃ O, O = w2.heap.size := ⟨_, rfl⟩
  have HO := Lib.hid hO
  obtain ⟨W3, hW3⟩ : ∃ W3, w2.alloc (.cells #[.slice b m d] 26) = W3 := ⟨_, rfl⟩
  have k23 : Kept [] w2 W3 := by rw [← hW3]; exact (Kept.refl _ _).alloc _
  have O3 : LB W3 O (.slice b m d) := by rw [← hW3, hO]; exact LB.new
  have S3 := Lib.hid (S2.out.kept0 k23)
  have R4 := Lib.hid (R3.out.kept0 k23)
  have U4 := Lib.hid (U3.out.kept0 k23)
  have K3 := Lib.hid (K2.out.trans0 k23)
  have OP3 := Lib.hid (OP.out.kept0 k23)
  have HW3 := Lib.hid hW3
  have O3 := Lib.hid O3
  clear hW3 hO k23 R3 U3 K2 S2
  go_wp2_with fail
  rw [HW3.out, ← HO.out]
  refine (l1Chance_any g a n c bs at1 2 _ S3.out (by omega) (by omega)).mono ?_
  rintro e w4 ⟨t, rfl, hS4, k4⟩
  have hgO : g < O := by have h1 := HO.out; have h2 := HG1.out; have h3 := hz2.out; omega
  have O4 := Lib.hid (O3.out.kept k4 (by simp; omega))
  have R5 := Lib.hid (R4.out.kept k4 (by have := HRG.out; simp; omega))
  have U5 := Lib.hid (U4.out.kept k4 (by have := HRG.out; simp; omega))
  have K4 := Lib.hid (K3.out.noSrc HRG.out.2.2.1 k4)
  have OP4 := Lib.hid (OP3.out.kept k4 (by have := HG1.out; simp; omega))
  have HR4 := Lib.hid (HR.out.kept K4.out (by simp))
  have hz4 := Lib.hid (Nat.le_trans hz2.out (Nat.le_trans (show w2.heap.size ≤ W3.heap.size by rw [← HW3.out]; simp) k4.size))
  clear k4 O3 R4 U4 K3 OP3 hS4 S3 HW3
  have c0 := O4.out.c0
  have c0d : w4.drew.cell? ⟨O, 0, none⟩ = some (.slice b m d) := c0
  have r0 := R5.out.c0
  have rf := R5.out.f0
  have u0 := U5.out.c0
  have uf := U5.out.f0
  have hRU : R ≠ U := HRG.out.2.2.2.2.2.1
  have hB5 : R < w1.heap.size ∧ U < w1.heap.size := ⟨HRG.out.2.2.2.1, HRG.out.2.2.2.2.1⟩
  have hz4' := hz4.out
  have hm9 := HM.out
  have HM9 := Lib.hid hm9
  clear hm9
  cases t
  · go_upto_region 5 with fail
    go_region_law (first
      | (go_simp; go_at_call 23; refine (l1Source_any _ _ _ _ _ (HR4.out.kept ((Kept.refl [] w4).drew) (by simp))).mono ?_; rintro e v1 ⟨g1, rfl, hg1, hS1, k1⟩; have O5 := Lib.hid (O4.out.kept0 ((Kept.refl [] w4).drew.trans0 k1)); have c1 := O5.out.c0)
      | (go_simp; go_at_call 26; refine (l9Bent_any g1 a n c bs 0 _ hS1 (by omega)).mono ?_; rintro e v2 ⟨v, M, at2, rfl, hop2, hl2, hS2, hat2, k2⟩; obtain ⟨p9, f9, rfl⟩ := hop2.form; have k42 : Hid (Kept [] w4 v2) := Lib.hid (((Kept.refl [] w4).drew.trans0 k1).noSrc hg1 k2); have O6 := Lib.hid (O4.out.kept0 k42.out); have c2 := O6.out.c0; have R6 := Lib.hid (R5.out.kept0 k42.out); have U6 := Lib.hid (U5.out.kept0 k42.out); have r2 := R6.out.c0; have rf2 := R6.out.f0; have u2 := U6.out.c0; have uf2 := U6.out.f0)
      | fail)
    all_goals
      clear c0 c0d r0 rf u0 uf c1 c2
      go_wp2_with fail
      obtain ⟨⟨e0, e1⟩, kF⟩ := two_lists R6.out U6.out hRU (.slice b m d) (.slice p9 M.length f9)
      have hz1 := k1.size
      have hz9 := k42.out.size
      have hA := ((OP4.out.kept0 k42.out).kept kF (by simp; omega)).rd (by have := HM9.out; omega)
      have hB := (hop2.kept kF (by simp only [World.size_drew] at hz1; simp; omega)).rd (by omega)
      exact bodyPost_ret (v := .tuple #[.agg #[.slice b m d], .agg #[.slice p9 M.length f9]]) (by simp [results, Try.results10, go_sem, e0, e1]) rfl ⟨b, m, d, L, p9, M.length, f9, M, rfl, hA.2.cast HM9.out, hB.2, ((K4.out.trans0 k42.out).setCell _ _ (by have := HRG.out; simp; omega)).setCell _ _ (by have := HRG.out; simp; omega)⟩
  · go_upto_region 4 with fail
    have hrd := (OP4.out.rd (by have := HM9.out; omega)).2
    rw [HM9.out] at hrd
    have HRD := Lib.hid hrd
    have hv := sto_hv HZ.out
    rw [HM9.out] at hv
    have HV := Lib.hid hv
    clear hrd hv
    go_region_law (first
      | (go_simp; go_at_call 34; refine (l9Copy_any O b m d L _ (HRD.out.kept0 (Kept.refl [] w4).drew) c0d (by omega) (fun i hi => (HV.out i hi).1) (fun i hi => (HV.out i hi).2)).mono ?_; rintro e v1 ⟨u, rfl, hst, k1⟩; obtain ⟨p9, f9, rfl⟩ := hst.form; have k42 : Hid (Kept [] w4 v1) := Lib.hid ((Kept.refl [] w4).drew.trans0 k1); have O6 := Lib.hid (O4.out.kept0 k42.out); have c2 := O6.out.c0; have R6 := Lib.hid (R5.out.kept0 k42.out); have U6 := Lib.hid (U5.out.kept0 k42.out); have r2 := R6.out.c0; have rf2 := R6.out.f0; have u2 := U6.out.c0; have uf2 := U6.out.f0)
      | fail)
    all_goals
      clear c0 c0d r0 rf u0 uf c2
      go_wp2_with fail
      obtain ⟨⟨e0, e1⟩, kF⟩ := two_lists R6.out U6.out hRU (.slice b m d) (.slice p9 L.length f9)
      have hz9 := k42.out.size
      have hA := ((OP4.out.kept0 k42.out).kept kF (by simp; omega)).rd (by have := HM9.out; omega)
      have hB := (stV_set (stV_set hst ⟨R, 0, none⟩ (.slice b m d) (by have := R5.out.lt; simpa using this)) ⟨U, 0, none⟩ (.slice p9 L.length f9) (by have := U5.out.lt; simpa using this)).w.rd
      exact bodyPost_ret (v := .tuple #[.agg #[.slice b m d], .agg #[.slice p9 L.length f9]]) (by simp [results, Try.results10, go_sem, e0, e1]) rfl ⟨b, m, d, L, p9, L.length, f9, L, rfl, hA.2.cast HM9.out, hB, ((K4.out.trans0 k42.out).setCell _ _ (by have := HRG.out; simp; omega)).setCell _ _ (by have := HRG.out; simp; omega)⟩

end Go.Proofs.Ytbljpeefekhoeab

namespace Go.Proofs.Ytbljpeefekhoeab
open Go.RowKit

/-- A call that answers a code and a list. -/
def ResQ (w : World) (v : Int) (m : Nat) (M : List Sh) (e : Ending) (w' : World) : Prop := ∃ a c, e = .returned (.agg #[.int .i64 v, .slice a m c]) ∧ RdSt w' a m M ∧ Kept [] w w'
theorem StoRes.q {w : World} {v u : Int} {M N : List Sh} {m : Nat} {e : Ending} {w' : World} (h : StoRes w v M e w') (hv : v = u) (hM : M = N) (hm : N.length = m) : ResQ w u m N e w' := by
  subst hv hM hm
  obtain ⟨u, rfl, hs, hk⟩ := h
  obtain ⟨a, c, rfl⟩ := hs.form
  exact ⟨a, c, rfl, hs.w.rd, hk⟩
/-- A call that answers a code and a shape. -/
def GetQ (w : World) (v k : Int) (m : Nat) (xs : List Int) (e : Ending) (w' : World) : Prop := ∃ a c, e = .returned (.agg #[.int .i64 v, .int .i64 k, .slice a m c]) ∧ Rd w' a (m * 2) xs ∧ Kept [] w w'
theorem GetR.q {w : World} {L : List Sh} {x nm : List UInt8} {v k : Int} {m : Nat} {xs : List Int} {e : Ending} {w' : World} (h : GetR w L x e w') (hv : getC L x = v) (hg : gotS L x = ⟨nm, k, m, xs⟩) : GetQ w v k m xs e w' := by
  obtain ⟨a, c, rfl, hs, _, hk⟩ := h
  rw [hg] at hs ⊢
  rw [hv]
  exact ⟨a, c, rfl, hs.rd, hk⟩
variable {a b p : Option Addr} {n m c d q f : Nat} {L M N : List Sh} {x nm : List UInt8} {k v gk : Int} {xs gx : List Int} {w : World}
theorem PutShape_q (h : RdSt w a n L) (hr : Rd w p (q * 2) xs) (hx : x.length ≤ 1048576) (hv : putC L ⟨x, k, q, xs⟩ = v) (hM : putS L ⟨x, k, q, xs⟩ = N) (hm : N.length = m) :
    Calls Try.prog 6 #[.agg #[.slice a n c], .string (strB x), .agg #[.int .i64 k, .slice p q f]] w (ResQ w v m N) :=
  (PutShape_any a n c L ⟨x, k, q, xs⟩ p f w h hr hx).mono fun _ _ h => h.q hv hM hm
theorem sPutShape_q (h : RdSt w a n L) (hr : Rd w p (q * 2) xs) (hx : x.length ≤ 1048576) (hv : putC L ⟨x, k, q, xs⟩ = v) (hM : putS L ⟨x, k, q, xs⟩ = N) (hm : N.length = m) :
    Calls Try.prog 12 #[.agg #[.slice a n c], .string (strB x), .agg #[.int .i64 k, .slice p q f]] w (ResQ w v m N) :=
  (sPutShape_any a n c L ⟨x, k, q, xs⟩ p f w h hr hx).mono fun _ _ h => h.q hv hM hm
theorem DropShape_q (h : RdSt w a n L) (hx : x.length ≤ 1048576) (hv : getC L x = v) (hM : dropS L x = N) (hm : N.length = m) :
    Calls Try.prog 8 #[.agg #[.slice a n c], .string (strB x)] w (ResQ w v m N) :=
  (DropShape_any a n c L x w h hx).mono fun _ _ h => h.q hv hM hm
theorem sDropShape_q (h : RdSt w a n L) (hv : getC L x = v) (hM : dropS L x = N) (hm : N.length = m) :
    Calls Try.prog 14 #[.agg #[.slice a n c], .string (strB x)] w (ResQ w v m N) :=
  (sDropShape_any a n c L x w h).mono fun _ _ h => h.q hv hM hm
theorem GetShape_q (h : RdSt w a n L) (hx : x.length ≤ 1048576) (hv : getC L x = v) (hg : gotS L x = ⟨nm, gk, m, gx⟩) :
    Calls Try.prog 9 #[.agg #[.slice a n c], .string (strB x)] w (GetQ w v gk m gx) :=
  (GetShape_any a n c L x w h hx).mono fun _ _ h => h.q hv hg
theorem sGetShape_q (h : RdSt w a n L) (hv : getC L x = v) (hg : gotS L x = ⟨nm, gk, m, gx⟩) :
    Calls Try.prog 16 #[.agg #[.slice a n c], .string (strB x)] w (GetQ w v gk m gx) :=
  (sGetShape_any a n c L x w h).mono fun _ _ h => h.q hv hg
theorem SameStores_q {t : Bool} (h : RdSt w a n L) (h' : RdSt w b m M) (ht : sameSto L M = t) :
    Calls Try.prog 13 #[.agg #[.slice a n c], .agg #[.slice b m d]] w (Ans w (.bool t)) := by
  subst ht; exact SameStores_any a n c L b m d M w h h'
theorem sSameStores_q {t : Bool} (h : RdSt w a n L) (h' : RdSt w b m M) (ht : sameSto L M = t) :
    Calls Try.prog 17 #[.agg #[.slice a n c], .agg #[.slice b m d]] w (Ans w (.bool t)) := by
  subst ht; exact sSameStores_any a n c L b m d M w h h'
theorem SameShapes_q (h : Rd w a (n * 2) xs) (h' : Rd w b (n * 2) xs) :
    Calls Try.prog 15 #[.agg #[.int .i64 k, .slice a n c], .agg #[.int .i64 k, .slice b n d]] w (Ans w (.bool true)) := by
  have := SameShapes_any k a n c xs k b n d xs w h h'
  rwa [sameShp_refl] at this
theorem sSameShapes_q (h : Rd w a (n * 2) xs) (h' : Rd w b (n * 2) xs) :
    Calls Try.prog 22 #[.agg #[.int .i64 k, .slice a n c], .agg #[.int .i64 k, .slice b n d]] w (Ans w (.bool true)) := by
  have := sSameShapes_any k a n c xs k b n d xs w h h'
  rwa [sameShp_refl] at this
theorem StoreFault_q (h : RdSt w a n L) (hv : storeC L = v) : Calls Try.prog 18 #[.agg #[.slice a n c]] w (Ans w (.int .i64 v)) := by
  subst hv; exact StoreFault_any a n c L w h
theorem sStoreFault_q (h : RdSt w a n L) (hv : storeC L = v) : Calls Try.prog 19 #[.agg #[.slice a n c]] w (Ans w (.int .i64 v)) := by
  subst hv; exact sStoreFault_any a n c L w h
theorem IsName_q {t : Bool} (hx : x.length ≤ 1048576) (ht : isNm x = t) : Calls Try.prog 20 #[.string (strB x)] w (Ans w (.bool t)) := by
  subst ht; exact IsName_any (strB x) w (by rw [strB_size]; omega)
theorem sIsName_q {t : Bool} (hx : x.length ≤ 1048576) (ht : isNm x = t) : Calls Try.prog 21 #[.string (strB x)] w (Ans w (.bool t)) := by
  subst ht; exact sIsName_any (strB x) w (by rw [strB_size]; omega)

end Go.Proofs.Ytbljpeefekhoeab
