/-
  The draws of spans: contract of l3Bent. Condition: few bytes have been read so far.
-/
import Derived.Test.YtlhiahhpmjiioaaDrwG
namespace Go.Proofs.Ytlhiahhpmjiioaa
open Go.RowKit

/-- A box of four cells. -/
structure B4 (w : World) (b : Nat) (v0 v1 v2 v3 : Value) : Prop where
  c0 : w.cell? ⟨b, 0, none⟩ = some v0
  c1 : w.cell? ⟨b, 1, none⟩ = some v1
  c2 : w.cell? ⟨b, 2, none⟩ = some v2
  c3 : w.cell? ⟨b, 3, none⟩ = some v3
  f0 : w.frozen? ⟨b, 0, none⟩ = false
  f1 : w.frozen? ⟨b, 1, none⟩ = false
  f2 : w.frozen? ⟨b, 2, none⟩ = false
  f3 : w.frozen? ⟨b, 3, none⟩ = false
  lt : b < w.heap.size
theorem B4.kept {w w' : World} {b : Nat} {v0 v1 v2 v3 : Value} {L : List Nat} (h : B4 w b v0 v1 v2 v3) (k : Kept L w w') (hL : b ∉ L) : B4 w' b v0 v1 v2 v3 :=
  ⟨k.cell h.c0 hL, k.cell h.c1 hL, k.cell h.c2 hL, k.cell h.c3 hL, k.free h.f0 h.lt hL, k.free h.f1 h.lt hL, k.free h.f2 h.lt hL, k.free h.f3 h.lt hL, Nat.lt_of_lt_of_le h.lt k.size⟩
theorem B4.new {w w' : World} {v0 v1 v2 v3 : Value} {L : List Nat} {T : TypeId} (k : Kept L (w.alloc (.cells #[v0, v1, v2, v3] T)) w') (hL : w.heap.size ∉ L) : B4 w' w.heap.size v0 v1 v2 v3 :=
  ⟨(k.top rfl hL 0 (v := v0) rfl).1, (k.top rfl hL 1 (v := v1) rfl).1, (k.top rfl hL 2 (v := v2) rfl).1, (k.top rfl hL 3 (v := v3) rfl).1, (k.top rfl hL 0 (v := v0) rfl).2.1, (k.top rfl hL 1 (v := v1) rfl).2.1, (k.top rfl hL 2 (v := v2) rfl).2.1, (k.top rfl hL 3 (v := v3) rfl).2.1, Nat.lt_of_lt_of_le (by simp) k.size⟩
theorem B4.set01 {w : World} {b : Nat} {v0 v1 v2 v3 : Value} (h : B4 w b v0 v1 v2 v3) (u0 u1 : Value) : B4 ((w.setCell ⟨b, 0, none⟩ u0).setCell ⟨b, 1, none⟩ u1) b u0 u1 v2 v3 := by
  obtain ⟨_, s0, s1⟩ := cells2 u0 u1 h.c0 h.c1
  exact ⟨s0, s1, by rw [World.cell?_setCell_other _ _ _ _ (by simp), World.cell?_setCell_other _ _ _ _ (by simp)]; exact h.c2, by rw [World.cell?_setCell_other _ _ _ _ (by simp), World.cell?_setCell_other _ _ _ _ (by simp)]; exact h.c3, by simpa using h.f0, by simpa using h.f1, by simpa using h.f2, by simpa using h.f3, by simpa using h.lt⟩
theorem B4.set23 {w : World} {b : Nat} {v0 v1 v2 v3 : Value} (h : B4 w b v0 v1 v2 v3) (u2 u3 : Value) : B4 ((w.setCell ⟨b, 2, none⟩ u2).setCell ⟨b, 3, none⟩ u3) b v0 v1 u2 u3 := by
  have e2 := World.cell?_setCell_same w ⟨b, 2, none⟩ u2 h.c2
  have e3 : (w.setCell ⟨b, 2, none⟩ u2).cell? ⟨b, 3, none⟩ = some v3 := by rw [World.cell?_setCell_other _ _ _ _ (by simp)]; exact h.c3
  exact ⟨by rw [World.cell?_setCell_other _ _ _ _ (by simp), World.cell?_setCell_other _ _ _ _ (by simp)]; exact h.c0, by rw [World.cell?_setCell_other _ _ _ _ (by simp), World.cell?_setCell_other _ _ _ _ (by simp)]; exact h.c1, by rw [World.cell?_setCell_other _ _ _ _ (by simp)]; exact e2, World.cell?_setCell_same _ _ _ e3, by simpa using h.f0, by simpa using h.f1, by simpa using h.f2, by simpa using h.f3, by simpa using h.lt⟩
theorem B4.set4 {w : World} {b : Nat} {v0 v1 v2 v3 : Value} (h : B4 w b v0 v1 v2 v3) (u0 u1 u2 u3 : Value) : B4 ((((w.setCell ⟨b, 0, none⟩ u0).setCell ⟨b, 1, none⟩ u1).setCell ⟨b, 2, none⟩ u2).setCell ⟨b, 3, none⟩ u3) b u0 u1 u2 u3 := (h.set01 u0 u1).set23 u2 u3
theorem EndD.keptB {w w' w'' : World} {a : Option Addr} {c : Nat} {xs : List Int} {k B : Nat} (h : EndD w w' a c xs k) (kk : Kept [B] w' w'') (hB : 0 < xs.length → ∀ x, a = some x → x.block ≠ B) : EndD w w'' a c xs k :=
  ⟨h.1.kept kk (fun hn x hx hm => by simp at hm; exact hB hn x hx hm), h.2.1, h.2.2⟩
/-- What l3Bent answers. -/
def SpanDR (w : World) (g : Nat) (a : Option Addr) (n c : Nat) (bs : List Int) (top : Int) (e : Ending) (w' : World) : Prop :=
  ∃ p av cv xs q bv dv ys at2, e = .returned (.agg #[.bool p, .slice av xs.length cv, .bool q, .slice bv ys.length dv]) ∧ EndD w w' av cv xs 41 ∧ EndD w w' bv dv ys 41 ∧ Src w' g a n c bs at2 ∧ at2 ≤ top ∧ Kept [g] w w'
theorem kset01 (w : World) (R : Nat) (u0 u1 : Value) : Kept [R] w ((w.setCell ⟨R, 0, none⟩ u0).setCell ⟨R, 1, none⟩ u1) := ((Kept.refl [R] w).setCell _ _ (by simp)).setCell _ _ (by simp)
theorem kset23 (w : World) (R : Nat) (u0 u1 : Value) : Kept [R] w ((w.setCell ⟨R, 2, none⟩ u0).setCell ⟨R, 3, none⟩ u1) := ((Kept.refl [R] w).setCell _ _ (by simp)).setCell _ _ (by simp)
/-- What holds of a draw under way: the answer's box R, the span's box B, its ends in new memory. -/
structure Bent (w W0 wz : World) (R B g : Nat) (a : Option Addr) (n c : Nat) (bs : List Int) (at_ : Int) (p : Bool) (av : Option Addr) (cv : Nat) (xs : List Int) (q : Bool) (bv : Option Addr) (dv : Nat) (ys : List Int) : Prop where
  r : B4 wz R (.bool false) (.slice none 0 0) (.bool false) (.slice none 0 0)
  b : B4 wz B (.bool p) (.slice av xs.length cv) (.bool q) (.slice bv ys.length dv)
  lo : EndD W0 wz av cv xs 41
  hi : EndD W0 wz bv dv ys 41
  nl : 0 < xs.length → ∀ x, av = some x → x.block ≠ B
  nh : 0 < ys.length → ∀ x, bv = some x → x.block ≠ B
  s : Src wz g a n c bs at_
  k : Kept [g] w wz
/-- The answer is stored. -/
theorem Bent.fin {w W0 wz : World} {R B g : Nat} {a : Option Addr} {n c : Nat} {bs : List Int} {at_ : Int} {p : Bool} {av : Option Addr} {cv : Nat} {xs : List Int} {q : Bool} {bv : Option Addr} {dv : Nat} {ys : List Int}
    (h : Bent w W0 wz R B g a n c bs at_ p av cv xs q bv dv ys) (hR : R = w.heap.size) (hz : w.heap.size < W0.heap.size) (hg : g < w.heap.size) (ha : ∀ x, 0 < n → a = some x → x.block < w.heap.size) :
    EndD w ((((wz.setCell ⟨R, 0, none⟩ (.bool p)).setCell ⟨R, 1, none⟩ (.slice av xs.length cv)).setCell ⟨R, 2, none⟩ (.bool q)).setCell ⟨R, 3, none⟩ (.slice bv ys.length dv)) av cv xs 41 ∧
    EndD w ((((wz.setCell ⟨R, 0, none⟩ (.bool p)).setCell ⟨R, 1, none⟩ (.slice av xs.length cv)).setCell ⟨R, 2, none⟩ (.bool q)).setCell ⟨R, 3, none⟩ (.slice bv ys.length dv)) bv dv ys 41 ∧
    Src ((((wz.setCell ⟨R, 0, none⟩ (.bool p)).setCell ⟨R, 1, none⟩ (.slice av xs.length cv)).setCell ⟨R, 2, none⟩ (.bool q)).setCell ⟨R, 3, none⟩ (.slice bv ys.length dv)) g a n c bs at_ ∧
    Kept [g] w ((((wz.setCell ⟨R, 0, none⟩ (.bool p)).setCell ⟨R, 1, none⟩ (.slice av xs.length cv)).setCell ⟨R, 2, none⟩ (.bool q)).setCell ⟨R, 3, none⟩ (.slice bv ys.length dv)) := by
  have k := kset4o wz R (.bool p) (.slice av xs.length cv) (.bool q) (.slice bv ys.length dv)
  subst hR
  exact ⟨(h.lo.kept k (by simp; omega)).mono (by omega) (Nat.le_refl _), (h.hi.kept k (by simp; omega)).mono (by omega) (Nat.le_refl _), h.s.kept k (by simp; omega) (fun hn x hx => by have := ha x hn hx; simp; omega), h.k.trans k (fun x hx hlt => by simp at hx; omega)⟩

theorem pick3l {j : Nat} (hj : j < ([20, 21, 14] : List Int).length) : ([20, 21, 14] : List Int).getD j 0 = 20 ∨ ([20, 21, 14] : List Int).getD j 0 = 21 ∨ ([20, 21, 14] : List Int).getD j 0 = 14 := by
  match j, hj with
  | 0, _ => exact .inl rfl
  | 1, _ => exact .inr (.inl rfl)
  | 2, _ => exact .inr (.inr rfl)
  | n + 3, h => exact absurd h (by simp)

set_option maxHeartbeats 400000 in
theorem l2Big_no (a : Option Addr) (n c : Nat) (w : World) :
    Calls Try.prog 39 #[.bool false, .slice a n c] w (Val w (.agg #[.bool false, .slice a n c])) := by
  go_enter Try.func39, Try.ntmps39
  go_wp2
  exact bodyPost_ret (v := .agg #[.bool false, .slice a n c]) (by simp [results, Try.results39, go_sem]) rfl ⟨rfl, (Kept.refl [] w).alloc _⟩

set_option maxHeartbeats 8000000 in
set_option maxRecDepth 20000 in
theorem l3Bent_any (g : Nat) (a : Option Addr) (n c : Nat) (bs : List Int) (at_ : Int) (w : World) (h : Src w g a n c bs at_) (ha : at_ ≤ 500000) :
    Calls Try.prog 19 #[.pointer (some ⟨g, 0, none⟩)] w (SpanDR w g a n c bs (at_ + 130)) := by
  have hgl := h.lt
  have hat0 := h.2.2.2.2.2
  have halt := Lib.hid h.alt
  have HS := Lib.hid h
  clear h
  go_enter Try.func19, Try.ntmps19
  go_upto_region 1 with fail
  obtain ⟨W0, hW0⟩ : ∃ W, W = w.alloc (.cells #[.bool false, .slice none 0 0, .bool false, .slice none 0 0] 28) := ⟨_, rfl⟩
  have k0 : Kept [] w W0 := by rw [hW0]; exact (Kept.refl _ _).alloc _
  have z0 : w.heap.size < W0.heap.size := by rw [hW0]; simp
  have RB := Lib.hid (show B4 W0 w.heap.size _ _ _ _ by rw [hW0]; exact B4.new (L := []) (Kept.refl _ _) (by simp))
  obtain ⟨R, hR⟩ : ∃ R, R = w.heap.size := ⟨_, rfl⟩
  rw [← hW0]
  rw [← hR] at RB ⊢
  have HRR := Lib.hid hR
  have hRz : R < W0.heap.size := by omega
  have hgR : g < R := by omega
  clear hW0 hR
  go_wp2_with fail
  refine (l3Draw_any g a n c bs at_ _ (HS.out.kept0 k0) (by omega)).mono ?_
  rintro e w1 ⟨p, av, cv, xs, q, bv, dv, ys, at2, rfl, hE1, hE2, _, _, hS2, hat2, hK2⟩
  obtain ⟨w2, h2⟩ : ∃ w2, w2 = w1.alloc (.cells #[.bool p, .slice av xs.length cv, .bool q, .slice bv ys.length dv] 28) := ⟨_, rfl⟩
  have H2 := Lib.hid h2
  have hk2 : Kept [] w1 w2 := by rw [h2]; exact (Kept.refl [] w1).alloc _
  have hz1 := hK2.size
  have hz2 : w1.heap.size < w2.heap.size := by rw [h2]; simp
  have hB : B4 w2 w1.heap.size (.bool p) (.slice av xs.length cv) (.bool q) (.slice bv ys.length dv) := by rw [h2]; exact B4.new (L := []) (Kept.refl _ _) (by simp)
  have BT : Hid (Bent w W0 w2 R w1.heap.size g a n c bs at2 p av cv xs q bv dv ys) := Lib.hid
    ⟨RB.out.kept (hK2.trans0 hk2) (by simp; omega), hB, (hE1.kept hk2 (by simp)).mono (Nat.le_refl _) (by omega), (hE2.kept hk2 (by simp)).mono (Nat.le_refl _) (by omega), fun hn x hx => by have := hE1.1.lt hn x hx; omega, fun hn x hx => by have := hE2.1.lt hn x hx; omega, hS2.kept0 hk2, ((k0.mono (M := [g]) (by simp)).trans hK2 (fun _ hx _ => hx)).trans0 hk2⟩
  obtain ⟨B, hBB⟩ : ∃ B, B = w1.heap.size := ⟨_, rfl⟩
  have hWB : W0.heap.size ≤ B := by omega
  clear h2 hk2 hE1 hE2 hS2 hK2 hB
  go_upto_region 2 with fail
  rw [← H2.out, ← hBB]
  rw [← hBB] at BT
  clear H2 hBB hz2
  go_wp2_with fail
  refine (l1Next_any g a n c bs at2 24 _ BT.out.s (by omega) (by omega)).mono ?_
  rintro e w3 ⟨r, rfl, r0, r1, hS3, hK3⟩
  have B3 : Hid (Bent w W0 w3 R B g a n c bs (at2 + 1) p av cv xs q bv dv ys) := Lib.hid
    ⟨BT.out.r.kept hK3 (by simp; omega), BT.out.b.kept hK3 (by simp; omega), BT.out.lo.kept hK3 (by simp; omega), BT.out.hi.kept hK3 (by simp; omega), BT.out.nl, BT.out.nh, hS3, BT.out.k.trans hK3 (fun _ hx _ => hx)⟩
  clear hS3 hK3
  by_cases e0 : r = 0
  · subst e0
    obtain ⟨x0, x1, x2, x3, y0, y1, y2, y3, _⟩ := B3.out.b
    have X := Lib.hid B3.out.b
    go_wp2_with fail
    refine (l2Bent_any g a n c bs (at2 + 1) _ B3.out.s (by omega)).mono ?_
    rintro e w4 ⟨p', av', cv', xs', at4, rfl, hs4, hf4, _, hl4, hS4, hat4, hK4⟩
    have hz4 := hK4.size
    have hzB := X.out.lt
    have hb := X.out.kept hK4 (by simp; omega)
    have kB := kset01 w4 B (.bool p') (.slice av' xs'.length cv')
    have hE : EndD W0 w4 av' cv' xs' 41 := ⟨hs4, hf4.mono (by omega), hl4⟩
    have B5 : Hid (Bent w W0 ((w4.setCell ⟨B, 0, none⟩ (.bool p')).setCell ⟨B, 1, none⟩ (.slice av' xs'.length cv')) R B g a n c bs at4 p' av' cv' xs' q bv dv ys) := Lib.hid
      ⟨(B3.out.r.kept hK4 (by simp; omega)).kept kB (by simp; omega), hb.set01 _ _, hE.keptB kB (fun hn x hx => by have := hf4 hn x hx; omega), (B3.out.hi.kept hK4 (by simp; omega)).keptB kB B3.out.nh, fun hn x hx => by have := hf4 hn x hx; omega, B3.out.nh, hS4.kept kB (by simp; omega) (fun hn y hy => by have := halt.out y hn hy; simp; omega), (B3.out.k.trans hK4 (fun _ hx _ => hx)).trans kB (fun x hx hlt => by simp at hx; omega)⟩
    obtain ⟨c0, c1, _, _, f0', f1', _, _, _⟩ := hb
    go_upto_region 13 with fail
    have HF := Lib.hid (Bent.fin B5.out HRR.out z0 hgl halt.out)
    obtain ⟨b0, b1, b2, b3, _, _, _, _, _⟩ := B5.out.b
    obtain ⟨r0', r1', r2', r3', f0, f1, f2, f3, _⟩ := B5.out.r
    obtain ⟨s0, s1, s2, s3⟩ := cells4at (.bool p') (.slice av' xs'.length cv') (.bool q) (.slice bv ys.length dv) r0' r1' r2' r3'
    go_wp2_with fail
    refine bodyPost_ret (v := .agg #[.bool p', .slice av' xs'.length cv', .bool q, .slice bv ys.length dv]) (by simp [results, Try.results19, go_sem, s0, s1, s2, s3]) rfl ?_
    exact ⟨p', av', cv', xs', q, bv, dv, ys, _, rfl, HF.out.1, HF.out.2.1, HF.out.2.2.1, by omega, HF.out.2.2.2⟩
  by_cases e1 : r = 1
  · subst e1
    obtain ⟨x0, x1, x2, x3, y0, y1, y2, y3, _⟩ := B3.out.b
    have X := Lib.hid B3.out.b
    go_wp2_with fail
    refine (l2Bent_any g a n c bs (at2 + 1) _ B3.out.s (by omega)).mono ?_
    rintro e w4 ⟨p', av', cv', xs', at4, rfl, hs4, hf4, _, hl4, hS4, hat4, hK4⟩
    have hz4 := hK4.size
    have hzB := X.out.lt
    have hb := X.out.kept hK4 (by simp; omega)
    have kB := kset23 w4 B (.bool p') (.slice av' xs'.length cv')
    have hE : EndD W0 w4 av' cv' xs' 41 := ⟨hs4, hf4.mono (by omega), hl4⟩
    have B5 : Hid (Bent w W0 ((w4.setCell ⟨B, 2, none⟩ (.bool p')).setCell ⟨B, 3, none⟩ (.slice av' xs'.length cv')) R B g a n c bs at4 p av cv xs p' av' cv' xs') := Lib.hid
      ⟨(B3.out.r.kept hK4 (by simp; omega)).kept kB (by simp; omega), hb.set23 _ _, (B3.out.lo.kept hK4 (by simp; omega)).keptB kB B3.out.nl, hE.keptB kB (fun hn x hx => by have := hf4 hn x hx; omega), B3.out.nl, fun hn x hx => by have := hf4 hn x hx; omega, hS4.kept kB (by simp; omega) (fun hn y hy => by have := halt.out y hn hy; simp; omega), (B3.out.k.trans hK4 (fun _ hx _ => hx)).trans kB (fun x hx hlt => by simp at hx; omega)⟩
    obtain ⟨_, _, c2, c3, _, _, f2', f3', _⟩ := hb
    go_upto_region 13 with fail
    have HF := Lib.hid (Bent.fin B5.out HRR.out z0 hgl halt.out)
    obtain ⟨b0, b1, b2, b3, _, _, _, _, _⟩ := B5.out.b
    obtain ⟨r0', r1', r2', r3', f0, f1, f2, f3, _⟩ := B5.out.r
    obtain ⟨s0, s1, s2, s3⟩ := cells4at (.bool p) (.slice av xs.length cv) (.bool p') (.slice av' xs'.length cv') r0' r1' r2' r3'
    go_wp2_with fail
    refine bodyPost_ret (v := .agg #[.bool p, .slice av xs.length cv, .bool p', .slice av' xs'.length cv']) (by simp [results, Try.results19, go_sem, s0, s1, s2, s3]) rfl ?_
    exact ⟨p, av, cv, xs, p', av', cv', xs', _, rfl, HF.out.1, HF.out.2.1, HF.out.2.2.1, by omega, HF.out.2.2.2⟩
  by_cases e2 : r = 2
  · subst e2
    obtain ⟨x0, x1, x2, x3, y0, y1, y2, y3, hzB⟩ := B3.out.b
    have kB := kset4o w3 B (.bool q) (.slice bv ys.length dv) (.bool p) (.slice av xs.length cv)
    have B5 : Hid (Bent w W0 ((((w3.setCell ⟨B, 0, none⟩ (.bool q)).setCell ⟨B, 1, none⟩ (.slice bv ys.length dv)).setCell ⟨B, 2, none⟩ (.bool p)).setCell ⟨B, 3, none⟩ (.slice av xs.length cv)) R B g a n c bs (at2 + 1) q bv dv ys p av cv xs) := Lib.hid
      ⟨B3.out.r.kept kB (by simp; omega), B3.out.b.set4 _ _ _ _, B3.out.hi.keptB kB B3.out.nh, B3.out.lo.keptB kB B3.out.nl, B3.out.nh, B3.out.nl, B3.out.s.kept kB (by simp; omega) (fun hn y hy => by have := halt.out y hn hy; simp; omega), B3.out.k.trans kB (fun x hx hlt => by simp at hx; omega)⟩
    go_upto_region 13 with fail
    have HF := Lib.hid (Bent.fin B5.out HRR.out z0 hgl halt.out)
    obtain ⟨b0, b1, b2, b3, _, _, _, _, _⟩ := B5.out.b
    obtain ⟨r0', r1', r2', r3', f0, f1, f2, f3, _⟩ := B5.out.r
    obtain ⟨s0, s1, s2, s3⟩ := cells4at (.bool q) (.slice bv ys.length dv) (.bool p) (.slice av xs.length cv) r0' r1' r2' r3'
    go_wp2_with fail
    refine bodyPost_ret (v := .agg #[.bool q, .slice bv ys.length dv, .bool p, .slice av xs.length cv]) (by simp [results, Try.results19, go_sem, s0, s1, s2, s3]) rfl ?_
    exact ⟨q, bv, dv, ys, p, av, cv, xs, _, rfl, HF.out.1, HF.out.2.1, HF.out.2.2.1, by omega, HF.out.2.2.2⟩
  by_cases e3 : r = 3
  · subst e3
    have hR := (Sl.ofBlk (Blk.new w3 [20, 21, 14]) (by simp)).rd
    have hp := Lib.hid (l1Pick_any g a n c bs (at2 + 1) _ 3 3 [20, 21, 14] _ (B3.out.s.kept0 ((Kept.refl [] w3).alloc _)) (by omega) hR (fun _ y hy => by cases hy; have := B3.out.s.lt; simp; omega) (by omega))
    clear hR
    go_wp2_with fail
    refine hp.out.mono ?_
    rintro e w4 ⟨j, hj, rfl, hS4, k4⟩
    have hy := pick3l hj
    generalize ([20, 21, 14] : List Int).getD j 0 = y at hy
    have K4 : Hid (Kept [g] w3 w4) := ((Kept.refl [g] w3).alloc _).trans k4 (fun _ hx _ => hx)
    have S4 := Lib.hid hS4
    clear hp hS4 k4 hj
    obtain ⟨m, rfl⟩ : ∃ m : Nat, y = (m : Int) := ⟨y.toNat, by omega⟩
    have hm1 : 1 ≤ m := by omega
    have hm2 : m ≤ 21 := by omega
    obtain ⟨i0, hi, hz0, hz1, hz2⟩ := info_parts Try.info64
    have hmk := run_make_row (P := Try.prog) 24 2 i0 (.int .i64 0) Try.underlying24 hi hz0 hz1 rfl .i64 .i64 m (by rw [hz2]; omega) (by omega) w4
    rw [made_zeros] at hmk
    clear hi hz0 hz1 hz2 hy
    obtain ⟨C, hC⟩ : ∃ C, C = w4.heap.size := ⟨_, rfl⟩
    obtain ⟨w5, h5⟩ : ∃ W, W = w4.alloc (.cells (ints (List.replicate m 0)) 2) := ⟨_, rfl⟩
    have hb5 : Blk w5 C (List.replicate m 0) := by rw [h5, hC]; exact Blk.new w4 _
    have k5 : Kept [] w4 w5 := by rw [h5]; exact (Kept.refl _ _).alloc _
    rw [← h5, ← hC] at hmk
    have hc5 := hb5.cell (j := m - 1) (by rw [List.length_replicate]; omega)
    have hf5 := hb5.frozen (m - 1)
    obtain ⟨z5, hz5⟩ : ∃ z, (List.replicate m (0 : Int)).getD (m - 1) 0 = z := ⟨_, rfl⟩
    rw [hz5] at hc5
    have hb6 := Lib.hid (hb5.set (m - 1) 9)
    have hsz := K4.out.size
    have hCs : C < w5.heap.size := by rw [h5]; simp; omega
    have kC : Kept [C] w5 (w5.setCell ⟨C, m - 1, none⟩ (.int .i64 9)) := (Kept.refl [C] w5).setCell _ _ (by simp)
    have hBC := B3.out.b.lt
    have k46 : Hid (Kept [] w4 (w5.setCell ⟨C, m - 1, none⟩ (.int .i64 9))) := (k5.mono (M := []) (by simp)).trans kC (fun x hx hlt => by simp at hx; omega)
    have e7 : IntKind.i64.wrap ((m : Int) - 1) = ((m - 1 : Nat) : Int) := by rw [IntWalk.i64_in _ (by omega)]; omega
    have e8 : (0 : Int) ≤ ((m - 1 : Nat) : Int) := by omega
    have e9 : ((m - 1 : Nat) : Int) < (m : Int) := by omega
    have z6 : C < (w5.setCell ⟨C, m - 1, none⟩ (.int .i64 9)).heap.size := by simpa using hCs
    have HMK := Lib.hid hmk
    have HCW := Lib.hid hC
    clear h5 hC hz5 hb5 kC k5
    go_upto_region 12 with fail
    obtain ⟨w6, h6⟩ : ∃ W, W = w5.setCell ⟨C, m - 1, none⟩ (.int .i64 9) := ⟨_, rfl⟩
    rw [← h6] at hb6 k46 z6 ⊢
    obtain ⟨L, hL⟩ : ∃ L, L = (List.replicate m (0 : Int)).set (m - 1) 9 := ⟨_, rfl⟩
    have hlen : L.length = m := by rw [hL]; simp
    rw [← hL] at hb6
    have hwC : W0.heap.size ≤ C := by have := HCW.out; omega
    have hBC2 : B < C := by have := HCW.out; omega
    clear h6 hL HMK HCW hc5 hf5 e7 e8 e9 hCs
    subst hlen
    have k36 : Kept [g] w3 w6 := K4.out.trans0 k46.out
    have hSL := Sl.ofBlk hb6.out (by omega)
    have SL := Lib.hid hSL
    have B6 : Hid (B4 w6 B (.bool p) (.slice av xs.length cv) (.bool q) (.slice bv ys.length dv)) := B3.out.b.kept k36 (by simp; omega)
    have R6 : Hid (B4 w6 R (.bool false) (.slice none 0 0) (.bool false) (.slice none 0 0)) := B3.out.r.kept k36 (by simp; omega)
    have K6 : Hid (Kept [g] w w6) := B3.out.k.trans k36 (fun _ hx _ => hx)
    have S6 := Lib.hid (S4.out.kept0 k46.out)
    clear hSL k36 k46 hb6 K4 S4
    go_wp2_with fail
    refine (l2Big_no _ _ _ _).mono ?_
    rintro e w7 ⟨rfl, k7⟩
    have K7 := Lib.hid k7
    clear k7
    go_wp2_with fail
    refine (l2Big_no _ _ _ _).mono ?_
    rintro e w8 ⟨rfl, k8⟩
    have K8 := Lib.hid (K7.out.trans0 k8)
    clear k8 K7
    have kB := kset4o w8 B (.bool false) (.slice (some ⟨C, 0, none⟩) L.length L.length) (.bool false) (.slice (some ⟨C, 0, none⟩) L.length L.length)
    have hE : EndD W0 w8 (some ⟨C, 0, none⟩) L.length L 41 := ⟨SL.out.kept0 K8.out, fun hn x hx => by cases hx; exact hwC, by omega⟩
    have hNE : 0 < L.length → ∀ x : Addr, some (⟨C, 0, none⟩ : Addr) = some x → x.block ≠ B := fun hn x hx => by cases hx; show C ≠ B; omega
    have B5 : Hid (Bent w W0 ((((w8.setCell ⟨B, 0, none⟩ (.bool false)).setCell ⟨B, 1, none⟩ (.slice (some ⟨C, 0, none⟩) L.length L.length)).setCell ⟨B, 2, none⟩ (.bool false)).setCell ⟨B, 3, none⟩ (.slice (some ⟨C, 0, none⟩) L.length L.length)) R B g a n c bs (at2 + 1 + 1) false (some ⟨C, 0, none⟩) L.length L false (some ⟨C, 0, none⟩) L.length L) := Lib.hid
      ⟨(R6.out.kept K8.out (by simp)).kept kB (by simp; omega), (B6.out.kept K8.out (by simp)).set4 _ _ _ _, hE.keptB kB hNE, hE.keptB kB hNE, hNE, hNE, (S6.out.kept0 K8.out).kept kB (by simp; omega) (fun hn y hy => by have := halt.out y hn hy; simp; omega), (K6.out.trans0 K8.out).trans kB (fun x hx hlt => by simp at hx; omega)⟩
    obtain ⟨c0, c1, c2, c3, f0', f1', f2', f3', _⟩ := B6.out.kept K8.out (by simp)
    go_upto_region 13 with fail
    have HF := Lib.hid (Bent.fin B5.out HRR.out z0 hgl halt.out)
    obtain ⟨b0, b1, b2, b3, _, _, _, _, _⟩ := B5.out.b
    obtain ⟨r0', r1', r2', r3', f0, f1, f2, f3, _⟩ := B5.out.r
    obtain ⟨s0, s1, s2, s3⟩ := cells4at (.bool false) (.slice (some ⟨C, 0, none⟩) L.length L.length) (.bool false) (.slice (some ⟨C, 0, none⟩) L.length L.length) r0' r1' r2' r3'
    go_wp2_with fail
    refine bodyPost_ret (v := .agg #[.bool false, .slice (some ⟨C, 0, none⟩) L.length L.length, .bool false, .slice (some ⟨C, 0, none⟩) L.length L.length]) (by simp [results, Try.results19, go_sem, s0, s1, s2, s3]) rfl ?_
    exact ⟨false, (some ⟨C, 0, none⟩), L.length, L, false, (some ⟨C, 0, none⟩), L.length, L, _, rfl, HF.out.1, HF.out.2.1, HF.out.2.2.1, by omega, HF.out.2.2.2⟩
  · have hr0 : (r == 0) = false := beq_eq_false_iff_ne.2 e0
    have hr1 : (r == 1) = false := beq_eq_false_iff_ne.2 e1
    have hr2 : (r == 2) = false := beq_eq_false_iff_ne.2 e2
    have hr3 : (r == 3) = false := beq_eq_false_iff_ne.2 e3
    go_upto_region 13 with fail
    have HF := Lib.hid (Bent.fin B3.out HRR.out z0 hgl halt.out)
    obtain ⟨b0, b1, b2, b3, _, _, _, _, _⟩ := B3.out.b
    obtain ⟨r0', r1', r2', r3', f0, f1, f2, f3, _⟩ := B3.out.r
    obtain ⟨s0, s1, s2, s3⟩ := cells4at (.bool p) (.slice av xs.length cv) (.bool q) (.slice bv ys.length dv) r0' r1' r2' r3'
    go_wp2_with fail
    refine bodyPost_ret (v := .agg #[.bool p, .slice av xs.length cv, .bool q, .slice bv ys.length dv]) (by simp [results, Try.results19, go_sem, s0, s1, s2, s3]) rfl ?_
    exact ⟨p, av, cv, xs, q, bv, dv, ys, _, rfl, HF.out.1, HF.out.2.1, HF.out.2.2.1, by omega, HF.out.2.2.2⟩

end Go.Proofs.Ytlhiahhpmjiioaa
