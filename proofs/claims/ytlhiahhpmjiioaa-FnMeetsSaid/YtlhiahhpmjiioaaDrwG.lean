/-
  The draws of spans: contract of l3Draw. Condition: few bytes have been read so far.
-/
import Derived.Deep.RegionHeld3
import Derived.Deep.DrawnRows
import Derived.Deep.DeepCutAuto
import Derived.Test.YtlhiahhpmjiioaaDrwE
import Derived.Test.YtlhiahhpmjiioaaSpanG
namespace Go.Proofs.Ytlhiahhpmjiioaa
open Go.RowKit

/-- A box of two cells. -/
structure Bq (w : World) (b : Nat) (v0 v1 : Value) : Prop where
  c0 : w.cell? ⟨b, 0, none⟩ = some v0
  c1 : w.cell? ⟨b, 1, none⟩ = some v1
  f0 : w.frozen? ⟨b, 0, none⟩ = false
  f1 : w.frozen? ⟨b, 1, none⟩ = false
  lt : b < w.heap.size
theorem Bq.kept {w w' : World} {b : Nat} {v0 v1 : Value} {L : List Nat} (h : Bq w b v0 v1) (k : Kept L w w') (hL : b ∉ L) : Bq w' b v0 v1 :=
  ⟨k.cell h.c0 hL, k.cell h.c1 hL, k.free h.f0 h.lt hL, k.free h.f1 h.lt hL, Nat.lt_of_lt_of_le h.lt k.size⟩
theorem Bq.new {w w' : World} {v0 v1 : Value} {L : List Nat} {T : TypeId} (k : Kept L (w.alloc (.cells #[v0, v1] T)) w') (hL : w.heap.size ∉ L) : Bq w' w.heap.size v0 v1 :=
  ⟨(k.top rfl hL 0 (v := v0) rfl).1, (k.top rfl hL 1 (v := v1) rfl).1, (k.top rfl hL 0 (v := v0) rfl).2.1, (k.top rfl hL 1 (v := v1) rfl).2.1, Nat.lt_of_lt_of_le (by simp) k.size⟩
theorem Bq.made {w : World} {v0 v1 : Value} {T : TypeId} : Bq (w.alloc (.cells #[v0, v1] T)) w.heap.size v0 v1 := Bq.new (L := []) (Kept.refl _ _) (by simp)
theorem Bq.fill {w : World} {b : Nat} {v0 v1 : Value} (h : Bq w b v0 v1) (u0 u1 : Value) : Bq ((w.setCell ⟨b, 0, none⟩ u0).setCell ⟨b, 1, none⟩ u1) b u0 u1 := by
  obtain ⟨_, s0, s1⟩ := cells2 u0 u1 h.c0 h.c1
  exact ⟨s0, s1, by simpa using h.f0, by simpa using h.f1, by simpa using h.lt⟩
theorem Bq.drew {w : World} {b : Nat} {v0 v1 : Value} (h : Bq w b v0 v1) : Bq w.drew b v0 v1 := h.kept (Kept.refl [] w).drew (by simp)
theorem Kept.undrewG {L : List Nat} {w v : World} (h : Kept L w.drew v) : Kept L w v := ⟨h.os, h.tape, h.output, h.size, h.block⟩

/-- An end of a drawn span: a list in new memory, short. -/
def EndD (w w' : World) (a : Option Addr) (c : Nat) (xs : List Int) (k : Nat) : Prop := Sl w' a xs.length c xs ∧ Fr w.heap.size a xs.length ∧ xs.length ≤ k
theorem EndD.kept {w w' w'' : World} {a : Option Addr} {c : Nat} {xs : List Int} {k : Nat} {L : List Nat} (h : EndD w w' a c xs k) (kk : Kept L w' w'') (hL : ∀ x ∈ L, x < w.heap.size) : EndD w w'' a c xs k :=
  ⟨h.1.kept kk (fun hn x hx hm => by have h1 := h.2.1 hn x hx; have h2 := hL _ hm; omega), h.2.1, h.2.2⟩
theorem EndD.mono {w0 w w' : World} {a : Option Addr} {c : Nat} {xs : List Int} {k m : Nat} (h : EndD w w' a c xs k) (hz : w0.heap.size ≤ w.heap.size) (hk : k ≤ m) : EndD w0 w' a c xs m := ⟨h.1, h.2.1.mono hz, Nat.le_trans h.2.2 hk⟩
/-- What l3Draw answers: canonical ends. -/
def SpanCR (w : World) (g : Nat) (a : Option Addr) (n c : Nat) (bs : List Int) (top : Int) (e : Ending) (w' : World) : Prop :=
  ∃ p av cv xs q bv dv ys at2, e = .returned (.agg #[.bool p, .slice av xs.length cv, .bool q, .slice bv ys.length dv]) ∧ EndD w w' av cv xs 20 ∧ EndD w w' bv dv ys 20 ∧ Nat40 xs ∧ Nat40 ys ∧ Src w' g a n c bs at2 ∧ at2 ≤ top ∧ Kept [g] w w'
theorem nat40_digits {x : Int} (h : (digits x).length ≤ 40) : Nat40 (digits x) := nat40_of_canon (canon_digits' x) h

theorem pick014 {j : Nat} (hj : j < ([0, 1, 4] : List Int).length) : 0 ≤ ([0, 1, 4] : List Int).getD j 0 ∧ ([0, 1, 4] : List Int).getD j 0 ≤ 4 := by
  match j, hj with
  | 0, _ => show (0 : Int) ≤ 0 ∧ (0 : Int) ≤ 4; omega
  | 1, _ => show (0 : Int) ≤ 1 ∧ (1 : Int) ≤ 4; omega
  | 2, _ => show (0 : Int) ≤ 4 ∧ (4 : Int) ≤ 4; omega
  | n + 3, h => exact absurd h (by simp)
theorem pick1368 {j : Nat} (hj : j < ([1, 3, 6, 8] : List Int).length) : 1 ≤ ([1, 3, 6, 8] : List Int).getD j 0 ∧ ([1, 3, 6, 8] : List Int).getD j 0 ≤ 8 := by
  match j, hj with
  | 0, _ => show (1 : Int) ≤ 1 ∧ (1 : Int) ≤ 8; omega
  | 1, _ => show (1 : Int) ≤ 3 ∧ (3 : Int) ≤ 8; omega
  | 2, _ => show (1 : Int) ≤ 6 ∧ (6 : Int) ≤ 8; omega
  | 3, _ => show (1 : Int) ≤ 8 ∧ (8 : Int) ≤ 8; omega
  | n + 4, h => exact absurd h (by simp)
theorem kgN {L : List Nat} {w u : World} {b i : Nat} {v : Value} (h : Hid (Kept L w u)) (hb : w.heap.size ≤ b) : Hid (Kept L w (u.setCell ⟨b, i, none⟩ v)) := h.out.setCell _ _ (fun hlt => absurd hlt (Nat.not_lt.2 hb))
theorem sum_len {p q : Bool} {xs ys : List Int} (h : Nat40 xs) (hl : xs.length ≤ 8) (h' : Nat40 ys) (hl' : ys.length ≤ 8) : (mag (sv p xs + sv q ys)).length ≤ 20 := by
  have h1 := sv_bound (p := p) h hl
  have h2 := sv_bound (p := q) h' hl'
  have h3 : pw 8 + pw 8 ≤ pw 20 := by decide +kernel
  exact mag_len_lt (k := 20) (by omega)
theorem kset4o (w : World) (R : Nat) (u0 u1 u2 u3 : Value) : Kept [R] w ((((w.setCell ⟨R, 0, none⟩ u0).setCell ⟨R, 1, none⟩ u1).setCell ⟨R, 2, none⟩ u2).setCell ⟨R, 3, none⟩ u3) := ((((Kept.refl [R] w).setCell _ _ (by simp)).setCell _ _ (by simp)).setCell _ _ (by simp)).setCell _ _ (by simp)
theorem sv_false {x : Int} (h : 0 ≤ x) : sv false (digits x) = x := by
  unfold sv; rw [sg_false, val_digits' h]

set_option maxHeartbeats 8000000 in
set_option maxRecDepth 20000 in
theorem l3Draw_any (g : Nat) (a : Option Addr) (n c : Nat) (bs : List Int) (at_ : Int) (w : World) (h : Src w g a n c bs at_) (ha : at_ ≤ 600000) :
    Calls Try.prog 17 #[.pointer (some ⟨g, 0, none⟩)] w (SpanCR w g a n c bs (at_ + 40)) := by
  have hgl := h.lt
  have hat0 := h.2.2.2.2.2
  have halt := Lib.hid h.alt
  have HS := Lib.hid h
  clear h
  go_enter Try.func17, Try.ntmps17
  go_upto_region 1 with fail
  obtain ⟨W0, hW0⟩ : ∃ W, W = w.alloc (.cells #[.bool false, .slice none 0 0, .bool false, .slice none 0 0] 28) := ⟨_, rfl⟩
  have HW0 := Lib.hid hW0
  have k0 : Kept [] w W0 := by rw [hW0]; exact (Kept.refl _ _).alloc _
  have z0 : w.heap.size < W0.heap.size := by rw [hW0]; simp
  have hk0 : Kept [] (w.alloc (.cells #[.bool false, .slice none 0 0, .bool false, .slice none 0 0] 28)) W0 := by rw [hW0]; exact Kept.refl _ _
  have K0 := Lib.hid hk0
  rw [← hW0]
  clear hW0 hk0
  have hR := (Sl.ofBlk (Blk.new W0 [1, 3, 6, 8]) (by simp)).rd
  have hp := Lib.hid (l1Pick_any g a n c bs at_ _ 4 4 [1, 3, 6, 8] _ (HS.out.kept0 (k0.alloc _)) (by omega) hR (fun _ y hy => by cases hy; simp; omega) (by omega))
  clear hR
  go_wp2_with fail
  refine hp.out.mono ?_
  rintro e w1 ⟨j, hj, rfl, hS1, hK1⟩
  have hy := pick1368 hj
  generalize ([1, 3, 6, 8] : List Int).getD j 0 = y at hy
  have K1 : Hid (Kept [g] W0 w1) := ((Kept.refl [g] W0).alloc _).trans hK1 (fun _ h _ => h)
  have hz1 := K1.out.size
  clear hp hK1 hj
  go_wp2_with fail
  refine (l2Draw_any g a n c bs (at_ + 1) y _ hS1 (by omega) (by omega)).mono ?_
  rintro e w2 ⟨p, av, cv, x, at2, rfl, hs2, hf2, hx0, hl2, hS2, hat2, hK2⟩
  have K2 : Hid (Kept [g] W0 w2) := K1.out.trans hK2 (fun _ h _ => h)
  have hz2 := K2.out.size
  have hlx : (digits x).length ≤ 8 := by omega
  obtain ⟨w3, h3⟩ : ∃ w3, w3 = w2.alloc (.cells #[.bool p, .slice av (digits x).length cv] 26) := ⟨_, rfl⟩
  have H3 := Lib.hid h3
  have hk3 : Kept [] w2 w3 := by rw [h3]; exact (Kept.refl [] w2).alloc _
  have hz3 : w2.heap.size < w3.heap.size := by rw [h3]; simp
  have hWA : W0.heap.size ≤ w2.heap.size := hz2
  have BA : Hid (Bq w3 w2.heap.size (.bool p) (.slice av (digits x).length cv)) := by rw [h3]; exact Lib.hid Bq.made
  have K3 : Hid (Kept [g] W0 w3) := K2.out.trans0 hk3
  have S3 := Lib.hid (hS2.kept0 hk3)
  have E3 : Hid (EndD W0 w3 av cv (digits x) 8) := Lib.hid ⟨hs2.kept0 hk3, hf2.mono (by omega), hlx⟩
  have hn40 := Lib.hid (nat40_digits (x := x) (by omega))
  clear h3 hk3 hK2 hS2 hS1 K1 K2 hs2
  go_upto_region 2 with fail
  rw [← H3.out]
  obtain ⟨xs, hxs⟩ : ∃ xs, digits x = xs := ⟨_, rfl⟩
  rw [hxs] at BA E3 hn40 hlx ⊢
  obtain ⟨A, hA⟩ : ∃ A, A = w2.heap.size := ⟨_, rfl⟩
  rw [← hA] at BA hz3 ⊢
  have hgA : g < A := by omega
  have hAA : w.heap.size < A := by omega
  clear hxs hA H3 hf2 hz1 hl2 hx0
  have hat7 : at2 ≤ 700000 := by omega
  have hat8 : at2 + 1 ≤ 700000 := by omega
  have R1 := Lib.hid ((Sl.ofBlk (Blk.new w3.drew [0, 1, 4]) (by simp)).rd)
  have R1' := Lib.hid (((Sl.ofBlk (Blk.new w3.drew [0, 1, 4]) (by simp)).rd).kept0 ((Kept.refl [] _).alloc (.cells #[.bool false, .slice none 0 0] 26)))
  have e2 : (w3.drew.alloc (.cells #[.bool false, .slice none 0 0] 26)).heap.size = w3.heap.size + 1 := by simp
  have r2 := (Sl.ofBlk (Blk.new (w3.drew.alloc (.cells #[.bool false, .slice none 0 0] 26)) [0, 1, 4]) (by simp)).rd
  rw [e2] at r2
  have R2 := Lib.hid r2
  clear r2 e2
  have hbg : Hid (∀ y : Addr, w3.heap.size ≤ y.block → y.block ≠ g) := Lib.hid (fun y hy => by omega)
  go_cut [4] (fun s wx => ∃ (b : Nat) (q : Bool) (bv : Option Addr) (dv : Nat) (ys : List Int) (at4 : Int), s = .pointer (some ⟨b, 0, none⟩) ∧ at4 ≤ at_ + 40 ∧ w3.heap.size ≤ b ∧ Hid (Bq wx b (.bool q) (.slice bv ys.length dv)) ∧ Hid (EndD W0 wx bv dv ys 20) ∧ Hid (Nat40 ys) ∧ Hid (Src wx g a n c bs at4) ∧ Hid (Kept [g] w3 wx))
  case first =>
    have rA0 : ∀ w', Hid (Kept [g] w3 w') → w'.cell? ⟨A, 0, none⟩ = some (.bool p) := fun w' k => k.out.cell BA.out.c0 (by simp; omega)
    have rA1 : ∀ w', Hid (Kept [g] w3 w') → w'.cell? ⟨A, 1, none⟩ = some (.slice av xs.length cv) := fun w' k => k.out.cell BA.out.c1 (by simp; omega)
    have hgw3 : g < w3.heap.size := by omega
    have HGW := Lib.hid hgw3
    have HE3 := E3
    go_region_held3 (fun w' => Hid (Kept [g] w3 w'))
      (with_reducible first | assumption | exact Lib.hid ((Kept.refl _ _).drew) | exact Lib.hid (((Kept.refl _ _).alloc _).drew) | exact Lib.hid ((((Kept.refl _ _).alloc _).alloc _).drew) | exact kgA (by assumption) _ | exact kg0 (by assumption) (by assumption) | exact kg1 (by simp) (by assumption) (by assumption) | exact kgN (kgN (by assumption) (by assumption)) (by assumption) | exact kgN (by assumption) (by assumption))
      (first
        | (go_at_call 22; go_split_ands; refine (l1Pick_any g a n c bs at2 _ 3 _ [0, 1, 4] _ (S3.out.kept0 (by first | exact ((Kept.refl _ _).alloc _).drew | exact (((Kept.refl _ _).alloc _).alloc _).drew)) (by omega) (by first | exact R1.out | exact R1'.out | exact R2.out) (fun _ y hy => by cases hy; exact hbg.out _ (by simp)) (by omega)).mono ?_; rintro e v1 ⟨j, hj, rfl, hS4, k4⟩; have hu := pick014 hj; generalize ([0, 1, 4] : List Int).getD j 0 = y2 at hu; have k4' : Kept [g] w3 v1 := (Kept.mono (L := []) (by first | exact ((Kept.refl _ _).alloc _).drew | exact (((Kept.refl _ _).alloc _).alloc _).drew) (by simp)).trans k4 (fun _ hx _ => hx); have KH1 := Lib.hid k4'; have S4 := Lib.hid hS4; have zs4 := k4'.size; (first | (have zb : Hid (Bq v1 w3.heap.size (.bool false) (.slice none 0 0)) := Lib.hid (Bq.new k4.undrewG.peel (by simp; omega))) | (have zb : Hid (Bq v1 (w3.heap.size + 1) (.bool false) (.slice none 0 0)) := Lib.hid (by have := Bq.new (w := w3.alloc (.cells #[.int .i64 0, .int .i64 1, .int .i64 4] 2)) k4.undrewG (by simp; omega); simpa using this)) | skip); clear hS4 k4)
        | (go_at_call 40; go_split_ands; refine (l1Draw_any g a n c bs (at2 + 1) y2 _ (by first | exact S4.out | exact S4.out.kept0 ((Kept.refl _ _).alloc _)) (by omega) (by omega)).mono ?_; rintro e v2 ⟨u2, t, at3, rfl, hO2, ht0, hlt, hS5, hat3, k5⟩; obtain ⟨a2, c2, rfl, hs2, hf2⟩ := hO2.sl; have k5' : Kept [g] v1 v2 := (by first | exact k5 | exact k5.peel); have KH2 : Hid (Kept [g] w3 v2) := k4'.trans k5' (fun _ hx _ => hx); have S5 := Lib.hid hS5; have zs5 := k5'.size; (first | (have zb2 : Hid (Bq v2 v1.heap.size (.bool false) (.slice none 0 0)) := Lib.hid (Bq.new k5 (by simp; omega))) | (have zb2 := Lib.hid (zb.out.kept k5' (by simp; omega))) | skip); clear hS5 k5 hO2)
        | (go_at_call 39; go_split_ands; refine (l2Big_any false a2 _ c2 t _ ht0 rfl).mono ?_; rintro e v3 ⟨rfl, k6⟩; rw [show isNeg (sg false t) = false from isNeg_no ht0]; have k6' : Kept [] v2 v3 := (by first | exact k6 | exact k6.peel); have KH3 := Lib.hid (KH2.out.trans0 k6'); have zs6 := k6'.size; (first | (have zb3 : Hid (Bq v3 v2.heap.size (.bool false) (.slice none 0 0)) := Lib.hid (Bq.new k6 (by simp))) | (have zb3 := Lib.hid (zb2.out.kept k6' (by simp))) | skip); clear k6)
        | (go_at_call 30; go_split_ands; refine (l2Add_z p false av a2 _ cv _ c2 xs (digits t) (sv p xs + sv false (digits t)) _ hn40.out (nat40_digits (by omega)) (by first | exact (HE3.out.kept KH3.out (by simp; omega)).1 | exact ((HE3.out.kept KH3.out (by simp; omega)).1.kept0 ((Kept.refl _ _).alloc _))) (by first | exact hs2.kept0 k6' | exact (hs2.kept0 k6').kept0 ((Kept.refl _ _).alloc _)) rfl).mono ?_; rintro e v4 ⟨a4, c4, rfl, hs4, hf4, k7⟩; have k7' : Kept [] v3 v4 := (by first | exact k7 | exact k7.peel); have KH4 := Lib.hid (KH3.out.trans0 k7'); have zs7 := k7'.size; (first | (have zb4 : Hid (Bq v4 v3.heap.size (.bool false) (.slice none 0 0)) := Lib.hid (Bq.new k7 (by simp))) | (have zb4 := Lib.hid (zb3.out.kept k7' (by simp))) | skip); clear k7; (first | (have q0 := zb4.out.c0; have q1 := zb4.out.c1; have q2 := zb4.out.f0; have q3 := zb4.out.f1) | skip); have hbz : w3.heap.size ≤ v4.heap.size := (by omega); have hb3 : w3.heap.size ≤ v3.heap.size := (by omega); have hb2 : w3.heap.size ≤ v2.heap.size := (by omega); have hb1 : w3.heap.size ≤ w3.heap.size := Nat.le_refl _; have hb0 : w3.heap.size ≤ w3.heap.size + 1 := Nat.le_succ _)
        | fail)
    all_goals
      have hzl : (mag (sv p xs + sv false (digits t))).length ≤ 20 := sum_len hn40.out hlx (nat40_digits (by omega)) (by omega)
      have hn4 : Hid (Nat40 (mag (sv p xs + sv false (digits t)))) := Lib.hid (nat40_of_canon (mag_canon _) (by omega))
      have hsrc : Src v4 g a n c bs at3 := (S5.out.kept0 k6').kept0 k7'
      have hwz : W0.heap.size ≤ v3.heap.size := by have := K3.out.size; omega
      try go_wp2_with fail
      go_meet
      first
        | exact ⟨_, _, a4, c4, mag _, at3, rfl, by omega, hbz, Lib.hid Bq.made, Lib.hid ⟨hs4.kept0 ((Kept.refl _ _).alloc _), hf4.mono (by (try simp only [World.size_alloc]); omega), hzl⟩, hn4, Lib.hid (hsrc.kept0 ((Kept.refl _ _).alloc _)), by assumption⟩
        | exact ⟨_, _, a4, c4, mag _, at3, rfl, by omega, by first | exact hb0 | exact hb1 | exact zs4 | exact hb2 | exact hb3, Lib.hid (zb4.out.fill _ _), Lib.hid ⟨hs4.kept (kset2 _ _ _ _) (fun hn y hy => by have := hf4 hn y hy; have := zb3.out.lt; (try simp only [World.size_alloc] at this); (try simp only [World.size_alloc] at *); simp only [List.mem_singleton]; omega), hf4.mono (by (try simp only [World.size_alloc]); omega), hzl⟩, hn4, Lib.hid (hsrc.kept (kset2 _ _ _ _) (by simp; omega) (fun hn y hy => by have := halt.out y hn hy; simp; omega)), by assumption⟩
        | exact ⟨_, _, a4, c4, mag _, at3, rfl, by omega, by first | exact hb0 | exact hb1 | exact zs4 | exact hb2 | exact hb3, Lib.hid (zb4.out.fill _ _), Lib.hid ⟨hs4.kept (kset2 _ _ _ _) (fun hn y hy => by have := hf4 hn y hy; (try simp only [World.size_alloc] at this); simp only [List.mem_singleton]; omega), hf4.mono (by (try simp only [World.size_alloc]); omega), hzl⟩, hn4, Lib.hid (hsrc.kept (kset2 _ _ _ _) (by simp; omega) (fun hn y hy => by have := halt.out y hn hy; simp; omega)), by assumption⟩
        | trace_state
  case rest =>
    obtain ⟨b, q, bv, dv, ys, at4, rfl, hat4, hb, hB, hE, hN, hS4, hK4⟩ := hcut
    have B1 := BA.out.kept hK4.out (by simp; omega)
    obtain ⟨a0, a1, _, _, _⟩ := B1
    obtain ⟨b0, b1, _, _, _⟩ := hB.out
    have kR := K0.out.mono (M := [g]) (by simp)
    have kR2 := (kR.trans K3.out (fun _ hx _ => hx)).trans hK4.out (fun _ hx _ => hx)
    have hRg : w.heap.size ∉ [g] := by simp; omega
    obtain ⟨r0, f0, z9⟩ := kR2.top (g := w.heap.size) rfl hRg 0 (v := .bool false) rfl
    obtain ⟨r1, f1, _⟩ := kR2.top (g := w.heap.size) rfl hRg 1 (v := .slice none 0 0) rfl
    obtain ⟨r2, f2, _⟩ := kR2.top (g := w.heap.size) rfl hRg 2 (v := .bool false) rfl
    obtain ⟨r3, f3, _⟩ := kR2.top (g := w.heap.size) rfl hRg 3 (v := .slice none 0 0) rfl
    have kW : Hid (Kept [g] w wc) := kR2.peel
    have E3' := Lib.hid (E3.out.kept hK4.out (by simp; omega))
    obtain ⟨s0, s1, s2, s3⟩ := cells4at (.bool p) (.slice av xs.length cv) (.bool q) (.slice bv ys.length dv) r0 r1 r2 r3
    have k9 := kset4o wc w.heap.size (.bool p) (.slice av xs.length cv) (.bool q) (.slice bv ys.length dv)
    have HF := Lib.hid (And.intro (E3'.out.kept k9 (by simp; omega)) (And.intro (hE.out.kept k9 (by simp; omega)) (And.intro (hS4.out.kept k9 (by simp; omega) (fun hn y hy => by have := halt.out y hn hy; simp; omega)) (kW.out.trans k9 (fun x hx hlt => by simp at hx; omega)))))
    clear kR kR2 R1 R1' R2 k9
    go_wp2_with fail
    refine bodyPost_ret (v := .agg #[.bool p, .slice av xs.length cv, .bool q, .slice bv ys.length dv]) (by simp [results, Try.results17, go_sem, s0, s1, s2, s3]) rfl ?_
    exact ⟨p, av, cv, xs, q, bv, dv, ys, at4, rfl, HF.out.1.mono (by omega) (by omega), HF.out.2.1.mono (by omega) (by omega), hn40.out, hN.out, HF.out.2.2.1, hat4, HF.out.2.2.2⟩

end Go.Proofs.Ytlhiahhpmjiioaa
