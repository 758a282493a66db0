/-
  Several of my texts joined: the contracts of the functions that they name, each with the conditions that it states.
-/
import Derived.Deep.DeepAppendWide
import Derived.Test.YtlhiahhpmjiioadGreatDoorShpD
import Derived.Deep.RegionLaw
import Derived.Test.YtlhiahhpmjiioadGreatDoorShpE
namespace Go.Proofs.YtlhiahhpmjiioadGreatDoor
open Go.RowKit

/-- Points joined to an empty slice: a new block. -/
theorem appPSN {w : World} {ops : Array Oper} {rest : List Oper} {o : Oper} {a : Act} {Q : Exit → Act → World → Prop} (hgd : o.guard = none) (s x : Operand)
    (ho : o.op = .call { callee := .builtin .append, args := #[s, x], argTypes := #[24, 24] })
    (base : Nat) (v : Value) (hs : a.eval s = v) (hown : w.ownsRow base 44 2 v 0 [])
    (q : Option Addr) (n c : Nat) (xs : List Int) (hx : a.eval x = .slice q n c) (hrd : Rd w q (n * 2) xs) (hn : 0 < n) (hn2 : n ≤ 1000000) (hbase : base ≤ w.heap.size)
    (h : ∀ g c' w', base ≤ g → Blk w' g xs → w.grownBy w' v.ownBlock → wpList Tryz.prog ops Q rest (a.put o.dst (.slice (some ⟨g, 0, none⟩) n c')) w') :
    wpList Tryz.prog ops Q (o :: rest) a w := by
  obtain ⟨i0, hi, hz0, hz1, hz2⟩ := info_parts Tryz.infoPt
  obtain ⟨g0, off0, rfl, _⟩ := hrd.2.2 0 (by omega)
  refine wpList_append_own_wide w hgd s x 24 ho base 44 i0 (.agg #[.int .i64 0, .int .i64 0]) 2 16 Tryz.underlying24 hi hz0 hz1 hz2 rfl (by decide) v 0 [] hs hown ⟨g0, off0, none⟩ n c (xs.map (Value.int .i64)) hx (by rw [List.length_map]; exact hrd.1) ?_ ?_ ?_ ?_ hbase ?_
  · intro j u hj
    obtain ⟨hjl, hju⟩ := List.getElem?_eq_some_iff.1 hj
    rw [List.length_map, hrd.1] at hjl
    obtain ⟨g', off', he, hc⟩ := hrd.2.2 j hjl
    simp at he
    obtain ⟨rfl, rfl⟩ := he
    rw [Addr.add_lit, hc, ← hju]
    simp [List.getD_eq_getElem?_getD, show j < xs.length by rw [hrd.1]; exact hjl]
  · intro u hu
    obtain ⟨y, _, rfl⟩ := List.mem_map.1 hu
    rfl
  · unfold maxLen; omega
  · omega
  · intro v' w' h1 h2 _
    rw [Nat.zero_add, List.nil_append] at h1
    obtain ⟨hl, h3⟩ := h1
    rcases h3 with ⟨_, h3⟩ | ⟨g, cap, cur, rfl, hg, hh, hc, hm, hsz, ht⟩
    · omega
    · refine h g cap w' hg ⟨(cur, _), hh, by rw [hrd.1]; show _ ≤ cur.size; omega, fun k hk => ?_⟩ h2
      rw [hrd.1] at hk
      have : (cur.toList.take (n * 2))[k]? = (xs.map (Value.int .i64))[k]? := by rw [ht]
      rw [List.getElem?_take, if_pos hk] at this
      rw [← Array.getElem?_toList, this]
      simp [List.getD_eq_getElem?_getD, show k < xs.length by rw [hrd.1]; exact hk]

theorem Kept.freeN {L : List Nat} {w w' : World} {p : Addr} {v : Value} (h : Kept L w w') (hc : w.cell? p = some v) (hf : w.frozen? p = false) (hg : p.block ∉ L) : w'.frozen? p = false :=
  h.free hf (World.block_lt_of_cell? w p hc) hg
theorem emptyPN {w : World} {g : Nat} (hg : w.heap.size = g) : (w.alloc (.cells #[] 44)).ownsRow g 44 2 (.slice (some ⟨g, 0, none⟩) 0 0) 0 [] := by
  subst hg
  exact ⟨rfl, Or.inr ⟨_, 0, #[], rfl, Nat.le_refl _, heap_alloc_new w _, Nat.le_refl _, by unfold maxLen; omega, rfl, rfl⟩⟩

theorem cells2bN {w : World} {g g' : Nat} (hg : g ≠ g') {x0 x1 y0 y1 : Value} (u1 v0 v1 : Value) (_c0 : w.cell? ⟨g', 0, none⟩ = some x0) (c1 : w.cell? ⟨g', 1, none⟩ = some x1) (d0 : w.cell? ⟨g, 0, none⟩ = some y0) (d1 : w.cell? ⟨g, 1, none⟩ = some y1) :
    (w.setCell ⟨g', 1, none⟩ u1).cell? ⟨g', 1, none⟩ = some u1 ∧ (((w.setCell ⟨g', 1, none⟩ u1).setCell ⟨g, 0, none⟩ v0).setCell ⟨g, 1, none⟩ v1).cell? ⟨g, 0, none⟩ = some v0 ∧ (((w.setCell ⟨g', 1, none⟩ u1).setCell ⟨g, 0, none⟩ v0).setCell ⟨g, 1, none⟩ v1).cell? ⟨g, 1, none⟩ = some v1 := by
  have e1 := World.cell?_setCell_same w ⟨g', 1, none⟩ u1 c1
  have f0 : (w.setCell ⟨g', 1, none⟩ u1).cell? ⟨g, 0, none⟩ = some y0 := by rw [World.cell?_setCell_other _ _ _ _ (by simp; try omega)]; exact d0
  have f1 : (w.setCell ⟨g', 1, none⟩ u1).cell? ⟨g, 1, none⟩ = some y1 := by rw [World.cell?_setCell_other _ _ _ _ (by simp; try omega)]; exact d1
  obtain ⟨_, k0, k1⟩ := cells2 v0 v1 f0 f1
  exact ⟨e1, k0, k1⟩

set_option maxHeartbeats 1000000 in
set_option maxRecDepth 20000 in
theorem l8CopyN_any (k : Int) (q : Option Addr) (n c : Nat) (xs : List Int) (w : World) (h : Rd w q (n * 2) xs) (hn : 0 < n) (hn2 : n ≤ 1000000) :
    Calls Tryz.prog 31 #[.agg #[.int .i64 k, .slice q n c]] w (fun e w' => ∃ g c', e = .returned (.agg #[.int .i64 k, .slice (some ⟨g, 0, none⟩) n c']) ∧ w.heap.size ≤ g ∧ Blk w' g xs ∧ Kept [] w w') := by
  have HR := Lib.hid h
  have HN := Lib.hid (And.intro hn hn2)
  clear h hn hn2
  go_enter Tryz.func31, Tryz.ntmps31
  have K0 := Lib.hid ((((Kept.refl [] w).alloc (.cells #[.int .i64 k, .slice q n c] 26)).alloc (.cells #[.int .i64 0, .slice none 0 0] 26)).alloc (.cells #[] 44))
  go_wp2_with (at_builtin; refine appPSN rfl _ _ rfl (w.heap.size + 1 + 1) _ rfl (emptyPN (by simp)) q n c xs rfl (HR.out.kept0 K0.out) HN.out.1 HN.out.2 (by simp) ?_)
  intro g c' w1 hg hb hG
  have kk : Kept [w.heap.size + 1 + 1] (((w.alloc (.cells #[.int .i64 k, .slice q n c] 26)).alloc (.cells #[.int .i64 0, .slice none 0 0] 26)).alloc (.cells #[] 44)) w1 := (Kept.refl _ _).grown hG (fun k hk _ => by simp [Value.ownBlock] at hk; simp [hk])
  have HK := Lib.hid (K0.out.trans1 kk (fun hlt => by omega))
  have cc := Kept.refl [] ((w.alloc (.cells #[.int .i64 k, .slice q n c] 26)).alloc (.cells #[.int .i64 0, .slice none 0 0] 26))
  obtain ⟨c0, f0, _⟩ := cc.peel.top rfl (by simp) 0 (v := .int .i64 k) rfl
  obtain ⟨c1, f1, _⟩ := cc.peel.top rfl (by simp) 1 (v := .slice q n c) rfl
  obtain ⟨d0, g0, _⟩ := cc.top (g := w.heap.size + 1) (by simp) (by simp) 0 (v := .int .i64 0) rfl
  obtain ⟨d1, g1, _⟩ := cc.top (g := w.heap.size + 1) (by simp) (by simp) 1 (v := .slice none 0 0) rfl
  have ka := (Kept.refl [] ((w.alloc (.cells #[.int .i64 k, .slice q n c] 26)).alloc (.cells #[.int .i64 0, .slice none 0 0] 26))).alloc (.cells #[] 44)
  have kb := ka.mono (M := [w.heap.size + 1 + 1]) (by simp) |>.trans1 kk (fun _ => by simp)
  have x0 := kb.cell c0 (by simp <;> omega)
  have x1 := kb.cell c1 (by simp <;> omega)
  have y0 := kb.cell d0 (by simp <;> omega)
  have y1 := kb.cell d1 (by simp <;> omega)
  have u0 := kb.freeN c0 f0 (by simp <;> omega)
  have u1 := kb.freeN c1 f1 (by simp <;> omega)
  have v0 := kb.freeN d0 g0 (by simp <;> omega)
  have v1 := kb.freeN d1 g1 (by simp <;> omega)
  have HB := Lib.hid hb
  clear hb hG kk cc c0 c1 d0 d1 f0 f1 g0 g1 ka kb
  obtain ⟨m0, m1, m2⟩ := cells2bN (g := w.heap.size + 1) (g' := w.heap.size) (by omega) (.slice (some ⟨g, 0, none⟩) n c') (.int .i64 k) (.slice (some ⟨g, 0, none⟩) n c') x0 x1 y0 y1
  go_wp2_with fail
  refine bodyPost_ret (v := .agg #[.int .i64 k, .slice (some ⟨g, 0, none⟩) n c']) (by simp [results, Tryz.results31, go_sem, m1, m2]) rfl ⟨g, c', rfl, by omega, ?_, ?_⟩
  · exact ((HB.out.other _ _ (by simp; omega)).other _ _ (by simp; omega)).other _ _ (by simp; omega)
  · exact ((HK.out.setCell _ _ (by simp)).setCell _ _ (by simp)).setCell _ _ (by simp)

end Go.Proofs.YtlhiahhpmjiioadGreatDoor

namespace Go.Proofs.YtlhiahhpmjiioadGreatDoor
open Go.RowKit

/-- What a draw of a shape answers. -/
def PriD (w : World) (e : Ending) (w' : World) : Prop :=
  ∃ k p m d xs, e = .returned (.agg #[.int .i64 k, .slice p m d]) ∧ Rd w' p (m * 2) xs ∧ m ≤ 14 ∧ Kept [] w w'
/-- What a draw of two shapes answers. -/
def SamP (w : World) (e : Ending) (w' : World) : Prop :=
  ∃ k p m d xs l q n c ys, e = .returned (.tuple #[.agg #[.int .i64 k, .slice p m d], .agg #[.int .i64 l, .slice q n c]]) ∧ Rd w' p (m * 2) xs ∧ Rd w' q (n * 2) ys ∧ m ≤ 14 ∧ n ≤ 14 ∧ Kept [] w w'
theorem Fr.ne {B : Nat} {p : Option Addr} {n : Nat} (h : Fr B p n) {R : Nat} (hR : R < B) : 0 < n → ∀ x, p = some x → x.block ∉ [R] := fun hn x hx => by
  have := h hn x hx
  simp; omega

set_option maxHeartbeats 1000000 in
set_option maxRecDepth 20000 in
theorem DrawPrintShape_any (a : Option Addr) (n c : Nat) (bs : List Int) (w : World) (h : Rd8 w a n bs) :
    Calls Tryz.prog 5 #[.slice a n c] w (PriD w) := by
  have HR := Lib.hid h
  clear h
  obtain ⟨R, hR⟩ : ∃ R, R = w.heap.size := ⟨_, rfl⟩
  have HRR := Lib.hid hR
  go_enter Tryz.func5, Tryz.ntmps5
  obtain ⟨W, hW⟩ : ∃ W, w.alloc (.cells #[.int .i64 0, .slice none 0 0] 26) = W := ⟨_, rfl⟩
  have KR : Kept [] w W := by rw [← hW]; exact (Kept.refl _ _).alloc _
  have R1 : SB W R 0 (.slice none 0 0) := by rw [← hW, hR]; exact SB.new
  have HWW := Lib.hid hW
  have KR := Lib.hid KR
  have R1 := Lib.hid R1
  clear hW hR
  go_wp2_with fail
  rw [HWW.out, ← HRR.out]
  refine (l1Source_any _ _ _ _ _ (HR.out.kept KR.out (by simp))).mono ?_
  rintro e w1 ⟨g, rfl, hg, hS, hK⟩
  have S1 := Lib.hid hS
  have R2 := Lib.hid (R1.out.kept0 hK)
  have K1 := Lib.hid (KR.out.trans0 hK)
  have hRg : R < g ∧ w.heap.size ≤ g ∧ R < w1.heap.size ∧ w.heap.size ≤ R := by have h1 := R1.out.lt; have h2 := HRR.out; have h3 := hK.size; omega
  have HRG := Lib.hid hRg
  clear hS hK R1 HWW hRg
  go_wp2_with fail
  refine (l8Bent_any g a n c bs 0 _ S1.out (by omega)).mono ?_
  rintro e w2 ⟨k, p, m, d, xs, at2, rfl, hrd, hfr, hm, hS2, hat, k2⟩
  have R3 := Lib.hid (R2.out.kept k2 (by have := HRG.out; simp; omega))
  have K2 := Lib.hid (K1.out.trans k2 (fun x hx hlt => by have := HRG.out; simp at hx; omega))
  have r0 := R3.out.c0
  have r1 := R3.out.c1
  have f0 := R3.out.f0
  have f1 := R3.out.f1
  have HRD := Lib.hid hrd
  have HF := Lib.hid hfr
  clear hrd hfr hS2 k2 R2 K1
  go_wp2_with fail
  obtain ⟨_, s0, s1⟩ := cells2 (.int .i64 k) (.slice p m d) r0 r1
  have kF : Kept [R] w2 ((w2.setCell ⟨R, 0, none⟩ (.int .i64 k)).setCell ⟨R, 1, none⟩ (.slice p m d)) := ((Kept.refl [R] w2).setCell _ _ (by simp)).setCell _ _ (by simp)
  exact bodyPost_ret (v := .agg #[.int .i64 k, .slice p m d]) (by simp [results, Tryz.results5, go_sem, s0, s1]) rfl ⟨k, p, m, d, xs, rfl, HRD.out.kept kF (HF.out.ne (by have := HRG.out; omega)), hm, K2.out.trans kF (fun x hx hlt => by have := HRG.out; simp at hx; omega)⟩

theorem two_shapes {w5 : World} {R U : Nat} {kr ku : Int} {v0 u0 : Value} (r : SB w5 R kr v0) (u : SB w5 U ku u0) (hne : R ≠ U) (x : Int) (y : Value) (z : Int) (t : Value) :
    ((((((w5.setCell ⟨R, 0, none⟩ (.int .i64 x)).setCell ⟨R, 1, none⟩ y).setCell ⟨U, 0, none⟩ (.int .i64 z)).setCell ⟨U, 1, none⟩ t).cell? ⟨R, 0, none⟩ = some (.int .i64 x) ∧ ((((w5.setCell ⟨R, 0, none⟩ (.int .i64 x)).setCell ⟨R, 1, none⟩ y).setCell ⟨U, 0, none⟩ (.int .i64 z)).setCell ⟨U, 1, none⟩ t).cell? ⟨R, 1, none⟩ = some y) ∧
    ((((w5.setCell ⟨R, 0, none⟩ (.int .i64 x)).setCell ⟨R, 1, none⟩ y).setCell ⟨U, 0, none⟩ (.int .i64 z)).setCell ⟨U, 1, none⟩ t).cell? ⟨U, 0, none⟩ = some (.int .i64 z) ∧ ((((w5.setCell ⟨R, 0, none⟩ (.int .i64 x)).setCell ⟨R, 1, none⟩ y).setCell ⟨U, 0, none⟩ (.int .i64 z)).setCell ⟨U, 1, none⟩ t).cell? ⟨U, 1, none⟩ = some t) ∧
    Kept [R, U] w5 ((((w5.setCell ⟨R, 0, none⟩ (.int .i64 x)).setCell ⟨R, 1, none⟩ y).setCell ⟨U, 0, none⟩ (.int .i64 z)).setCell ⟨U, 1, none⟩ t) := by
  have k1 : Kept [R] w5 ((w5.setCell ⟨R, 0, none⟩ (.int .i64 x)).setCell ⟨R, 1, none⟩ y) := ((Kept.refl [R] w5).setCell _ _ (by simp)).setCell _ _ (by simp)
  have r' := (r.set0 x).set1 y
  have u' := u.kept k1 (by simp; omega)
  have k2 : Kept [U] ((w5.setCell ⟨R, 0, none⟩ (.int .i64 x)).setCell ⟨R, 1, none⟩ y) ((((w5.setCell ⟨R, 0, none⟩ (.int .i64 x)).setCell ⟨R, 1, none⟩ y).setCell ⟨U, 0, none⟩ (.int .i64 z)).setCell ⟨U, 1, none⟩ t) := ((Kept.refl [U] _).setCell _ _ (by simp)).setCell _ _ (by simp)
  have u2 := (u'.set0 z).set1 t
  have r2 := r'.kept k2 (by simp; omega)
  exact ⟨⟨⟨r2.c0, r2.c1⟩, u2.c0, u2.c1⟩, ((((Kept.refl [R, U] w5).setCell _ _ (by simp)).setCell _ _ (by simp)).setCell _ _ (by simp)).setCell _ _ (by simp)⟩
theorem Fr.ne2 {B : Nat} {p : Option Addr} {n : Nat} (h : Fr B p n) {R U : Nat} (hR : R < B) (hU : U < B) : 0 < n → ∀ x, p = some x → x.block ∉ [R, U] := fun hn x hx => by
  have := h hn x hx
  simp; omega

set_option maxHeartbeats 1000000 in
set_option maxRecDepth 20000 in
theorem DrawSameShapes_any (a : Option Addr) (n c : Nat) (bs : List Int) (w : World) (h : Rd8 w a n bs) :
    Calls Tryz.prog 9 #[.slice a n c] w (SamP w) := by
  have HR := Lib.hid h
  clear h
  obtain ⟨R, hR⟩ : ∃ R, R = w.heap.size := ⟨_, rfl⟩
  obtain ⟨U, hU⟩ : ∃ U, U = w.heap.size + 1 := ⟨_, rfl⟩
  have HRR := Lib.hid hR
  have HUU := Lib.hid hU
  go_enter Tryz.func9, Tryz.ntmps9
  obtain ⟨W, hW⟩ : ∃ W, (w.alloc (.cells #[.int .i64 0, .slice none 0 0] 26)).alloc (.cells #[.int .i64 0, .slice none 0 0] 26) = W := ⟨_, rfl⟩
  have KR : Kept [] w W := by rw [← hW]; exact ((Kept.refl _ _).alloc _).alloc _
  have R1 : SB W R 0 (.slice none 0 0) := by rw [← hW, hR]; exact SB.new.kept0 ((Kept.refl [] _).alloc _)
  have U1 : SB W U 0 (.slice none 0 0) := by
    rw [← hW, hU]
    have := @SB.new (w.alloc (.cells #[.int .i64 0, .slice none 0 0] 26)) 0 (.slice none 0 0) 26
    simpa using this
  have HWW := Lib.hid hW
  have KR := Lib.hid KR
  have R1 := Lib.hid R1
  have U1 := Lib.hid U1
  have hWz : W.heap.size = w.heap.size + 2 := by rw [← hW]; simp
  have HWZ := Lib.hid hWz
  clear hW hR hU hWz
  go_wp2_with fail
  rw [HWW.out, ← HUU.out, ← HRR.out]
  refine (l1Source_any _ _ _ _ _ (HR.out.kept KR.out (by simp))).mono ?_
  rintro e w1 ⟨g, rfl, hg, hS, hK⟩
  have S1 := Lib.hid hS
  have R2 := Lib.hid (R1.out.kept0 hK)
  have U2 := Lib.hid (U1.out.kept0 hK)
  have K1 := Lib.hid (KR.out.trans0 hK)
  have hz1 := hK.size
  have hRg : R < g ∧ U < g ∧ w.heap.size ≤ g ∧ R < w1.heap.size ∧ U < w1.heap.size ∧ R ≠ U ∧ w.heap.size ≤ w1.heap.size ∧ w.heap.size ≤ R ∧ w.heap.size ≤ U := by have h1 := HWZ.out; have h2 := HRR.out; have h3 := HUU.out; omega
  have HRG := Lib.hid hRg
  clear hS hK R1 U1 HWW hRg hz1 hg
  go_wp2_with fail
  refine (l8Draw_any g a n c bs 0 _ S1.out (by omega)).mono ?_
  rintro e w2 ⟨k, v, ps, at1, rfl, hop, hp1, hp6, hS2, hat1, k2⟩
  obtain ⟨b, d, rfl⟩ := hop.sl
  have S2 := Lib.hid hS2
  have R3 := Lib.hid (R2.out.kept k2 (by have := HRG.out; simp; omega))
  have U3 := Lib.hid (U2.out.kept k2 (by have := HRG.out; simp; omega))
  have K2 := Lib.hid (K1.out.trans k2 (fun x hx hlt => by have := HRG.out; simp at hx; omega))
  have hz2 := Lib.hid k2.size
  have RD2 := Lib.hid (hop.rd (by omega)).2
  have FR2 := Lib.hid hop.fr
  have HG1 := Lib.hid S1.out.lt
  clear hS2 k2 R2 U2 K1 hop
  obtain ⟨m, hm⟩ : ∃ m, ps.length = m := ⟨_, rfl⟩
  rw [hm] at hp1 hp6 RD2 FR2 ⊢
  clear hm
  generalize flatP ps = xs at RD2
  obtain ⟨O, hO⟩ : ∃ O, O = w2.heap.size := ⟨_, rfl⟩
  have HO := Lib.hid hO
  obtain ⟨W3, hW3⟩ : ∃ W3, w2.alloc (.cells #[.int .i64 k, .slice b m d] 26) = W3 := ⟨_, rfl⟩
  have k23 : Kept [] w2 W3 := by rw [← hW3]; exact (Kept.refl _ _).alloc _
  have O3 : SB W3 O k (.slice b m d) := by rw [← hW3, hO]; exact SB.new
  have S3 := Lib.hid (S2.out.kept0 k23)
  have R4 := Lib.hid (R3.out.kept0 k23)
  have U4 := Lib.hid (U3.out.kept0 k23)
  have K3 := Lib.hid (K2.out.trans0 k23)
  have RD3 := Lib.hid (RD2.out.kept0 k23)
  have HW3 := Lib.hid hW3
  have O3 := Lib.hid O3
  clear hW3 hO k23 R3 U3 K2 S2 RD2
  go_wp2_with fail
  rw [HW3.out, ← HO.out]
  refine (l1Chance_any g a n c bs at1 2 _ S3.out (by omega) (by omega)).mono ?_
  rintro e w4 ⟨t, rfl, hS4, k4⟩
  have hgO : g < O := by have h1 := HO.out; have h2 := HG1.out; have h3 := hz2.out; omega
  have O4 := Lib.hid (O3.out.kept k4 (by simp; omega))
  have R5 := Lib.hid (R4.out.kept k4 (by have := HRG.out; simp; omega))
  have U5 := Lib.hid (U4.out.kept k4 (by have := HRG.out; simp; omega))
  have K4 := Lib.hid (K3.out.trans k4 (fun x hx hlt => by have := HRG.out; simp at hx; omega))
  have RD4 := Lib.hid (RD3.out.kept k4 (FR2.out.ne HG1.out))
  have HR4 := Lib.hid (HR.out.kept K4.out (by simp))
  have hz4 := Lib.hid (Nat.le_trans hz2.out (Nat.le_trans (show w2.heap.size ≤ W3.heap.size by rw [← HW3.out]; simp) k4.size))
  clear k4 O3 R4 U4 K3 RD3 hS4 S3 HW3
  have c0 := O4.out.c0
  have c1 := O4.out.c1
  have c0d : w4.drew.cell? ⟨O, 0, none⟩ = some (.int .i64 k) := c0
  have c1d : w4.drew.cell? ⟨O, 1, none⟩ = some (.slice b m d) := c1
  have hRU : R ≠ U := HRG.out.2.2.2.2.2.1
  have hB5 : R < w1.heap.size ∧ U < w1.heap.size := ⟨HRG.out.2.2.2.1, HRG.out.2.2.2.2.1⟩
  have hz4' := hz4.out
  cases t
  · go_upto_region 5 with fail
    go_region_law (first
      | (go_simp; go_at_call 17; refine (l1Source_any _ _ _ _ _ (HR4.out.kept ((Kept.refl [] w4).drew) (by simp))).mono ?_; rintro e v1 ⟨g1, rfl, hg1, hS1, k1⟩; have O5 := Lib.hid (O4.out.kept0 ((Kept.refl [] w4).drew.trans0 k1)); have a0 := O5.out.c0; have a1 := O5.out.c1)
      | (go_simp; go_at_call 16; refine (l8Bent_any g1 a n c bs 0 _ hS1 (by omega)).mono ?_; rintro e v2 ⟨l, q, j, f, ys, at2, rfl, hrd2, hfr2, hj2, hS2, hat2, k2⟩; have k42 : Hid (Kept [] w4 v2) := Lib.hid (((Kept.refl [] w4).drew.trans0 k1).trans k2 (fun x hx hlt => by simp at hx hg1; omega)); have O6 := Lib.hid (O4.out.kept0 k42.out); have b0 := O6.out.c0; have b1 := O6.out.c1; have R6 := Lib.hid (R5.out.kept0 k42.out); have U6 := Lib.hid (U5.out.kept0 k42.out); have r0 := R6.out.c0; have r1 := R6.out.c1; have f0 := R6.out.f0; have f1 := R6.out.f1; have u0 := U6.out.c0; have u1 := U6.out.c1; have uf0 := U6.out.f0; have uf1 := U6.out.f1)
      | fail)
    all_goals
      clear c0 c1 c0d c1d a0 a1 b0 b1 r0 r1 f0 f1 u0 u1 uf0 uf1
      go_wp2_with fail
      obtain ⟨⟨⟨e0, e1⟩, e2, e3⟩, kF⟩ := two_shapes R6.out U6.out hRU k (.slice b m d) l (.slice q j f)
      have hz1 := k1.size
      have hA := (RD4.out.kept0 k42.out).kept kF (FR2.out.ne2 (by omega) (by omega))
      have hB := hrd2.kept kF (hfr2.ne2 (by simp only [World.size_drew] at hz1; omega) (by simp only [World.size_drew] at hz1; omega))
      exact bodyPost_ret (v := .tuple #[.agg #[.int .i64 k, .slice b m d], .agg #[.int .i64 l, .slice q j f]]) (by simp [results, Tryz.results9, go_sem, e0, e1, e2, e3]) rfl ⟨k, b, m, d, xs, l, q, j, f, ys, rfl, hA, hB, by omega, hj2, (K4.out.trans0 k42.out).trans kF (fun x hx hlt => by have := HRG.out; simp at hx; omega)⟩
  · go_upto_region 4 with fail
    go_region_law (first
      | (go_simp; go_at_call 31; refine (l8CopyN_any k b m d xs _ (RD4.out.kept0 (Kept.refl [] w4).drew) (by omega) (by omega)).mono ?_; rintro e v1 ⟨q, f, rfl, hq, hb, k1⟩; have k42 : Hid (Kept [] w4 v1) := Lib.hid ((Kept.refl [] w4).drew.trans0 k1); have HB := Lib.hid hb; have O6 := Lib.hid (O4.out.kept0 k42.out); have b0 := O6.out.c0; have b1 := O6.out.c1; have R6 := Lib.hid (R5.out.kept0 k42.out); have U6 := Lib.hid (U5.out.kept0 k42.out); have r0 := R6.out.c0; have r1 := R6.out.c1; have f0 := R6.out.f0; have f1 := R6.out.f1; have u0 := U6.out.c0; have u1 := U6.out.c1; have uf0 := U6.out.f0; have uf1 := U6.out.f1; clear hb)
      | fail)
    all_goals
      clear c0 c1 c0d c1d b0 b1 r0 r1 f0 f1 u0 u1 uf0 uf1
      go_wp2_with fail
      obtain ⟨⟨⟨e0, e1⟩, e2, e3⟩, kF⟩ := two_shapes R6.out U6.out hRU k (.slice b m d) k (.slice (some ⟨q, 0, none⟩) m f)
      have hA := (RD4.out.kept0 k42.out).kept kF (FR2.out.ne2 (by omega) (by omega))
      have hB := rd_newP HB.out RD4.out.1 (by omega)
      have hB2 := hB.kept kF (fun _ x hx => by cases hx; simp at hq ⊢; omega)
      exact bodyPost_ret (v := .tuple #[.agg #[.int .i64 k, .slice b m d], .agg #[.int .i64 k, .slice (some ⟨q, 0, none⟩) m f]]) (by simp [results, Tryz.results9, go_sem, e0, e1, e2, e3]) rfl ⟨k, b, m, d, xs, k, some ⟨q, 0, none⟩, m, f, xs, rfl, hA, hB2, by omega, by omega, (K4.out.trans0 k42.out).trans kF (fun x hx hlt => by have := HRG.out; simp at hx; omega)⟩

end Go.Proofs.YtlhiahhpmjiioadGreatDoor
