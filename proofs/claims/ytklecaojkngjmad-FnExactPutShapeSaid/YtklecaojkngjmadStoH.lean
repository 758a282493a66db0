/-
  Contracts of the model's l8Copy, l9Find, l9Get, GetShape. Condition: the slice reads as named shapes.
-/
import Derived.Test.YtklecaojkngjmadStoG
import Derived.Test.YtklecaojkngjmadStoB
namespace Go.Proofs.Ytklecaojkngjmad
open Go.RowKit

theorem cells2b {w : World} {g g' : Nat} (hg : g ≠ g') {x0 x1 y0 y1 : Value} (u1 v0 v1 : Value) (_c0 : w.cell? ⟨g', 0, none⟩ = some x0) (c1 : w.cell? ⟨g', 1, none⟩ = some x1) (d0 : w.cell? ⟨g, 0, none⟩ = some y0) (d1 : w.cell? ⟨g, 1, none⟩ = some y1) :
    (w.setCell ⟨g', 1, none⟩ u1).cell? ⟨g', 1, none⟩ = some u1 ∧ (((w.setCell ⟨g', 1, none⟩ u1).setCell ⟨g, 0, none⟩ v0).setCell ⟨g, 1, none⟩ v1).cell? ⟨g, 0, none⟩ = some v0 ∧ (((w.setCell ⟨g', 1, none⟩ u1).setCell ⟨g, 0, none⟩ v0).setCell ⟨g, 1, none⟩ v1).cell? ⟨g, 1, none⟩ = some v1 := by
  have e1 := World.cell?_setCell_same w ⟨g', 1, none⟩ u1 c1
  have f0 : (w.setCell ⟨g', 1, none⟩ u1).cell? ⟨g, 0, none⟩ = some y0 := by rw [World.cell?_setCell_other _ _ _ _ (by simp; try omega)]; exact d0
  have f1 : (w.setCell ⟨g', 1, none⟩ u1).cell? ⟨g, 1, none⟩ = some y1 := by rw [World.cell?_setCell_other _ _ _ _ (by simp; try omega)]; exact d1
  obtain ⟨_, k0, k1⟩ := cells2 v0 v1 f0 f1
  exact ⟨e1, k0, k1⟩

set_option maxHeartbeats 1000000 in
theorem l8Copy_any (k : Int) (q : Option Addr) (n c : Nat) (xs : List Int) (w : World) (h : Rd w q (n * 2) xs) (hn : 0 < n) (hn2 : n ≤ 1000000) :
    Calls Try.prog 24 #[.agg #[.int .i64 k, .slice q n c]] w (fun e w' => ∃ g c', e = .returned (.agg #[.int .i64 k, .slice (some ⟨g, 0, none⟩) n c']) ∧ w.heap.size ≤ g ∧ Blk w' g xs ∧ Kept [] w w') := by
  have HR := Lib.hid h
  have HN := Lib.hid (And.intro hn hn2)
  clear h hn hn2
  go_enter Try.func24, Try.ntmps24
  have K0 := Lib.hid ((((Kept.refl [] w).alloc (.cells #[.int .i64 k, .slice q n c] 39)).alloc (.cells #[.int .i64 0, .slice none 0 0] 39)).alloc (.cells #[] 77))
  go_wp2_with (at_builtin; refine appPS rfl _ _ rfl (w.heap.size + 1 + 1) _ rfl (emptyP (by simp)) q n c xs rfl (HR.out.kept0 K0.out) HN.out.1 HN.out.2 (by simp) ?_)
  intro g c' w1 hg hb hG
  have kk : Kept [w.heap.size + 1 + 1] (((w.alloc (.cells #[.int .i64 k, .slice q n c] 39)).alloc (.cells #[.int .i64 0, .slice none 0 0] 39)).alloc (.cells #[] 77)) w1 := (Kept.refl _ _).grown hG (fun k hk _ => by simp [Value.ownBlock] at hk; simp [hk])
  have HK := Lib.hid (K0.out.trans1 kk (fun hlt => by omega))
  have cc := Kept.refl [] ((w.alloc (.cells #[.int .i64 k, .slice q n c] 39)).alloc (.cells #[.int .i64 0, .slice none 0 0] 39))
  obtain ⟨c0, f0, _⟩ := cc.peel.top rfl (by simp) 0 (v := .int .i64 k) rfl
  obtain ⟨c1, f1, _⟩ := cc.peel.top rfl (by simp) 1 (v := .slice q n c) rfl
  obtain ⟨d0, g0, _⟩ := cc.top (g := w.heap.size + 1) (by simp) (by simp) 0 (v := .int .i64 0) rfl
  obtain ⟨d1, g1, _⟩ := cc.top (g := w.heap.size + 1) (by simp) (by simp) 1 (v := .slice none 0 0) rfl
  have ka := (Kept.refl [] ((w.alloc (.cells #[.int .i64 k, .slice q n c] 39)).alloc (.cells #[.int .i64 0, .slice none 0 0] 39))).alloc (.cells #[] 77)
  have kb := ka.mono (M := [w.heap.size + 1 + 1]) (by simp) |>.trans1 kk (fun _ => by simp)
  have x0 := kb.cell c0 (by simp <;> omega)
  have x1 := kb.cell c1 (by simp <;> omega)
  have y0 := kb.cell d0 (by simp <;> omega)
  have y1 := kb.cell d1 (by simp <;> omega)
  have u0 := kb.freeS c0 f0 (by simp <;> omega)
  have u1 := kb.freeS c1 f1 (by simp <;> omega)
  have v0 := kb.freeS d0 g0 (by simp <;> omega)
  have v1 := kb.freeS d1 g1 (by simp <;> omega)
  have HB := Lib.hid hb
  clear hb hG kk cc c0 c1 d0 d1 f0 f1 g0 g1 ka kb
  obtain ⟨m0, m1, m2⟩ := cells2b (g := w.heap.size + 1) (g' := w.heap.size) (by omega) (.slice (some ⟨g, 0, none⟩) n c') (.int .i64 k) (.slice (some ⟨g, 0, none⟩) n c') x0 x1 y0 y1
  go_wp2_with fail
  refine bodyPost_ret (v := .agg #[.int .i64 k, .slice (some ⟨g, 0, none⟩) n c']) (by simp [results, Try.results24, go_sem, m1, m2]) rfl ⟨g, c', rfl, by omega, ?_, ?_⟩
  · exact ((HB.out.other _ _ (by simp; omega)).other _ _ (by simp; omega)).other _ _ (by simp; omega)
  · exact ((HK.out.setCell _ _ (by simp)).setCell _ _ (by simp)).setCell _ _ (by simp)

theorem fIx_hit {L : List Sh} {x : List UInt8} {k : Nat} (h : ∀ i, i < k → (L.getD i sh0).nm ≠ x) (hk : k < L.length) (he : (L.getD k sh0).nm = x) : fIx L x = k := by
  have h1 : fIx L x ≤ k := by
    rcases Nat.lt_or_ge k (fIx L x) with hl | hl
    · exact absurd he (fIx_before hl)
    · exact hl
  by_cases e : fIx L x = k
  · exact e
  · exact absurd (fIx_at (show fIx L x < L.length by omega)) (h _ (by omega))
theorem fIx_miss {L : List Sh} {x : List UInt8} (h : ∀ i, i < L.length → (L.getD i sh0).nm ≠ x) : ¬ fIx L x < L.length := fun hl => h _ hl (fIx_at hl)
/-- What l9Find answers. -/
def findV (L : List Sh) (x : List UInt8) : Int := if fIx L x < L.length then (fIx L x : Int) else -1

set_option maxHeartbeats 1000000 in
theorem l9Find_any (S : Nat) (a : Option Addr) (n c : Nat) (L : List Sh) (x : List UInt8) (w : World) (h : RdSt w a n L) (hs : w.cell? ⟨S, 0, none⟩ = some (.slice a n c)) :
    Calls Try.prog 22 #[.pointer (some ⟨S, 0, none⟩), .string (strB x)] w (Ans w (.int .i64 (findV L x))) := by
  have hmax := h.2.1
  have HR := Lib.hid h
  have B0 := Lib.hid hs
  clear h
  go_enter Try.func22, Try.ntmps22
  go_wp2_with fail
  go_loopw [5] (fun i wr => ∃ k : Nat, k ≤ n ∧ i = .int .i64 k ∧ Hid (∀ j, j < k → (L.getD j sh0).nm ≠ x) ∧ Hid (Kept [] w wr)) (fun i _ => n - (intOf i).toNat)
  case atStart => exact ⟨0, Nat.zero_le _, rfl, fun j hj => by omega, Kept.refl _ _⟩
  case round =>
    obtain ⟨k, hk, rfl, hO, hK⟩ := hrel
    have b1 := hK.out.cell B0.out (by simp)
    by_cases hlt : k < n
    · obtain ⟨g, off, p, c', rfl, hc0, _, _, _, _⟩ := HR.out.2.2 k hlt
      have d0 := hK.out.cell hc0 (by simp)
      clear hc0
      obtain ⟨nm, hs⟩ : ∃ nm, (L.getD k sh0).nm = nm := ⟨_, rfl⟩
      rw [hs] at d0
      have HS := Lib.hid hs
      clear hs
      by_cases he : nm = x
      · have hq : ((strB nm).toList == (strB x).toList) = true := by rw [same_str]; exact decide_eq_true he
        have hv : Hid (findV L x = k) := by
          have := fIx_hit (L := L) (x := x) (k := k) hO.out (by rw [HR.out.1]; exact hlt) (by rw [HS.out]; exact he)
          show _ = _
          unfold findV; rw [this, if_pos (by rw [HR.out.1]; exact hlt)]
        clear he
        go_wp2_with fail
        go_ret
        exact ⟨by rw [hv.out]; rfl, hK.out⟩
      · have hq : ((strB nm).toList == (strB x).toList) = false := by rw [same_str]; exact decide_eq_false he
        have hO2 : Hid (∀ j, j < k + 1 → (L.getD j sh0).nm ≠ x) := fun j hj => by
          by_cases hjk : j = k
          · subst hjk; rw [HS.out]; exact he
          · exact hO.out j (by omega)
        clear he hO
        go_wp2_with fail
        go_roundw
        case rel => exact ⟨k + 1, by omega, by go_num, hO2, hK⟩
        case measure => simp [intOf]; omega
    · obtain rfl : k = n := by omega
      have hv : Hid (findV L x = -1) := by
        show _ = _
        unfold findV; rw [if_neg (fIx_miss (fun j hj => hO.out j (by rw [← HR.out.1]; exact hj)))]
      go_wp2_with fail
      go_ret
      exact ⟨by rw [hv.out]; rfl, hK.out⟩

/-- What l9Get answers: a shape in a new block, and a code. -/
def GetG (w : World) (L : List Sh) (x : List UInt8) (e : Ending) (w' : World) : Prop :=
  ∃ a c, e = .returned (.tuple #[.agg #[.int .i64 (gotS L x).k, .slice a (gotS L x).n c], .int .i64 (getC L x)]) ∧ SlP w' a (gotS L x).n (gotS L x).xs ∧ (∀ g ∈ blkP a (gotS L x).n, w.heap.size ≤ g) ∧ Kept [] w w'
theorem getG_zero {w w' : World} {L : List Sh} {x : List UInt8} {v : Int} (hc : getC L x = v) (hs : gotS L x = sh0) (k : Kept [] w w') : GetG w L x (.returned (.tuple #[.agg #[.int .i64 0, .slice none 0 0], .int .i64 v])) w' := by
  refine ⟨none, 0, by rw [hc, hs]; rfl, ?_, ?_, k⟩
  · rw [hs]; exact ⟨by decide, rfl, .inl rfl⟩
  · rw [hs]; intro g hg; simp [blkP, sh0] at hg

end Go.Proofs.Ytklecaojkngjmad
