/-
  The laws' helpers over stores: a store made anew, two stores compared. Condition: the slices read as named shapes.
-/
import Derived.Deep.RegionHeld3
import Derived.Deep.DrawnRows
import Derived.Deep.DeepCutAuto
import Derived.Test.YtbljpeefekhoeadStoN
namespace Go.Proofs.Ytbljpeefekhoead
open Go.RowKit

/-- A call that answers a store in blocks of its own. -/
def NewSto (w : World) (n : Nat) (L : List Sh) (e : Ending) (w' : World) : Prop :=
  ∃ g gs, e = .returned (.agg #[.slice (some ⟨g, 0, none⟩) n n]) ∧ StB w' g gs (nOf L) n L ∧ StA w.heap.size g gs n ∧ Kept [] w w'
theorem StB.other {w : World} {g : Nat} {gs cs : Nat → Nat} {n : Nat} {L : List Sh} (h : StB w g gs cs n L) (a : Addr) (v : Value) (hg : g ≠ a.block) (hgs : ∀ i, i < n → gs i ≠ a.block) : StB (w.setCell a v) g gs cs n L := by
  obtain ⟨h1, h2, h3, h4⟩ := h
  exact ⟨h1, h2, h3.other _ _ hg, fun i hi => ⟨(h4 i hi).1.other _ _ (hgs i hi), (h4 i hi).2⟩⟩
theorem StA.mono {B B' g : Nat} {gs : Nat → Nat} {n : Nat} (h : StA B g gs n) (hB : B' ≤ B) : StA B' g gs n := ⟨Nat.le_trans hB h.1, fun i hi => Nat.le_trans hB (h.2 i hi)⟩

set_option maxHeartbeats 1000000 in
theorem toStore_any (a : Option Addr) (n c : Nat) (L : List Sh) (w : World) (h : RdSt w a n L) (hn : n + szAt L n ≤ 2000000) :
    Calls Try.prog 6 #[.agg #[.slice a n c]] w (NewSto w n L) := by
  have HR := Lib.hid h
  have HN := Lib.hid hn
  clear h hn
  have k0 : Kept [] w (((w.alloc (.cells #[.slice a n c] 24)).alloc (.cells #[.slice none 0 0] 31)).alloc (.cells #[.slice none 0 0] 31)) := (((Kept.refl [] w).alloc _).alloc _).alloc _
  have K0 := Lib.hid k0
  clear k0
  go_enter Try.func6, Try.ntmps6
  go_wp2_with fail
  refine (toNamedS_any _ _ _ _ _ (HR.out.kept0 K0.out) HN.out).mono ?_
  rintro e w1 ⟨g, gs, rfl, hb, ha, hk⟩
  obtain ⟨c0, f0, _⟩ := hk.top (g := w.heap.size + 1 + 1) (by simp) (by simp) 0 rfl
  obtain ⟨d0, e0, _⟩ := hk.peel.top (g := w.heap.size + 1) (by simp) (by simp) 0 rfl
  have hs := hk.size
  have hA := ha
  unfold StA at hA
  simp only [World.size_alloc] at hs hA
  have HB := Lib.hid hb
  have HA := Lib.hid hA
  have HK := Lib.hid (K0.out.trans0 hk)
  clear hb hk ha hA
  go_wp2_with fail
  have e3 : (w1.setCell ⟨w.heap.size + 1 + 1, 0, none⟩ (.slice (some ⟨g, 0, none⟩) n n)).cell? ⟨w.heap.size + 1, 0, none⟩ = some (.slice none 0 0) := by rw [World.cell?_setCell_other _ _ _ _ (by simp)]; exact d0
  have e4 := World.cell?_setCell_same _ _ (.slice (some ⟨g, 0, none⟩) n n) e3
  refine bodyPost_ret (v := .agg #[.slice (some ⟨g, 0, none⟩) n n]) (by simp [results, Try.results6, go_sem, e4]) rfl ⟨g, gs, rfl, ?_, ⟨by have := HA.out.1; omega, fun i hi => by have := HA.out.2 i hi; omega⟩, (HK.out.setCell _ _ (by simp; omega)).setCell _ _ (by simp)⟩
  exact (HB.out.other _ _ (by have := HA.out.1; simp; omega) (fun i hi => by have := HA.out.2 i hi; simp; omega)).other _ _ (by have := HA.out.1; simp; omega) (fun i hi => by have := HA.out.2 i hi; simp; omega)

set_option maxHeartbeats 1000000 in
theorem eqNamed_yes (s : Sh) (a b : Option Addr) (c c' : Nat) (w : World) (h : Rd w a (s.n * 2) s.xs) (h' : Rd w b (s.n * 2) s.xs) :
    Calls Try.prog 23 #[.agg #[.string (strB s.nm), .int .i64 s.k, .slice a s.n c], .agg #[.string (strB s.nm), .int .i64 s.k, .slice b s.n c']] w (Ans w (.bool true)) := by
  have HR := Lib.hid h
  have HR' := Lib.hid h'
  clear h h'
  obtain ⟨nm, k, n, xs⟩ := s
  simp only at HR HR' ⊢
  generalize strB nm = S
  go_enter Try.func23, Try.ntmps23
  go_wp2_with fail
  refine (eqShape_yes _ _ _ _ _ _ _ _ (HR.out.kept0 (((Kept.refl _ _).alloc _).alloc _)) (HR'.out.kept0 (((Kept.refl _ _).alloc _).alloc _))).mono ?_
  rintro e w1 ⟨rfl, h1⟩
  go_wp2_with fail
  go_ret
  exact ⟨rfl, h1.peel.peel⟩

set_option maxHeartbeats 1000000 in
theorem eqNamedS_yes (a b : Option Addr) (n c c' : Nat) (L : List Sh) (w : World) (h : RdSt w a n L) (h' : RdSt w b n L) :
    Calls Try.prog 16 #[.slice a n c, .slice b n c'] w (Ans w (.bool true)) := by
  have hmax := h.2.1
  have HR := Lib.hid h
  have HR' := Lib.hid h'
  clear h h'
  go_enter Try.func16, Try.ntmps16
  go_wp2
  go_loopw [5] (fun i wr => ∃ k : Nat, k ≤ n ∧ i = .int .i64 k ∧ Hid (Kept [] w wr)) (fun i _ => n - (intOf i).toNat)
  case atStart => exact ⟨0, Nat.zero_le _, rfl, Kept.refl _ _⟩
  case round =>
    obtain ⟨k, hk, rfl, hK⟩ := hrel
    by_cases hlt : k < n
    · obtain ⟨g, off, p, c1, rfl, hc0, hc1, hc2, hrd, _⟩ := HR.out.2.2 k hlt
      obtain ⟨g', off', p', c1', rfl, hd0, hd1, hd2, hrd', _⟩ := HR'.out.2.2 k hlt
      have d0 := hK.out.cell hc0 (by simp)
      have d1 := hK.out.cell hc1 (by simp)
      have d2 := hK.out.cell hc2 (by simp)
      have e0 := hK.out.cell hd0 (by simp)
      have e1 := hK.out.cell hd1 (by simp)
      have e2 := hK.out.cell hd2 (by simp)
      have HRd := Lib.hid (hrd.kept0 hK.out)
      have HRd' := Lib.hid (hrd'.kept0 hK.out)
      clear hc0 hc1 hc2 hrd hd0 hd1 hd2 hrd'
      generalize L.getD k sh0 = s at *
      go_wp2_with fail
      go_region_held3 (fun w' => w'.cell? ⟨g, off + k * 3, none⟩ = some (.string (strB s.nm)) ∧ w'.cell? ⟨g, off + k * 3 + 1, none⟩ = some (.int .i64 s.k) ∧ w'.cell? ⟨g, off + k * 3 + 2, none⟩ = some (.slice p s.n c1) ∧ w'.cell? ⟨g', off' + k * 3, none⟩ = some (.string (strB s.nm)) ∧ w'.cell? ⟨g', off' + k * 3 + 1, none⟩ = some (.int .i64 s.k) ∧ w'.cell? ⟨g', off' + k * 3 + 2, none⟩ = some (.slice p' s.n c1') ∧ Hid (Kept [] wr w'))
        ((go_split_ands; (try refine ⟨?_, ?_, ?_, ?_, ?_, ?_, ?_⟩) <;> with_reducible first | exact Lib.hid ((Kept.refl _ _).drew) | exact drew_pt (by assumption) | exact Kept.allocH (by assumption) | exact alloc_cell (by assumption) | exact Lib.hid (Kept.trans0 (Hid.out (by assumption)) (by assumption)) | exact Kept.cell (by assumption) (by assumption) (by simp)))
        (first | (go_at_call 23; go_split_ands; refine (eqNamed_yes s _ _ _ _ _ (HRd.out.kept0 (Kept.refl [] _).drew) (HRd'.out.kept0 (Kept.refl [] _).drew)).mono ?_; rintro e v1 ⟨rfl, hk1⟩))
      have hK2 := Lib.hid (hK.out.trans0 ((Kept.refl [] wr).drew.trans0 hk1))
      clear hK
      go_wp2_with fail
      go_roundw
      case rel => exact ⟨k + 1, by omega, by go_num, hK2⟩
      case measure => simp [intOf]; omega
    · obtain rfl : k = n := by omega
      go_wp2
      go_ret
      exact ⟨rfl, hK.out⟩

set_option maxHeartbeats 1000000 in
theorem eqStore_yes (a b : Option Addr) (n c c' : Nat) (L : List Sh) (w : World) (h : RdSt w a n L) (h' : RdSt w b n L) :
    Calls Try.prog 9 #[.agg #[.slice a n c], .agg #[.slice b n c']] w (Ans w (.bool true)) := by
  have HR := Lib.hid h
  have HR' := Lib.hid h'
  clear h h'
  go_enter Try.func9, Try.ntmps9
  go_wp2_with fail
  refine (eqNamedS_yes _ _ _ _ _ _ _ (HR.out.kept0 (((Kept.refl _ _).alloc _).alloc _)) (HR'.out.kept0 (((Kept.refl _ _).alloc _).alloc _))).mono ?_
  rintro e w1 ⟨rfl, h1⟩
  go_wp2_with fail
  go_ret
  exact ⟨rfl, h1.peel.peel⟩

end Go.Proofs.Ytbljpeefekhoead
