/-
  Several of my texts in one, each as it was: SpanL, SpanE, SpanX. No condition but theirs.
-/
import Derived.Test.YtlhiahhpmjiioaaSpanA
import Derived.Deep.RegionHeld3
import Derived.Deep.DrawnRows
import Derived.Deep.DeepCutAuto
import Derived.Test.YtlhiahhpmjiioaaSpanD
import Derived.Test.YtlhiahhpmjiioaaJ2
import Derived.Test.YtlhiahhpmjiioaaJ1
namespace Go.Proofs.Ytlhiahhpmjiioaa
open Go.RowKit

end Go.Proofs.Ytlhiahhpmjiioaa

namespace Go.Proofs.Ytlhiahhpmjiioaa
open Go.RowKit

/-- A call that answers a big whose limbs are copied into a row of 20 of their own. -/
def CopyR (w : World) (p : Bool) (n : Nat) (xs : List Int) (e : Ending) (w' : World) : Prop :=
  ∃ g, e = .returned (.agg #[.bool p, .slice (some ⟨g, 0, none⟩) n 20]) ∧ Sl w' (some ⟨g, 0, none⟩) n 20 xs ∧ w.heap.size ≤ g ∧ g < w'.heap.size ∧ Kept [] w w'
/-- A call that answers a span's result: a code, and two ends in new memory of their own. -/
def SpanR (w : World) (r : SV) (e : Ending) (w' : World) : Prop :=
  ∃ a c b d, e = .returned (.agg #[.int .i64 r.code, .bool (isNeg r.lo), .slice a (mag r.lo).length c, .bool (isNeg r.hi), .slice b (mag r.hi).length d]) ∧ Sl w' a (mag r.lo).length c (mag r.lo) ∧ Sl w' b (mag r.hi).length d (mag r.hi) ∧
    Fr w.heap.size a (mag r.lo).length ∧ Fr w.heap.size b (mag r.hi).length ∧ (∀ x y, 0 < (mag r.lo).length → 0 < (mag r.hi).length → a = some x → b = some y → x.block ≠ y.block) ∧ Kept [] w w'
theorem noSpan_ends (f : Int) : (noSpan f).code = f ∧ isNeg (noSpan f).lo = false ∧ mag (noSpan f).lo = [] ∧ isNeg (noSpan f).hi = false ∧ mag (noSpan f).hi = [] := by
  unfold noSpan; exact ⟨rfl, isNeg_no (Int.le_refl 0), mag_zero, isNeg_no (Int.le_refl 0), mag_zero⟩
theorem spanR_no {w w' : World} {f : Int} (hk : Kept [] w w') : SpanR w (noSpan f) (.returned (.agg #[.int .i64 f, .bool false, .slice none 0 0, .bool false, .slice none 0 0])) w' := by
  obtain ⟨h1, h2, h3, h4, h5⟩ := noSpan_ends f
  refine ⟨none, 0, none, 0, ?_, ?_, ?_, fun h => by rw [h3] at h; simp at h, fun h => by rw [h5] at h; simp at h, fun _ _ h => by rw [h3] at h; simp at h, hk⟩
  · rw [h1, h2, h3, h4, h5]; rfl
  · rw [h3]; exact Sl.nil _
  · rw [h5]; exact Sl.nil _
theorem spanR_fin {w w' : World} {lo hi : Int} {a b : Option Addr} {n c m d : Nat} {p q : Bool} (hp : p = isNeg lo) (hq : q = isNeg hi) (hn : (mag lo).length = n) (hm : (mag hi).length = m) (hS : Sl w' a n c (mag lo)) (hS' : Sl w' b m d (mag hi))
    (hF : Fr w.heap.size a n) (hF' : Fr w.heap.size b m) (hne : ∀ x y, 0 < n → 0 < m → a = some x → b = some y → x.block ≠ y.block) (hk : Kept [] w w') : SpanR w ⟨0, lo, hi⟩ (.returned (.agg #[.int .i64 0, .bool p, .slice a n c, .bool q, .slice b m d])) w' := by
  subst hp hq hn hm; exact ⟨a, c, b, d, rfl, hS, hS', hF, hF', hne, hk⟩
theorem Kept.set5 {W w2 : World} {g : Nat} {v1 v2 v3 v4 v5 : Value} (h : Hid (Kept [g] W w2)) : Hid (Kept [g] W (((((w2.setCell ⟨g, 0, none⟩ v1).setCell ⟨g, 1, none⟩ v2).setCell ⟨g, 2, none⟩ v3).setCell ⟨g, 3, none⟩ v4).setCell ⟨g, 4, none⟩ v5)) :=
  Lib.hid (((((h.out.setCell _ _ (by simp)).setCell _ _ (by simp)).setCell _ _ (by simp)).setCell _ _ (by simp)).setCell _ _ (by simp))
theorem cell_set5 {w2 : World} {g : Nat} {p : Addr} {v v1 v2 v3 v4 v5 : Value} (h : w2.cell? p = some v) (hg : p.block ≠ g) : (((((w2.setCell ⟨g, 0, none⟩ v1).setCell ⟨g, 1, none⟩ v2).setCell ⟨g, 2, none⟩ v3).setCell ⟨g, 3, none⟩ v4).setCell ⟨g, 4, none⟩ v5).cell? p = some v :=
  (Kept.set5 (Lib.hid (Kept.refl [g] w2))).out.cell h (by simpa using hg)
theorem Kept.set4 {W w2 : World} {g : Nat} {v1 v2 v3 v4 : Value} (h : Hid (Kept [g] W w2)) : Hid (Kept [g] W ((((w2.setCell ⟨g, 0, none⟩ v1).setCell ⟨g, 1, none⟩ v2).setCell ⟨g, 2, none⟩ v3).setCell ⟨g, 3, none⟩ v4)) :=
  Lib.hid ((((h.out.setCell _ _ (by simp)).setCell _ _ (by simp)).setCell _ _ (by simp)).setCell _ _ (by simp))
theorem cell_set4 {w2 : World} {g : Nat} {p : Addr} {v v1 v2 v3 v4 : Value} (h : w2.cell? p = some v) (hg : p.block ≠ g) : ((((w2.setCell ⟨g, 0, none⟩ v1).setCell ⟨g, 1, none⟩ v2).setCell ⟨g, 2, none⟩ v3).setCell ⟨g, 3, none⟩ v4).cell? p = some v :=
  (Kept.set4 (Lib.hid (Kept.refl [g] w2))).out.cell h (by simpa using hg)

set_option maxHeartbeats 4000000 in
set_option maxRecDepth 20000 in
theorem copyOfEnd_any (p : Bool) (a : Option Addr) (n c : Nat) (xs : List Int) (w : World) (h : Sl w a n c xs) (hn : n ≤ 20) :
    Calls Try.prog 49 #[.agg #[.bool p, .slice a n c]] w (CopyR w p n xs) := by
  have HS := Lib.hid h
  have HL := Lib.hid h.1
  have FS := Lib.hid h.lt
  clear h
  go_enter Try.func49, Try.ntmps49
  go_upto_region 2 with fail
  have hA : ((((w.alloc (.cells #[.bool p, .slice a n c] 26)).alloc (.cells #[.bool false, .slice none 0 0] 26)).alloc (.cells #[.int .i64 0, .int .i64 0, .int .i64 0, .int .i64 0, .int .i64 0, .int .i64 0, .int .i64 0, .int .i64 0, .int .i64 0, .int .i64 0, .int .i64 0, .int .i64 0, .int .i64 0, .int .i64 0, .int .i64 0, .int .i64 0, .int .i64 0, .int .i64 0, .int .i64 0, .int .i64 0] 72))).heap[w.heap.size + 1 + 1]? = some (.cells (ints (List.replicate 20 0)) 72 (0, 0)) := by have h := heap_alloc_new ((w.alloc (.cells #[.bool p, .slice a n c] 26)).alloc (.cells #[.bool false, .slice none 0 0] 26)) (.cells #[.int .i64 0, .int .i64 0, .int .i64 0, .int .i64 0, .int .i64 0, .int .i64 0, .int .i64 0, .int .i64 0, .int .i64 0, .int .i64 0, .int .i64 0, .int .i64 0, .int .i64 0, .int .i64 0, .int .i64 0, .int .i64 0, .int .i64 0, .int .i64 0, .int .i64 0, .int .i64 0] 72); simp only [World.size_alloc] at h; exact h
  generalize hW : (((w.alloc (.cells #[.bool p, .slice a n c] 26)).alloc (.cells #[.bool false, .slice none 0 0] 26)).alloc (.cells #[.int .i64 0, .int .i64 0, .int .i64 0, .int .i64 0, .int .i64 0, .int .i64 0, .int .i64 0, .int .i64 0, .int .i64 0, .int .i64 0, .int .i64 0, .int .i64 0, .int .i64 0, .int .i64 0, .int .i64 0, .int .i64 0, .int .i64 0, .int .i64 0, .int .i64 0, .int .i64 0] 72)) = ww0
  rw [hW] at hA
  have hkk : Kept [] (((w.alloc (.cells #[.bool p, .slice a n c] 26)).alloc (.cells #[.bool false, .slice none 0 0] 26)).alloc (.cells #[.int .i64 0, .int .i64 0, .int .i64 0, .int .i64 0, .int .i64 0, .int .i64 0, .int .i64 0, .int .i64 0, .int .i64 0, .int .i64 0, .int .i64 0, .int .i64 0, .int .i64 0, .int .i64 0, .int .i64 0, .int .i64 0, .int .i64 0, .int .i64 0, .int .i64 0, .int .i64 0] 72)) ww0 := by rw [hW]; exact Kept.refl _ _
  have zzA : w.heap.size + 1 + 1 + 1 = ww0.heap.size := by rw [← hW]; simp
  obtain ⟨⟨nA0, nA1⟩, _⟩ := tp2 hkk.peel.peel (g := w.heap.size) (by simp) (by simp)
  obtain ⟨⟨nR0, nR1⟩, fR0, fR1⟩ := tp2 hkk.peel (g := w.heap.size + 1) (by simp) (by simp)
  have hk := hkk.peel.peel.peel
  clear hkk hW
  have z0 := hk.size
  have KT := Lib.hid hk
  clear hk
  replace HS := Lib.hid (HS.out.kept0 KT.out)
  have hm := HS.out.rd.2.2
  have hxl := HL.out
  have hsrc : 0 < (xs.map (Value.int .i64)).length → some (⟨w.heap.size + 1 + 1, 0, none⟩ : Addr) = some ⟨w.heap.size + 1 + 1, 0, none⟩ ∧ ∃ ad, a = some ad ∧ ∀ j v, (xs.map (Value.int .i64))[j]? = some v → ww0.drew.cell? (ad.add j) = some v := fun h0 => by
    rw [List.length_map] at h0
    obtain ⟨g', off, ha, _⟩ := hm 0 (by omega)
    refine ⟨rfl, _, ha, fun j v hj => ?_⟩
    obtain ⟨hj', rfl⟩ := getD_map hj
    obtain ⟨g2, off2, he, hc⟩ := hm j (by omega)
    rw [ha] at he
    cases he
    rw [Addr.add_lit]; exact hc
  have HSRC := Lib.hid hsrc
  have HA := Lib.hid hA
  clear hsrc hm hxl hA
  have hsz1 : (Try.prog.info? 2).map (·.size) = some 1 := by obtain ⟨i0, hi, hz0, hz1, hz2⟩ := info_parts Try.info64; rw [hi]; simp [hz1]
  have HSZ := Lib.hid hsz1
  clear hsz1
  have tA0 := nA0.out
  have tA1 := nA1.out
  go_region_law (refine step_copy_splice (by rfl) (.tmp 5) (.tmp 7) 24 24 (by rfl) 2 Try.underlying24 HSZ.out _ _ _ _ _ _ (by rfl) (by rfl) (w.heap.size + 1 + 1) 0 (ints (List.replicate 20 0)).toList 72 HA.out (xs.map (Value.int .i64)) (by rw [List.length_map, HL.out]; exact (Nat.min_eq_left hn).symm) HSRC.out (by rw [List.length_map, HL.out]; simp [ints]; omega) (fun v hv => by obtain ⟨_, _, rfl⟩ := List.mem_map.1 hv; rfl) (w.heap.size + 1 + 1) ww0 ⟨rfl, rfl, rfl, Nat.le_refl _, fun _ _ => rfl⟩ (Nat.le_refl _) ?_; intro w4 hg4 hb4)
  clear tA0 tA1
  obtain ⟨b1, b2, b3, b4, b5⟩ := hb4
  have hk : Kept [w.heap.size + 1 + 1] ww0 w4 := ⟨b1, b2, b3, b4, fun k hk hl => b5 k (by simp at hl; omega)⟩
  have hb : Blk w4 (w.heap.size + 1 + 1) xs := by
    refine ⟨(_, _), hg4.out, by simp [splice], fun k hk => ?_⟩
    show (splice (ints (List.replicate 20 0)).toList 0 (List.map (Value.int .i64) xs)).toArray[k]? = _
    simp [splice, List.getElem?_append, hk, List.getD_eq_getElem?_getD]
  have HB := Lib.hid hb
  clear b1 b2 b3 b4 b5 hg4 hb HSRC HA HSZ
  have z1 := hk.size
  replace fR0 := kg hk nR0 fR0 (by simp <;> omega)
  replace fR1 := kg hk nR1 fR1 (by simp <;> omega)
  replace nA0 := kd hk nA0 (by simp <;> omega)
  replace nA1 := kd hk nA1 (by simp <;> omega)
  replace nR0 := kd hk nR0 (by simp <;> omega)
  replace nR1 := kd hk nR1 (by simp <;> omega)
  replace HS := Lib.hid (HS.out.kept hk (fun hn y hy hm => by have h9 := FS.out hn y hy; simp at hm; omega))
  replace KT := Lib.hid (KT.out.trans hk (fun x hx hlt => by simp at hx; omega))
  clear hk
  rw [HL.out]
  have i0 : (0 : Int) ≤ (n : Int) := by omega
  have i1 : (n : Int) ≤ 20 := by omega
  have zB := HB.out.lt
  have tA0 := nA0.out
  have tA1 := nA1.out
  have tR0 := nR0.out
  have tR1 := nR1.out
  have uR0 := fR0.out
  have uR1 := fR1.out
  go_wp2_with fail
  go_region
  clear tA0 tA1 tR0 tR1 uR0 uR1
  generalize hW : ((w4.setCell ⟨w.heap.size + 1, 0, none⟩ (.bool p)).setCell ⟨w.heap.size + 1, 1, none⟩ (.slice (some ⟨w.heap.size + 1 + 1, 0, none⟩) n 20)).drew = ww2
  have hk : Kept [w.heap.size + 1] w4 ww2 := by rw [← hW]; exact (((Kept.refl _ _).setCell _ _ (by simp)).setCell _ _ (by simp)).drew
  have hfz : ∀ x, ww2.frozen? x = w4.frozen? x := by rw [← hW]; intro x; show ((w4.setCell ⟨w.heap.size + 1, 0, none⟩ (.bool p)).setCell ⟨w.heap.size + 1, 1, none⟩ (.slice (some ⟨w.heap.size + 1 + 1, 0, none⟩) n 20)).frozen? x = _; simp only [World.frozen?_setCell]
  have e0 : ww2.cell? ⟨w.heap.size + 1, 0, none⟩ = some (.bool p) := by rw [← hW]; show ((w4.setCell ⟨w.heap.size + 1, 0, none⟩ (.bool p)).setCell ⟨w.heap.size + 1, 1, none⟩ (.slice (some ⟨w.heap.size + 1 + 1, 0, none⟩) n 20)).cell? _ = _; rw [World.cell?_setCell_other _ _ _ _ (by simp)]; exact World.cell?_setCell_same _ _ _ (by exact nR0.out)
  have e1 : ww2.cell? ⟨w.heap.size + 1, 1, none⟩ = some (.slice (some ⟨w.heap.size + 1 + 1, 0, none⟩) n 20) := by rw [← hW]; show ((w4.setCell ⟨w.heap.size + 1, 0, none⟩ (.bool p)).setCell ⟨w.heap.size + 1, 1, none⟩ (.slice (some ⟨w.heap.size + 1 + 1, 0, none⟩) n 20)).cell? _ = _; exact World.cell?_setCell_same _ _ _ (by rw [World.cell?_setCell_other _ _ _ _ (by simp)]; exact nR1.out)
  have z2 := hk.size
  replace fR0 := kz hfz fR0
  replace fR1 := kz hfz fR1
  replace nA0 := kd hk nA0 (by simp <;> omega)
  replace nA1 := kd hk nA1 (by simp <;> omega)
  replace HS := Lib.hid (HS.out.kept hk (fun hn y hy hm => by have h9 := FS.out hn y hy; simp at hm; omega))
  replace HB := Lib.hid (hk.blk HB.out (by simp <;> omega))
  replace nR0 := Lib.hid e0
  replace nR1 := Lib.hid e1
  replace KT := Lib.hid (KT.out.trans hk (fun x hx hlt => by simp at hx; omega))
  clear hk hfz hW e0 e1
  go_wp2_with fail
  have e0 := nR0.out
  have e1 := nR1.out
  refine bodyPost_ret (v := .agg #[.bool p, .slice (some ⟨w.heap.size + 1 + 1, 0, none⟩) n 20]) (by simp [results, Try.results49, go_sem, e0, e1]) rfl ?_
  exact ⟨w.heap.size + 1 + 1, rfl, (by have h := Sl.ofBlkC (c := 20) HB.out (by rw [HL.out]; exact hn) (by omega); rw [HL.out] at h; exact h), by omega, by omega, KT.out⟩

end Go.Proofs.Ytlhiahhpmjiioaa

namespace Go.Proofs.Ytlhiahhpmjiioaa
open Go.RowKit
/-- A new box with a span's result, its ends in new memory; BoxSm: of the model, whose ends need not lie apart. -/
def BoxSm (w0 : World) (r : SV) (s : Value) (w : World) : Prop :=
  ∃ g a c b d, s = .pointer (some ⟨g, 0, none⟩) ∧ w.cell? ⟨g, 0, none⟩ = some (.int .i64 r.code) ∧ w.cell? ⟨g, 1, none⟩ = some (.bool (isNeg r.lo)) ∧ w.cell? ⟨g, 2, none⟩ = some (.slice a (mag r.lo).length c) ∧
    w.cell? ⟨g, 3, none⟩ = some (.bool (isNeg r.hi)) ∧ w.cell? ⟨g, 4, none⟩ = some (.slice b (mag r.hi).length d) ∧ w0.heap.size ≤ g ∧ g < w.heap.size ∧ Sl w a (mag r.lo).length c (mag r.lo) ∧ Sl w b (mag r.hi).length d (mag r.hi) ∧
    Fr w0.heap.size a (mag r.lo).length ∧ Fr w0.heap.size b (mag r.hi).length ∧ Kept [] w0 w
def BoxS (w0 : World) (r : SV) (s : Value) (w : World) : Prop :=
  ∃ g a c b d, s = .pointer (some ⟨g, 0, none⟩) ∧ w.cell? ⟨g, 0, none⟩ = some (.int .i64 r.code) ∧ w.cell? ⟨g, 1, none⟩ = some (.bool (isNeg r.lo)) ∧ w.cell? ⟨g, 2, none⟩ = some (.slice a (mag r.lo).length c) ∧
    w.cell? ⟨g, 3, none⟩ = some (.bool (isNeg r.hi)) ∧ w.cell? ⟨g, 4, none⟩ = some (.slice b (mag r.hi).length d) ∧ w0.heap.size ≤ g ∧ g < w.heap.size ∧ Sl w a (mag r.lo).length c (mag r.lo) ∧ Sl w b (mag r.hi).length d (mag r.hi) ∧
    Fr w0.heap.size a (mag r.lo).length ∧ Fr w0.heap.size b (mag r.hi).length ∧ (∀ x y, 0 < (mag r.lo).length → 0 < (mag r.hi).length → a = some x → b = some y → x.block ≠ y.block) ∧ Kept [] w0 w
theorem Kept.set5n {W w2 : World} {g : Nat} {v1 v2 v3 v4 v5 : Value} (h : Hid (Kept [] W w2)) (hg : W.heap.size ≤ g) : Hid (Kept [] W (((((w2.setCell ⟨g, 0, none⟩ v1).setCell ⟨g, 1, none⟩ v2).setCell ⟨g, 2, none⟩ v3).setCell ⟨g, 3, none⟩ v4).setCell ⟨g, 4, none⟩ v5)) :=
  Lib.hid (((((h.out.setCell _ _ (by simp; omega)).setCell _ _ (by simp; omega)).setCell _ _ (by simp; omega)).setCell _ _ (by simp; omega)).setCell _ _ (by simp; omega))
theorem cells5at {w : World} {g : Nat} {x0 x1 x2 x3 x4 : Value} (v0 v1 v2 v3 v4 : Value) (h0 : w.cell? ⟨g, 0, none⟩ = some x0) (h1 : w.cell? ⟨g, 1, none⟩ = some x1) (h2 : w.cell? ⟨g, 2, none⟩ = some x2) (h3 : w.cell? ⟨g, 3, none⟩ = some x3) (h4 : w.cell? ⟨g, 4, none⟩ = some x4) :
    let W := ((((w.setCell ⟨g, 0, none⟩ v0).setCell ⟨g, 1, none⟩ v1).setCell ⟨g, 2, none⟩ v2).setCell ⟨g, 3, none⟩ v3).setCell ⟨g, 4, none⟩ v4
    W.cell? ⟨g, 0, none⟩ = some v0 ∧ W.cell? ⟨g, 1, none⟩ = some v1 ∧ W.cell? ⟨g, 2, none⟩ = some v2 ∧ W.cell? ⟨g, 3, none⟩ = some v3 ∧ W.cell? ⟨g, 4, none⟩ = some v4 := by
  intro W
  obtain ⟨e0, e1, e2, e3⟩ := cells4at v0 v1 v2 v3 h0 h1 h2 h3
  have e4 : ((((w.setCell ⟨g, 0, none⟩ v0).setCell ⟨g, 1, none⟩ v1).setCell ⟨g, 2, none⟩ v2).setCell ⟨g, 3, none⟩ v3).cell? ⟨g, 4, none⟩ = some x4 := by
    rw [World.cell?_setCell_other _ _ _ _ (by simp), World.cell?_setCell_other _ _ _ _ (by simp), World.cell?_setCell_other _ _ _ _ (by simp), World.cell?_setCell_other _ _ _ _ (by simp)]; exact h4
  exact ⟨by rw [World.cell?_setCell_other _ _ _ _ (by simp)]; exact e0, by rw [World.cell?_setCell_other _ _ _ _ (by simp)]; exact e1, by rw [World.cell?_setCell_other _ _ _ _ (by simp)]; exact e2, by rw [World.cell?_setCell_other _ _ _ _ (by simp)]; exact e3, World.cell?_setCell_same _ _ _ e4⟩
theorem boxSm_last {W v : World} {B : Nat} {r : SV} {a b : Option Addr} {c d : Nat} {T : TypeId} (hB : W.heap.size ≤ B) (hS : Sl v a (mag r.lo).length c (mag r.lo)) (hS' : Sl v b (mag r.hi).length d (mag r.hi)) (hF : Fr B a (mag r.lo).length) (hF' : Fr B b (mag r.hi).length) (hk : Hid (Kept [] W v)) :
    BoxSm W r (.pointer (some ⟨v.heap.size, 0, none⟩)) (v.alloc (.cells #[.int .i64 r.code, .bool (isNeg r.lo), .slice a (mag r.lo).length c, .bool (isNeg r.hi), .slice b (mag r.hi).length d] T)) :=
  ⟨v.heap.size, a, c, b, d, rfl, by rw [World.cell?_alloc_new]; rfl, by rw [World.cell?_alloc_new]; rfl, by rw [World.cell?_alloc_new]; rfl, by rw [World.cell?_alloc_new]; rfl, by rw [World.cell?_alloc_new]; rfl, hk.out.size, by simp, hS.kept0 ((Kept.refl [] v).alloc _), hS'.kept0 ((Kept.refl [] v).alloc _), hF.mono hB, hF'.mono hB, hk.out.alloc _⟩
theorem boxSm_set {W v : World} {B g : Nat} {r : SV} {a b : Option Addr} {c d : Nat} {x0 x1 x2 x3 x4 : Value} (hg : W.heap.size ≤ g) (hB : g < B) (hS : Sl v a (mag r.lo).length c (mag r.lo)) (hS' : Sl v b (mag r.hi).length d (mag r.hi)) (hF : Fr B a (mag r.lo).length) (hF' : Fr B b (mag r.hi).length)
    (h0 : v.cell? ⟨g, 0, none⟩ = some x0) (h1 : v.cell? ⟨g, 1, none⟩ = some x1) (h2 : v.cell? ⟨g, 2, none⟩ = some x2) (h3 : v.cell? ⟨g, 3, none⟩ = some x3) (h4 : v.cell? ⟨g, 4, none⟩ = some x4) (hk : Hid (Kept [] W v)) :
    BoxSm W r (.pointer (some ⟨g, 0, none⟩)) (((((v.setCell ⟨g, 0, none⟩ (.int .i64 r.code)).setCell ⟨g, 1, none⟩ (.bool (isNeg r.lo))).setCell ⟨g, 2, none⟩ (.slice a (mag r.lo).length c)).setCell ⟨g, 3, none⟩ (.bool (isNeg r.hi))).setCell ⟨g, 4, none⟩ (.slice b (mag r.hi).length d)) := by
  obtain ⟨e0, e1, e2, e3, e4⟩ := cells5at (.int .i64 r.code) (.bool (isNeg r.lo)) (.slice a (mag r.lo).length c) (.bool (isNeg r.hi)) (.slice b (mag r.hi).length d) h0 h1 h2 h3 h4
  have hlt := World.block_lt_of_cell? v _ h0
  have hq := (Kept.set5 (v1 := .int .i64 r.code) (v2 := .bool (isNeg r.lo)) (v3 := .slice a (mag r.lo).length c) (v4 := .bool (isNeg r.hi)) (v5 := .slice b (mag r.hi).length d) (Lib.hid (Kept.refl [g] v))).out
  exact ⟨g, a, c, b, d, rfl, e0, e1, e2, e3, e4, hg, Nat.lt_of_lt_of_le hlt hq.size, hS.kept hq (fun hn x hx => by have := hF hn x hx; simp; omega), hS'.kept hq (fun hn x hx => by have := hF' hn x hx; simp; omega), hF.mono (by omega), hF'.mono (by omega), (Kept.set5n hk hg).out⟩
theorem boxS_last {W v : World} {B : Nat} {r : SV} {a b : Option Addr} {c d : Nat} {T : TypeId} (hB : W.heap.size ≤ B) (hS : Sl v a (mag r.lo).length c (mag r.lo)) (hS' : Sl v b (mag r.hi).length d (mag r.hi)) (hF : Fr B a (mag r.lo).length) (hF' : Fr B b (mag r.hi).length) (hne : ∀ x y, 0 < (mag r.lo).length → 0 < (mag r.hi).length → a = some x → b = some y → x.block ≠ y.block) (hk : Hid (Kept [] W v)) :
    BoxS W r (.pointer (some ⟨v.heap.size, 0, none⟩)) (v.alloc (.cells #[.int .i64 r.code, .bool (isNeg r.lo), .slice a (mag r.lo).length c, .bool (isNeg r.hi), .slice b (mag r.hi).length d] T)) :=
  ⟨v.heap.size, a, c, b, d, rfl, by rw [World.cell?_alloc_new]; rfl, by rw [World.cell?_alloc_new]; rfl, by rw [World.cell?_alloc_new]; rfl, by rw [World.cell?_alloc_new]; rfl, by rw [World.cell?_alloc_new]; rfl, hk.out.size, by simp, hS.kept0 ((Kept.refl [] v).alloc _), hS'.kept0 ((Kept.refl [] v).alloc _), hF.mono hB, hF'.mono hB, hne, hk.out.alloc _⟩
theorem boxS_set {W v : World} {B g : Nat} {r : SV} {a b : Option Addr} {c d : Nat} {x0 x1 x2 x3 x4 : Value} (hg : W.heap.size ≤ g) (hB : g < B) (hS : Sl v a (mag r.lo).length c (mag r.lo)) (hS' : Sl v b (mag r.hi).length d (mag r.hi)) (hF : Fr B a (mag r.lo).length) (hF' : Fr B b (mag r.hi).length) (hne : ∀ x y, 0 < (mag r.lo).length → 0 < (mag r.hi).length → a = some x → b = some y → x.block ≠ y.block)
    (h0 : v.cell? ⟨g, 0, none⟩ = some x0) (h1 : v.cell? ⟨g, 1, none⟩ = some x1) (h2 : v.cell? ⟨g, 2, none⟩ = some x2) (h3 : v.cell? ⟨g, 3, none⟩ = some x3) (h4 : v.cell? ⟨g, 4, none⟩ = some x4) (hk : Hid (Kept [] W v)) :
    BoxS W r (.pointer (some ⟨g, 0, none⟩)) (((((v.setCell ⟨g, 0, none⟩ (.int .i64 r.code)).setCell ⟨g, 1, none⟩ (.bool (isNeg r.lo))).setCell ⟨g, 2, none⟩ (.slice a (mag r.lo).length c)).setCell ⟨g, 3, none⟩ (.bool (isNeg r.hi))).setCell ⟨g, 4, none⟩ (.slice b (mag r.hi).length d)) := by
  obtain ⟨e0, e1, e2, e3, e4⟩ := cells5at (.int .i64 r.code) (.bool (isNeg r.lo)) (.slice a (mag r.lo).length c) (.bool (isNeg r.hi)) (.slice b (mag r.hi).length d) h0 h1 h2 h3 h4
  have hlt := World.block_lt_of_cell? v _ h0
  have hq := (Kept.set5 (v1 := .int .i64 r.code) (v2 := .bool (isNeg r.lo)) (v3 := .slice a (mag r.lo).length c) (v4 := .bool (isNeg r.hi)) (v5 := .slice b (mag r.hi).length d) (Lib.hid (Kept.refl [g] v))).out
  exact ⟨g, a, c, b, d, rfl, e0, e1, e2, e3, e4, hg, Nat.lt_of_lt_of_le hlt hq.size, hS.kept hq (fun hn x hx => by have := hF hn x hx; simp; omega), hS'.kept hq (fun hn x hx => by have := hF' hn x hx; simp; omega), hF.mono (by omega), hF'.mono (by omega), hne, (Kept.set5n hk hg).out⟩

end Go.Proofs.Ytlhiahhpmjiioaa
