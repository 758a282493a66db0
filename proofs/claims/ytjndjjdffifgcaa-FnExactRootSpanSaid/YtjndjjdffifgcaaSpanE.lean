/-
  Contracts of copyOfEnd, spanResult and the model's l3Whole. Conditions: the limbs read as lists of numbers.
-/
import Derived.Deep.RegionHeld3
import Derived.Deep.DrawnRows
import Derived.Deep.DeepCutAuto
import Derived.Test.YtjndjjdffifgcaaSpanD
import Derived.Test.YtjndjjdffifgcaaCopy
import Derived.Test.YtjndjjdffifgcaaPlainT
namespace Go.Proofs.Ytjndjjdffifgcaa
open Go.RowKit

/-- A call that answers a big whose limbs are copied into a row of 20 of their own. -/
def CopyR (w : World) (p : Bool) (n : Nat) (xs : List Int) (e : Ending) (w' : World) : Prop :=
  ∃ g, e = .returned (.agg #[.bool p, .slice (some ⟨g, 0, none⟩) n 20]) ∧ Sl w' (some ⟨g, 0, none⟩) n 20 xs ∧ w.heap.size ≤ g ∧ g < w'.heap.size ∧ Kept [] w w'
/-- A call that answers a span's result: a code, and two ends in new memory of their own. -/
def SpanR (w : World) (r : SV) (e : Ending) (w' : World) : Prop :=
  ∃ a c b d, e = .returned (.agg #[.int .i64 r.code, .bool (isNeg r.lo), .slice a (mag r.lo).length c, .bool (isNeg r.hi), .slice b (mag r.hi).length d]) ∧ Sl w' a (mag r.lo).length c (mag r.lo) ∧ Sl w' b (mag r.hi).length d (mag r.hi) ∧
    Fr w.heap.size a (mag r.lo).length ∧ Fr w.heap.size b (mag r.hi).length ∧ (∀ x y, 0 < (mag r.lo).length → 0 < (mag r.hi).length → a = some x → b = some y → x.block ≠ y.block) ∧ Kept [] w w'
theorem noSpan_ends (f : Int) : (noSpan f).code = f ∧ isNeg (noSpan f).lo = false ∧ mag (noSpan f).lo = [] ∧ isNeg (noSpan f).hi = false ∧ mag (noSpan f).hi = [] := by
  unfold noSpan; exact ⟨rfl, isNeg_no (Int.le_refl 0), mag_zero, isNeg_no (Int.le_refl 0), mag_zero⟩
theorem spanR_no {w w' : World} {f : Int} (hk : Kept [] w w') : SpanR w (noSpan f) (.returned (.agg #[.int .i64 f, .bool false, .slice none 0 0, .bool false, .slice none 0 0])) w' := by
  obtain ⟨h1, h2, h3, h4, h5⟩ := noSpan_ends f
  refine ⟨none, 0, none, 0, ?_, ?_, ?_, fun h => by rw [h3] at h; simp at h, fun h => by rw [h5] at h; simp at h, fun _ _ h => by rw [h3] at h; simp at h, hk⟩
  · rw [h1, h2, h3, h4, h5]; rfl
  · rw [h3]; exact Sl.nil _
  · rw [h5]; exact Sl.nil _
theorem spanR_fin {w w' : World} {lo hi : Int} {a b : Option Addr} {n c m d : Nat} {p q : Bool} (hp : p = isNeg lo) (hq : q = isNeg hi) (hn : (mag lo).length = n) (hm : (mag hi).length = m) (hS : Sl w' a n c (mag lo)) (hS' : Sl w' b m d (mag hi))
    (hF : Fr w.heap.size a n) (hF' : Fr w.heap.size b m) (hne : ∀ x y, 0 < n → 0 < m → a = some x → b = some y → x.block ≠ y.block) (hk : Kept [] w w') : SpanR w ⟨0, lo, hi⟩ (.returned (.agg #[.int .i64 0, .bool p, .slice a n c, .bool q, .slice b m d])) w' := by
  subst hp hq hn hm; exact ⟨a, c, b, d, rfl, hS, hS', hF, hF', hne, hk⟩
theorem Kept.set5 {W w2 : World} {g : Nat} {v1 v2 v3 v4 v5 : Value} (h : Hid (Kept [g] W w2)) : Hid (Kept [g] W (((((w2.setCell ⟨g, 0, none⟩ v1).setCell ⟨g, 1, none⟩ v2).setCell ⟨g, 2, none⟩ v3).setCell ⟨g, 3, none⟩ v4).setCell ⟨g, 4, none⟩ v5)) :=
  Lib.hid (((((h.out.setCell _ _ (by simp)).setCell _ _ (by simp)).setCell _ _ (by simp)).setCell _ _ (by simp)).setCell _ _ (by simp))
theorem cell_set5 {w2 : World} {g : Nat} {p : Addr} {v v1 v2 v3 v4 v5 : Value} (h : w2.cell? p = some v) (hg : p.block ≠ g) : (((((w2.setCell ⟨g, 0, none⟩ v1).setCell ⟨g, 1, none⟩ v2).setCell ⟨g, 2, none⟩ v3).setCell ⟨g, 3, none⟩ v4).setCell ⟨g, 4, none⟩ v5).cell? p = some v :=
  (Kept.set5 (Lib.hid (Kept.refl [g] w2))).out.cell h (by simpa using hg)
theorem Kept.set4 {W w2 : World} {g : Nat} {v1 v2 v3 v4 : Value} (h : Hid (Kept [g] W w2)) : Hid (Kept [g] W ((((w2.setCell ⟨g, 0, none⟩ v1).setCell ⟨g, 1, none⟩ v2).setCell ⟨g, 2, none⟩ v3).setCell ⟨g, 3, none⟩ v4)) :=
  Lib.hid ((((h.out.setCell _ _ (by simp)).setCell _ _ (by simp)).setCell _ _ (by simp)).setCell _ _ (by simp))
theorem cell_set4 {w2 : World} {g : Nat} {p : Addr} {v v1 v2 v3 v4 : Value} (h : w2.cell? p = some v) (hg : p.block ≠ g) : ((((w2.setCell ⟨g, 0, none⟩ v1).setCell ⟨g, 1, none⟩ v2).setCell ⟨g, 2, none⟩ v3).setCell ⟨g, 3, none⟩ v4).cell? p = some v :=
  (Kept.set4 (Lib.hid (Kept.refl [g] w2))).out.cell h (by simpa using hg)

set_option maxHeartbeats 4000000 in
set_option maxRecDepth 20000 in
theorem copyOfEnd_any (p : Bool) (a : Option Addr) (n c : Nat) (xs : List Int) (w : World) (h : Sl w a n c xs) (hn : n ≤ 20) :
    Calls Try.prog 99 #[.agg #[.bool p, .slice a n c]] w (CopyR w p n xs) := by
  have HS := Lib.hid h
  have HL := Lib.hid h.1
  have FS := Lib.hid h.lt
  clear h
  go_enter Try.func99, Try.ntmps99
  go_upto_region 2 with fail
  have hA : ((((w.alloc (.cells #[.bool p, .slice a n c] 29)).alloc (.cells #[.bool false, .slice none 0 0] 29)).alloc (.cells #[.int .i64 0, .int .i64 0, .int .i64 0, .int .i64 0, .int .i64 0, .int .i64 0, .int .i64 0, .int .i64 0, .int .i64 0, .int .i64 0, .int .i64 0, .int .i64 0, .int .i64 0, .int .i64 0, .int .i64 0, .int .i64 0, .int .i64 0, .int .i64 0, .int .i64 0, .int .i64 0] 97))).heap[w.heap.size + 1 + 1]? = some (.cells (ints (List.replicate 20 0)) 97 (0, 0)) := by have h := heap_alloc_new ((w.alloc (.cells #[.bool p, .slice a n c] 29)).alloc (.cells #[.bool false, .slice none 0 0] 29)) (.cells #[.int .i64 0, .int .i64 0, .int .i64 0, .int .i64 0, .int .i64 0, .int .i64 0, .int .i64 0, .int .i64 0, .int .i64 0, .int .i64 0, .int .i64 0, .int .i64 0, .int .i64 0, .int .i64 0, .int .i64 0, .int .i64 0, .int .i64 0, .int .i64 0, .int .i64 0, .int .i64 0] 97); simp only [World.size_alloc] at h; exact h
  generalize hW : (((w.alloc (.cells #[.bool p, .slice a n c] 29)).alloc (.cells #[.bool false, .slice none 0 0] 29)).alloc (.cells #[.int .i64 0, .int .i64 0, .int .i64 0, .int .i64 0, .int .i64 0, .int .i64 0, .int .i64 0, .int .i64 0, .int .i64 0, .int .i64 0, .int .i64 0, .int .i64 0, .int .i64 0, .int .i64 0, .int .i64 0, .int .i64 0, .int .i64 0, .int .i64 0, .int .i64 0, .int .i64 0] 97)) = ww0
  rw [hW] at hA
  have hkk : Kept [] (((w.alloc (.cells #[.bool p, .slice a n c] 29)).alloc (.cells #[.bool false, .slice none 0 0] 29)).alloc (.cells #[.int .i64 0, .int .i64 0, .int .i64 0, .int .i64 0, .int .i64 0, .int .i64 0, .int .i64 0, .int .i64 0, .int .i64 0, .int .i64 0, .int .i64 0, .int .i64 0, .int .i64 0, .int .i64 0, .int .i64 0, .int .i64 0, .int .i64 0, .int .i64 0, .int .i64 0, .int .i64 0] 97)) ww0 := by rw [hW]; exact Kept.refl _ _
  have zzA : w.heap.size + 1 + 1 + 1 = ww0.heap.size := by rw [← hW]; simp
  have nA0 := Lib.hid (hkk.peel.peel.top (g := w.heap.size) (by simp) (by simp) 0 (v := .bool p) rfl).1
  have nA1 := Lib.hid (hkk.peel.peel.top (g := w.heap.size) (by simp) (by simp) 1 (v := .slice a n c) rfl).1
  have nR0 := Lib.hid (hkk.peel.top (g := w.heap.size + 1) (by simp) (by simp) 0 (v := .bool false) rfl).1
  have fR0 := Lib.hid (hkk.peel.top (g := w.heap.size + 1) (by simp) (by simp) 0 (v := .bool false) rfl).2.1
  have nR1 := Lib.hid (hkk.peel.top (g := w.heap.size + 1) (by simp) (by simp) 1 (v := .slice none 0 0) rfl).1
  have fR1 := Lib.hid (hkk.peel.top (g := w.heap.size + 1) (by simp) (by simp) 1 (v := .slice none 0 0) rfl).2.1
  have hk := hkk.peel.peel.peel
  clear hkk hW
  have z0 := hk.size
  have KT := Lib.hid hk
  clear hk
  replace HS := Lib.hid (HS.out.kept0 KT.out)
  have hm := HS.out.rd.2.2
  have hxl := HL.out
  have hsrc : 0 < (xs.map (Value.int .i64)).length → some (⟨w.heap.size + 1 + 1, 0, none⟩ : Addr) = some ⟨w.heap.size + 1 + 1, 0, none⟩ ∧ ∃ ad, a = some ad ∧ ∀ j v, (xs.map (Value.int .i64))[j]? = some v → ww0.drew.cell? (ad.add j) = some v := fun h0 => by
    rw [List.length_map] at h0
    obtain ⟨g', off, ha, _⟩ := hm 0 (by omega)
    refine ⟨rfl, _, ha, fun j v hj => ?_⟩
    obtain ⟨hj', rfl⟩ := getD_map hj
    obtain ⟨g2, off2, he, hc⟩ := hm j (by omega)
    rw [ha] at he
    cases he
    rw [Addr.add_lit]; exact hc
  have HSRC := Lib.hid hsrc
  have HA := Lib.hid hA
  clear hsrc hm hxl hA
  have hsz1 : (Try.prog.info? 2).map (·.size) = some 1 := by obtain ⟨i0, hi, hz0, hz1, hz2⟩ := info_parts Try.info64; rw [hi]; simp [hz1]
  have HSZ := Lib.hid hsz1
  clear hsz1
  have tA0 := nA0.out
  have tA1 := nA1.out
  go_region_law (refine step_copy_splice (by rfl) (.tmp 5) (.tmp 7) 22 22 (by rfl) 2 Try.underlying22 HSZ.out _ _ _ _ _ _ (by rfl) (by rfl) (w.heap.size + 1 + 1) 0 (ints (List.replicate 20 0)).toList 97 HA.out (xs.map (Value.int .i64)) (by rw [List.length_map, HL.out]; exact (Nat.min_eq_left hn).symm) HSRC.out (by rw [List.length_map, HL.out]; simp [ints]; omega) (fun v hv => by obtain ⟨_, _, rfl⟩ := List.mem_map.1 hv; rfl) (w.heap.size + 1 + 1) ww0 ⟨rfl, rfl, rfl, Nat.le_refl _, fun _ _ => rfl⟩ (Nat.le_refl _) ?_; intro w4 hg4 hb4)
  clear tA0 tA1
  obtain ⟨b1, b2, b3, b4, b5⟩ := hb4
  have hk : Kept [w.heap.size + 1 + 1] ww0 w4 := ⟨b1, b2, b3, b4, fun k hk hl => b5 k (by simp at hl; omega)⟩
  have hb : Blk w4 (w.heap.size + 1 + 1) xs := by
    refine ⟨(_, _), hg4.out, by simp [splice], fun k hk => ?_⟩
    show (splice (ints (List.replicate 20 0)).toList 0 (List.map (Value.int .i64) xs)).toArray[k]? = _
    simp [splice, List.getElem?_append, hk, List.getD_eq_getElem?_getD]
  have HB := Lib.hid hb
  clear b1 b2 b3 b4 b5 hg4 hb HSRC HA HSZ
  have z1 := hk.size
  replace fR0 := Lib.hid (hk.free' (p := ⟨w.heap.size + 1, 0, none⟩) nR0.out fR0.out (by simp <;> omega))
  replace fR1 := Lib.hid (hk.free' (p := ⟨w.heap.size + 1, 1, none⟩) nR1.out fR1.out (by simp <;> omega))
  replace nA0 := Lib.hid (hk.cell (p := ⟨w.heap.size, 0, none⟩) nA0.out (by simp <;> omega))
  replace nA1 := Lib.hid (hk.cell (p := ⟨w.heap.size, 1, none⟩) nA1.out (by simp <;> omega))
  replace nR0 := Lib.hid (hk.cell (p := ⟨w.heap.size + 1, 0, none⟩) nR0.out (by simp <;> omega))
  replace nR1 := Lib.hid (hk.cell (p := ⟨w.heap.size + 1, 1, none⟩) nR1.out (by simp <;> omega))
  replace HS := Lib.hid (HS.out.kept hk (fun hn y hy hm => by have h9 := FS.out hn y hy; simp at hm; omega))
  replace KT := Lib.hid (KT.out.trans hk (fun x hx hlt => by simp at hx; omega))
  clear hk
  rw [HL.out]
  have i0 : (0 : Int) ≤ (n : Int) := by omega
  have i1 : (n : Int) ≤ 20 := by omega
  have zB := HB.out.lt
  have tA0 := nA0.out
  have tA1 := nA1.out
  have tR0 := nR0.out
  have tR1 := nR1.out
  have uR0 := fR0.out
  have uR1 := fR1.out
  go_wp2_with fail
  go_region
  clear tA0 tA1 tR0 tR1 uR0 uR1
  generalize hW : ((w4.setCell ⟨w.heap.size + 1, 0, none⟩ (.bool p)).setCell ⟨w.heap.size + 1, 1, none⟩ (.slice (some ⟨w.heap.size + 1 + 1, 0, none⟩) n 20)).drew = ww2
  have hk : Kept [w.heap.size + 1] w4 ww2 := by rw [← hW]; exact (((Kept.refl _ _).setCell _ _ (by simp)).setCell _ _ (by simp)).drew
  have hfz : ∀ x, ww2.frozen? x = w4.frozen? x := by rw [← hW]; intro x; show ((w4.setCell ⟨w.heap.size + 1, 0, none⟩ (.bool p)).setCell ⟨w.heap.size + 1, 1, none⟩ (.slice (some ⟨w.heap.size + 1 + 1, 0, none⟩) n 20)).frozen? x = _; simp only [World.frozen?_setCell]
  have e0 : ww2.cell? ⟨w.heap.size + 1, 0, none⟩ = some (.bool p) := by rw [← hW]; show ((w4.setCell ⟨w.heap.size + 1, 0, none⟩ (.bool p)).setCell ⟨w.heap.size + 1, 1, none⟩ (.slice (some ⟨w.heap.size + 1 + 1, 0, none⟩) n 20)).cell? _ = _; rw [World.cell?_setCell_other _ _ _ _ (by simp)]; exact World.cell?_setCell_same _ _ _ (by exact nR0.out)
  have e1 : ww2.cell? ⟨w.heap.size + 1, 1, none⟩ = some (.slice (some ⟨w.heap.size + 1 + 1, 0, none⟩) n 20) := by rw [← hW]; show ((w4.setCell ⟨w.heap.size + 1, 0, none⟩ (.bool p)).setCell ⟨w.heap.size + 1, 1, none⟩ (.slice (some ⟨w.heap.size + 1 + 1, 0, none⟩) n 20)).cell? _ = _; exact World.cell?_setCell_same _ _ _ (by rw [World.cell?_setCell_other _ _ _ _ (by simp)]; exact nR1.out)
  have z2 := hk.size
  replace fR0 := Lib.hid (show ww2.frozen? ⟨w.heap.size + 1, 0, none⟩ = false by rw [hfz]; exact fR0.out)
  replace fR1 := Lib.hid (show ww2.frozen? ⟨w.heap.size + 1, 1, none⟩ = false by rw [hfz]; exact fR1.out)
  replace nA0 := Lib.hid (hk.cell (p := ⟨w.heap.size, 0, none⟩) nA0.out (by simp <;> omega))
  replace nA1 := Lib.hid (hk.cell (p := ⟨w.heap.size, 1, none⟩) nA1.out (by simp <;> omega))
  replace HS := Lib.hid (HS.out.kept hk (fun hn y hy hm => by have h9 := FS.out hn y hy; simp at hm; omega))
  replace HB := Lib.hid (hk.blk HB.out (by simp <;> omega))
  replace nR0 := Lib.hid e0
  replace nR1 := Lib.hid e1
  replace KT := Lib.hid (KT.out.trans hk (fun x hx hlt => by simp at hx; omega))
  clear hk hfz hW e0 e1
  go_wp2_with fail
  have e0 := nR0.out
  have e1 := nR1.out
  refine bodyPost_ret (v := .agg #[.bool p, .slice (some ⟨w.heap.size + 1 + 1, 0, none⟩) n 20]) (by simp [results, Try.results99, go_sem, e0, e1]) rfl ?_
  exact ⟨w.heap.size + 1 + 1, rfl, (by have h := Sl.ofBlkC (c := 20) HB.out (by rw [HL.out]; exact hn) (by omega); rw [HL.out] at h; exact h), by omega, by omega, KT.out⟩

end Go.Proofs.Ytjndjjdffifgcaa
