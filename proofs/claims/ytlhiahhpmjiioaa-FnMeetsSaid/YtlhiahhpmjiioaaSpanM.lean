/-
  The least and the greatest of two; the model's l3Hull. Conditions: no fault.
-/
import Derived.Deep.RegionHeld3
import Derived.Deep.DrawnRows
import Derived.Deep.DeepCutAuto
import Derived.Test.YtlhiahhpmjiioaaSpanK
import Derived.Test.YtlhiahhpmjiioaaSpanG
namespace Go.Proofs.Ytlhiahhpmjiioaa
open Go.RowKit

theorem drew_alloc_cell2 {w : World} {o : Obj} {p : Addr} {v : Value} (h : w.drew.cell? p = some v) : (w.alloc o).drew.cell? p = some v := alloc_cell (w := w) h
theorem Kept.drewAlloc2H {L : List Nat} {W w : World} {o : Obj} (h : Hid (Kept L W w.drew)) : Hid (Kept L W (w.alloc o).drew) := Lib.hid (((Kept.trans0 h.out (⟨rfl, rfl, rfl, Nat.le_refl _, fun _ _ _ => rfl⟩ : Kept [] w.drew w)).alloc o).drew)
theorem Kept.drewAllocH {L : List Nat} {W w : World} {o : Obj} (h : Hid (Kept L W w)) : Hid (Kept L W (w.alloc o).drew) := Lib.hid ((h.out.alloc o).drew)
theorem Kept.drewH {L : List Nat} {W w : World} (h : Hid (Kept L W w)) : Hid (Kept L W w.drew) := Lib.hid h.out.drew
/-- A call that answers a big that is the number z, wherever its limbs lie. -/
def BigN (w : World) (z : Int) (e : Ending) (w' : World) : Prop :=
  ∃ a c, e = .returned (.agg #[.bool (isNeg z), .slice a (mag z).length c]) ∧ Sl w' a (mag z).length c (mag z) ∧ Kept [] w w'
theorem rowB2_at {U W : World} {g : Nat} {p q : Bool} {a b : Option Addr} {n c m d : Nat} {xs ys : List Int} {T : TypeId} (hW : W = U.alloc (.cells #[.bool p, .slice a n c, .bool q, .slice b m d] T)) (hg : g = U.heap.size) :
    RowB W g [⟨p, a, n, c, xs⟩, ⟨q, b, m, d, ys⟩] := by
  subst hW hg
  intro j hj
  match j, hj with
  | 0, _ => exact ⟨by rw [World.cell?_alloc_new]; rfl, by rw [World.cell?_alloc_new]; rfl⟩
  | 1, _ => exact ⟨by rw [World.cell?_alloc_new]; rfl, by rw [World.cell?_alloc_new]; rfl⟩
theorem RowB.alloc {w : World} {g : Nat} {l : List BE} (h : RowB w g l) (o : Obj) : RowB (w.alloc o) g l := h.kept ((Kept.refl [] w).alloc o) (by simp)
theorem RowB.drew {w : World} {g : Nat} {l : List BE} (h : RowB w g l) : RowB w.drew g l := h.kept ((Kept.refl [] w).drew) (by simp)
theorem okB2 {w : World} {p q : Bool} {a b : Option Addr} {n c m d : Nat} {xs ys : List Int} (h : Sl w a n c xs) (h' : Sl w b m d ys) (hx : BigOk p xs) (hy : BigOk q ys) : OkB w [⟨p, a, n, c, xs⟩, ⟨q, b, m, d, ys⟩] := fun u hu => by
  rcases List.mem_cons.1 hu with rfl | hu
  · exact ⟨h, hx⟩
  · rcases List.mem_cons.1 hu with rfl | hu
    · exact ⟨h', hy⟩
    · cases hu
theorem pick2_lt {e f : BE} : (pickF ltZ e [f]).z = minZ e.z f.z := by
  unfold pickF pickF ltZ minZ
  by_cases h : f.z < e.z
  · rw [if_pos (decide_eq_true h), if_pos h]
  · rw [if_neg (by simpa using h), if_neg h]
theorem pick2_gt {e f : BE} : (pickF gtZ e [f]).z = maxZ e.z f.z := by
  unfold pickF pickF gtZ maxZ
  by_cases h : e.z < f.z
  · rw [if_pos (decide_eq_true h), if_pos h]
  · rw [if_neg (by simpa using h), if_neg h]
theorem bigN_of {w w' : World} {l : List BE} {b : BE} {e : Ending} (hb : b ∈ l) (ho : OkB w l) (h : Val w b.val e w') : BigN w b.z e w' := by
  obtain ⟨rfl, hk⟩ := h
  obtain ⟨hs, hok⟩ := ho b hb
  have h1 : isNeg b.z = b.neg := hok.isNeg
  have h2 : mag b.z = b.limbs := hok.mag
  have h3 := hs.1
  refine ⟨b.ptr, b.cap, ?_, ?_, hk⟩
  · rw [h1, h2, h3]; rfl
  · rw [h2, h3]; exact hs.kept0 hk
theorem l3Least_two (g : Nat) (p q : Bool) (a b : Option Addr) (n c m d : Nat) (xs ys : List Int) (z : Int) (w : World) (h : RowB w g [⟨p, a, n, c, xs⟩, ⟨q, b, m, d, ys⟩]) (h1 : Sl w a n c xs) (h2 : Sl w b m d ys) (hx : BigOk p xs) (hy : BigOk q ys) (hz : z = minZ (sv p xs) (sv q ys)) :
    Calls Try.prog 33 #[.slice (some ⟨g, 0, none⟩) 2 2] w (BigV w.heap.size w z) := by
  have e := l3Least_any g ⟨p, a, n, c, xs⟩ [⟨q, b, m, d, ys⟩] w h (okB2 h1 h2 hx hy) (by simp)
  rw [pick2_lt] at e
  subst hz
  exact e
theorem l3Most_two (g : Nat) (p q : Bool) (a b : Option Addr) (n c m d : Nat) (xs ys : List Int) (z : Int) (w : World) (h : RowB w g [⟨p, a, n, c, xs⟩, ⟨q, b, m, d, ys⟩]) (h1 : Sl w a n c xs) (h2 : Sl w b m d ys) (hx : BigOk p xs) (hy : BigOk q ys) (hz : z = maxZ (sv p xs) (sv q ys)) :
    Calls Try.prog 32 #[.slice (some ⟨g, 0, none⟩) 2 2] w (BigV w.heap.size w z) := by
  have e := l3Most_any g ⟨p, a, n, c, xs⟩ [⟨q, b, m, d, ys⟩] w h (okB2 h1 h2 hx hy) (by simp)
  rw [pick2_gt] at e
  subst hz
  exact e
theorem leastOf_isBelow_two (g : Nat) (p q : Bool) (a b : Option Addr) (n c m d : Nat) (xs ys : List Int) (z : Int) (w : World) (h : RowB w g [⟨p, a, n, c, xs⟩, ⟨q, b, m, d, ys⟩]) (h1 : Sl w a n c xs) (h2 : Sl w b m d ys) (hx : BigOk p xs) (hy : BigOk q ys) (hz : z = minZ (sv p xs) (sv q ys)) :
    Calls Try.prog 25 #[.func (.func 27) #[] #[], .slice (some ⟨g, 0, none⟩) 2 2] w (BigN w z) := by
  have e := leastOf_isBelow g ⟨p, a, n, c, xs⟩ [⟨q, b, m, d, ys⟩] w h (okB2 h1 h2 hx hy) (by simp)
  have hm : pickF ltZ ⟨p, a, n, c, xs⟩ [⟨q, b, m, d, ys⟩] ∈ [(⟨p, a, n, c, xs⟩ : BE), ⟨q, b, m, d, ys⟩] := by
    rcases pick_mem ltZ [⟨q, b, m, d, ys⟩] ⟨p, a, n, c, xs⟩ with h | h
    · rw [h]; exact List.mem_cons_self
    · exact List.mem_cons_of_mem _ h
  have hz' : z = (pickF ltZ ⟨p, a, n, c, xs⟩ [⟨q, b, m, d, ys⟩]).z := by rw [pick2_lt]; exact hz
  subst hz'
  exact e.mono fun e9 w9 h9 => bigN_of hm (okB2 h1 h2 hx hy) h9
theorem leastOf_isAbove_two (g : Nat) (p q : Bool) (a b : Option Addr) (n c m d : Nat) (xs ys : List Int) (z : Int) (w : World) (h : RowB w g [⟨p, a, n, c, xs⟩, ⟨q, b, m, d, ys⟩]) (h1 : Sl w a n c xs) (h2 : Sl w b m d ys) (hx : BigOk p xs) (hy : BigOk q ys) (hz : z = maxZ (sv p xs) (sv q ys)) :
    Calls Try.prog 25 #[.func (.func 26) #[] #[], .slice (some ⟨g, 0, none⟩) 2 2] w (BigN w z) := by
  have e := leastOf_isAbove g ⟨p, a, n, c, xs⟩ [⟨q, b, m, d, ys⟩] w h (okB2 h1 h2 hx hy) (by simp)
  have hm : pickF gtZ ⟨p, a, n, c, xs⟩ [⟨q, b, m, d, ys⟩] ∈ [(⟨p, a, n, c, xs⟩ : BE), ⟨q, b, m, d, ys⟩] := by
    rcases pick_mem gtZ [⟨q, b, m, d, ys⟩] ⟨p, a, n, c, xs⟩ with h | h
    · rw [h]; exact List.mem_cons_self
    · exact List.mem_cons_of_mem _ h
  have hz' : z = (pickF gtZ ⟨p, a, n, c, xs⟩ [⟨q, b, m, d, ys⟩]).z := by rw [pick2_gt]; exact hz
  subst hz'
  exact e.mono fun e9 w9 h9 => bigN_of hm (okB2 h1 h2 hx hy) h9

set_option maxHeartbeats 8000000 in
set_option maxRecDepth 20000 in
theorem l3Hull_any (p q : Bool) (a b : Option Addr) (n c m d : Nat) (xs ys : List Int) (p' q' : Bool) (a' b' : Option Addr) (n' c' m' d' : Nat) (xs' ys' : List Int) (t1 t2 : Int) (w : World) (h1 : Sl w a n c xs) (h2 : Sl w b m d ys) (h3 : Sl w a' n' c' xs') (h4 : Sl w b' m' d' ys') (ox : SpanOk p xs q ys) (oy : SpanOk p' xs' q' ys') (hz1 : t1 = minZ (sv p xs) (sv p' xs')) (hz2 : t2 = maxZ (sv q ys) (sv q' ys')) :
    Calls Try.prog 36 #[.agg #[.bool p, .slice a n c, .bool q, .slice b m d], .agg #[.bool p', .slice a' n' c', .bool q', .slice b' m' d']] w (SpanV w t1 t2) := by
  have H1 := Lib.hid h1
  have H2 := Lib.hid h2
  have H3 := Lib.hid h3
  have H4 := Lib.hid h4
  clear h1 h2 h3 h4
  have B1 := Lib.hid ox.lo
  have B2 := Lib.hid ox.hi
  have B3 := Lib.hid oy.lo
  have B4 := Lib.hid oy.hi
  have HZ1 := Lib.hid hz1
  have HZ2 := Lib.hid hz2
  clear hz1 hz2 ox oy
  have F1 := Lib.hid H1.out.lt
  have F2 := Lib.hid H2.out.lt
  have F3 := Lib.hid H3.out.lt
  have F4 := Lib.hid H4.out.lt
  go_enter Try.func36, Try.ntmps36
  go_upto_region 1 with fail
  generalize hW : (((w.alloc (.cells #[.bool p, .slice a n c, .bool q, .slice b m d] 28)).alloc (.cells #[.bool p', .slice a' n' c', .bool q', .slice b' m' d'] 28)).alloc (.cells #[.bool false, .slice none 0 0, .bool false, .slice none 0 0] 28)) = ww0
  have hkk : Kept [] (((w.alloc (.cells #[.bool p, .slice a n c, .bool q, .slice b m d] 28)).alloc (.cells #[.bool p', .slice a' n' c', .bool q', .slice b' m' d'] 28)).alloc (.cells #[.bool false, .slice none 0 0, .bool false, .slice none 0 0] 28)) ww0 := by rw [hW]; exact Kept.refl _ _
  have zzA : w.heap.size + 1 + 1 + 1 = ww0.heap.size := by rw [← hW]; simp
  obtain ⟨⟨nA0, nA1, nA2, nA3⟩, _⟩ := tp4 hkk.peel.peel (g := w.heap.size) (by simp) (by simp)
  obtain ⟨⟨nB0, nB1, nB2, nB3⟩, _⟩ := tp4 hkk.peel (g := w.heap.size + 1) (by simp) (by simp)
  obtain ⟨⟨nR0, nR1, nR2, nR3⟩, fR0, fR1, fR2, fR3⟩ := tp4 hkk (g := w.heap.size + 1 + 1) (by simp) (by simp)
  have hk := hkk.peel.peel.peel
  clear hkk hW
  have z0 := hk.size
  have KT := Lib.hid hk
  clear hk
  replace H1 := Lib.hid (H1.out.kept0 KT.out)
  replace H2 := Lib.hid (H2.out.kept0 KT.out)
  replace H3 := Lib.hid (H3.out.kept0 KT.out)
  replace H4 := Lib.hid (H4.out.kept0 KT.out)
  have tA0 := nA0.out
  have tA1 := nA1.out
  have tA2 := nA2.out
  have tA3 := nA3.out
  have tB0 := nB0.out
  have tB1 := nB1.out
  have tB2 := nB2.out
  have tB3 := nB3.out
  have kr := Lib.hid (Kept.refl [w.heap.size + 1 + 1] ww0)
  go_region_held3 (fun w' => w'.cell? ⟨w.heap.size, 0, none⟩ = some (.bool p) ∧ w'.cell? ⟨w.heap.size, 1, none⟩ = some (.slice a n c) ∧ w'.cell? ⟨w.heap.size, 2, none⟩ = some (.bool q) ∧ w'.cell? ⟨w.heap.size, 3, none⟩ = some (.slice b m d) ∧ w'.cell? ⟨w.heap.size + 1, 0, none⟩ = some (.bool p') ∧ w'.cell? ⟨w.heap.size + 1, 1, none⟩ = some (.slice a' n' c') ∧ w'.cell? ⟨w.heap.size + 1, 2, none⟩ = some (.bool q') ∧ w'.cell? ⟨w.heap.size + 1, 3, none⟩ = some (.slice b' m' d') ∧ Hid (Kept [w.heap.size + 1 + 1] ww0 w'))
    ((go_split_ands; (try refine ⟨?_, ?_, ?_, ?_, ?_, ?_, ?_, ?_, ?_⟩) <;> with_reducible first | assumption | exact Kept.set4 (by assumption) | exact cell_set4 (by assumption) (by simp <;> omega) | exact drew_alloc_cell (by assumption) | exact drew_alloc_cell2 (by assumption) | exact drew_cell (by assumption) | exact alloc_cell (by assumption) | exact Lib.hid (Kept.trans0 (Hid.out (by assumption)) (by assumption)) | exact Kept.cell (by assumption) (by assumption) (by simp) | exact Kept.allocH (by assumption) | exact Kept.drewAlloc2H (by assumption) | exact Kept.drewAllocH (by assumption) | exact Kept.drewH (by assumption)))
    (first
      | (go_at_call 33; go_split_ands; refine (l3Least_two _ _ _ _ _ _ _ _ _ _ _ _ _ (by first | assumption | exact rowB2_at rfl (by simp) | exact RowB.drew (rowB2_at rfl (by simp)) | exact RowB.alloc (rowB2_at rfl (by simp)) _ | exact RowB.drew (RowB.alloc (rowB2_at rfl (by simp)) _)) (H1.out.kept (Hid.out (by assumption)) (fun hn y hy hm => by have h9 := F1.out hn y hy; simp at hm; omega)) (H3.out.kept (Hid.out (by assumption)) (fun hn y hy hm => by have h9 := F3.out hn y hy; simp at hm; omega)) B1.out B3.out HZ1.out).mono ?_; rintro e v1 ⟨a1, c1, rfl, hs1, hf1, hk1⟩; have hf1 := hf1.mono (B' := ww0.heap.size) (Hid.out (by assumption : Hid (Kept [w.heap.size + 1 + 1] ww0 _))).size; have k1 : Kept [] ww0 v1 := Kept.trans0 (by with_reducible repeat (first | exact Kept.refl _ _ | refine Kept.drew ?_ | refine Kept.alloc ?_ _)) hk1; (first | (have rw2 : RowB v1 (ww0.heap.size + 1) [⟨q, b, m, d, ys⟩, ⟨q', b', m', d', ys'⟩] := (by first | exact RowB.kept (rowB2_at rfl (by simp)) hk1 (by simp) | exact RowB.kept (RowB.drew (rowB2_at rfl (by simp))) hk1 (by simp))) | (have rw2 : RowB v1 (ww0.heap.size) [⟨q, b, m, d, ys⟩, ⟨q', b', m', d', ys'⟩] := (by first | exact RowB.kept (RowB.alloc (rowB2_at rfl (by simp)) _) hk1 (by simp) | exact RowB.kept (RowB.drew (RowB.alloc (rowB2_at rfl (by simp)) _)) hk1 (by simp))) | skip))
      | (go_at_call 32; go_split_ands; refine (l3Most_two _ _ _ _ _ _ _ _ _ _ _ _ _ (by first | assumption | exact rowB2_at rfl (by simp) | exact RowB.drew (rowB2_at rfl (by simp)) | exact RowB.alloc (rowB2_at rfl (by simp)) _ | exact RowB.drew (RowB.alloc (rowB2_at rfl (by simp)) _)) (H2.out.kept (Hid.out (by assumption)) (fun hn y hy hm => by have h9 := F2.out hn y hy; simp at hm; omega)) (H4.out.kept (Hid.out (by assumption)) (fun hn y hy hm => by have h9 := F4.out hn y hy; simp at hm; omega)) B2.out B4.out HZ2.out).mono ?_; rintro e v2 ⟨a2, c2, rfl, hs2, hf2, hk2⟩; have hf2 := hf2.mono (B' := ww0.heap.size) (Hid.out (by assumption : Hid (Kept [w.heap.size + 1 + 1] ww0 _))).size; have k12 : Kept [] v1 v2 := Kept.trans0 (by with_reducible repeat (first | exact Kept.refl _ _ | refine Kept.drew ?_ | refine Kept.alloc ?_ _)) hk2; have k2 : Kept [] ww0 v2 := k1.trans0 k12; have rg0 := k2.cell (p := ⟨w.heap.size + 1 + 1, 0, none⟩) nR0.out (by simp); have rg1 := k2.cell (p := ⟨w.heap.size + 1 + 1, 1, none⟩) nR1.out (by simp); have rg2 := k2.cell (p := ⟨w.heap.size + 1 + 1, 2, none⟩) nR2.out (by simp); have rg3 := k2.cell (p := ⟨w.heap.size + 1 + 1, 3, none⟩) nR3.out (by simp); have ru0 := k2.free' (p := ⟨w.heap.size + 1 + 1, 0, none⟩) nR0.out fR0.out (by simp); have ru1 := k2.free' (p := ⟨w.heap.size + 1 + 1, 1, none⟩) nR1.out fR1.out (by simp); have ru2 := k2.free' (p := ⟨w.heap.size + 1 + 1, 2, none⟩) nR2.out fR2.out (by simp); have ru3 := k2.free' (p := ⟨w.heap.size + 1 + 1, 3, none⟩) nR3.out fR3.out (by simp)))
  all_goals (clear tA0 tA1 tA2 tA3 tB0 tB1 tB2 tB3)
  all_goals
    have hs1 := hs1.kept0 k12
    have hk := k2
    have z1 := hk.size
    replace fR0 := kf hk nR0 fR0
    replace fR1 := kf hk nR1 fR1
    replace fR2 := kf hk nR2 fR2
    replace fR3 := kf hk nR3 fR3
    replace nA0 := kc hk nA0
    replace nA1 := kc hk nA1
    replace nA2 := kc hk nA2
    replace nA3 := kc hk nA3
    replace nB0 := kc hk nB0
    replace nB1 := kc hk nB1
    replace nB2 := kc hk nB2
    replace nB3 := kc hk nB3
    replace nR0 := kc hk nR0
    replace nR1 := kc hk nR1
    replace nR2 := kc hk nR2
    replace nR3 := kc hk nR3
    replace H1 := Lib.hid (H1.out.kept0 hk)
    replace H2 := Lib.hid (H2.out.kept0 hk)
    replace H3 := Lib.hid (H3.out.kept0 hk)
    replace H4 := Lib.hid (H4.out.kept0 hk)
    replace KT := Lib.hid (KT.out.trans0 hk)
    clear hk
    have hs1 := Lib.hid hs1
    have hs2 := Lib.hid hs2
    have G1 := Lib.hid (hf1.mono (B' := w.heap.size + 1 + 1 + 1) (by omega))
    have G2 := Lib.hid (hf2.mono (B' := w.heap.size + 1 + 1 + 1) (by omega))
    clear hf1 hf2
    obtain ⟨p9, hp9⟩ : ∃ r, r = isNeg t1 := ⟨_, rfl⟩
    obtain ⟨q9, hq9⟩ : ∃ r, r = isNeg t2 := ⟨_, rfl⟩
    rw [← hp9, ← hq9]
    generalize hW : ((((v2.setCell ⟨w.heap.size + 1 + 1, 0, none⟩ (.bool p9)).setCell ⟨w.heap.size + 1 + 1, 1, none⟩ (.slice a1 (mag t1).length c1)).setCell ⟨w.heap.size + 1 + 1, 2, none⟩ (.bool q9)).setCell ⟨w.heap.size + 1 + 1, 3, none⟩ (.slice a2 (mag t2).length c2)) = ww2
    have hk : Kept [w.heap.size + 1 + 1] v2 ww2 := by rw [← hW]; exact ((((Kept.refl _ _).setCell _ _ (by simp)).setCell _ _ (by simp)).setCell _ _ (by simp)).setCell _ _ (by simp)
    have hfz : ∀ x, ww2.frozen? x = v2.frozen? x := by rw [← hW]; intro x; simp only [World.frozen?_setCell]
    obtain ⟨e0, e1, e2, e3⟩ := st4 hW.symm nR0.out nR1.out nR2.out nR3.out
    have z2 := hk.size
    replace fR0 := kz hfz fR0
    replace fR1 := kz hfz fR1
    replace fR2 := kz hfz fR2
    replace fR3 := kz hfz fR3
    replace nA0 := kd hk nA0 (by simp <;> omega)
    replace nA1 := kd hk nA1 (by simp <;> omega)
    replace nA2 := kd hk nA2 (by simp <;> omega)
    replace nA3 := kd hk nA3 (by simp <;> omega)
    replace nB0 := kd hk nB0 (by simp <;> omega)
    replace nB1 := kd hk nB1 (by simp <;> omega)
    replace nB2 := kd hk nB2 (by simp <;> omega)
    replace nB3 := kd hk nB3 (by simp <;> omega)
    replace H1 := Lib.hid (H1.out.kept hk (fun hn y hy hm => by have h9 := F1.out hn y hy; simp at hm; omega))
    replace H2 := Lib.hid (H2.out.kept hk (fun hn y hy hm => by have h9 := F2.out hn y hy; simp at hm; omega))
    replace H3 := Lib.hid (H3.out.kept hk (fun hn y hy hm => by have h9 := F3.out hn y hy; simp at hm; omega))
    replace H4 := Lib.hid (H4.out.kept hk (fun hn y hy hm => by have h9 := F4.out hn y hy; simp at hm; omega))
    replace hs1 := Lib.hid (hs1.out.kept hk (fun hn y hy hm => by have h9 := G1.out hn y hy; simp at hm; omega))
    replace hs2 := Lib.hid (hs2.out.kept hk (fun hn y hy hm => by have h9 := G2.out hn y hy; simp at hm; omega))
    replace nR0 := Lib.hid e0
    replace nR1 := Lib.hid e1
    replace nR2 := Lib.hid e2
    replace nR3 := Lib.hid e3
    replace KT := Lib.hid (KT.out.trans hk (fun x hx hlt => by simp at hx; omega))
    clear hk hfz hW e0 e1 e2 e3
    have HP := Lib.hid hp9
    have HQ := Lib.hid hq9
    clear hp9 hq9
    go_wp2_with fail
    have e0 := nR0.out
    have e1 := nR1.out
    have e2 := nR2.out
    have e3 := nR3.out
    refine bodyPost_ret (v := .agg #[.bool p9, .slice a1 (mag t1).length c1, .bool q9, .slice a2 (mag t2).length c2]) (by simp [results, Try.results36, go_sem, e0, e1, e2, e3]) rfl ?_
    exact spanV_fin HP.out HQ.out hs1.out hs2.out (G1.out.mono (by omega)) (G2.out.mono (by omega)) KT.out

end Go.Proofs.Ytlhiahhpmjiioaa
