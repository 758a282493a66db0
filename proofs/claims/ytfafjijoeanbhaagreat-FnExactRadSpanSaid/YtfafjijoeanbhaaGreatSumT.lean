/-
 Contract of sumOfTerms over the terms of a series. Conditions: as said.
-/
import Derived.Deep.RegionHeld3
import Derived.Deep.DrawnRows
import Derived.Deep.DeepCutAuto
import Derived.Test.YtfafjijoeanbhaaGreatTerms
import Derived.Test.YtfafjijoeanbhaaGreatTermsB
import Derived.Test.YtfafjijoeanbhaaGreatArcSwing
import Derived.Test.YtfafjijoeanbhaaGreatBox4
namespace Go.Proofs.YtfafjijoeanbhaaGreat
open Go.RowKit Go.Shelf
attribute [local go_sem] Oper.semAt_some
attribute [local go_sem ↓] field_big field_span field_end0 field_end1

def OffL (L : List Nat) (a : Option Addr) (n : Nat) : Prop := 0 < n → ∀ x, a = some x → x.block ∉ L
/-- A box with a span that may be written; its ends lie in none of these blocks. -/
def SBox (L : List Nat) (w : World) (g : Nat) (t : Z2) : Prop :=
 ∃ a c b d, w.cell? ⟨g, 0, none⟩ = some (.bool (isNeg t.lo)) ∧ w.cell? ⟨g, 1, none⟩ = some (.slice a (mag t.lo).length c) ∧ w.cell? ⟨g, 2, none⟩ = some (.bool (isNeg t.hi)) ∧ w.cell? ⟨g, 3, none⟩ = some (.slice b (mag t.hi).length d) ∧
  w.frozen? ⟨g, 0, none⟩ = false ∧ w.frozen? ⟨g, 1, none⟩ = false ∧ w.frozen? ⟨g, 2, none⟩ = false ∧ w.frozen? ⟨g, 3, none⟩ = false ∧ Sl w a (mag t.lo).length c (mag t.lo) ∧ Sl w b (mag t.hi).length d (mag t.hi) ∧ OffL L a (mag t.lo).length ∧ OffL L b (mag t.hi).length
theorem SBox.kept {L K : List Nat} {w w' : World} {g : Nat} {t : Z2} (h : SBox L w g t) (k : Kept K w w') (hK : ∀ x, x ∈ K → x ∈ L) (hg : g ∉ K) : SBox L w' g t := by
 obtain ⟨a, c, b, d, c0, c1, c2, c3, f0, f1, f2, f3, s1, s2, o1, o2⟩ := h
 have hlt := World.block_lt_of_cell? w _ c0
 exact ⟨a, c, b, d, k.cell c0 hg, k.cell c1 hg, k.cell c2 hg, k.cell c3 hg, k.free f0 hlt hg, k.free f1 hlt hg, k.free f2 hlt hg, k.free f3 hlt hg,
  s1.kept k (fun hn y hy hm => o1 hn y hy (hK _ hm)), s2.kept k (fun hn y hy hm => o2 hn y hy (hK _ hm)), o1, o2⟩
/-- Two boxes, each with these cells. -/
def Two4 (w0 : World) (v0 v1 v2 v3 : Value) (T : TypeId) (s s' : Value) (w : World) : Prop :=
 ∃ g g', s = .pointer (some ⟨g, 0, none⟩) ∧ s' = .pointer (some ⟨g', 0, none⟩) ∧ w.heap[g]? = some (.cells #[v0, v1, v2, v3] T (0, 0)) ∧ w.heap[g']? = some (.cells #[v0, v1, v2, v3] T (0, 0)) ∧ w0.heap.size ≤ g ∧ w0.heap.size ≤ g' ∧ g ≠ g' ∧ Kept [] w0 w

/-- What a round's region knows: the function that adds, the term, and that nothing but the sum's box is written. -/
def RdS (w0 : World) (g5 g7 gt : Nat) (f v0 v1 v2 v3 : Value) (w : World) : Prop :=
 w.cell? ⟨g5, 0, none⟩ = some f ∧ w.cell? ⟨gt, 0, none⟩ = some v0 ∧ w.cell? ⟨gt, 1, none⟩ = some v1 ∧ w.cell? ⟨gt, 2, none⟩ = some v2 ∧ w.cell? ⟨gt, 3, none⟩ = some v3 ∧ Kept [g7] w0 w
theorem RdS.kept {w0 w w' : World} {g5 g7 gt : Nat} {f v0 v1 v2 v3 : Value} (h : RdS w0 g5 g7 gt f v0 v1 v2 v3 w) (k : Kept [] w w') : RdS w0 g5 g7 gt f v0 v1 v2 v3 w' := by
 obtain ⟨h5, t0, t1, t2, t3, hk⟩ := h
 exact ⟨k.cell h5 (by simp), k.cell t0 (by simp), k.cell t1 (by simp), k.cell t2 (by simp), k.cell t3 (by simp), hk.trans0 k⟩
theorem RdS.set {w0 w w' : World} {g5 g7 gt : Nat} {f v0 v1 v2 v3 : Value} (h : RdS w0 g5 g7 gt f v0 v1 v2 v3 w) (k : Kept [g7] w w') (h1 : g5 ≠ g7) (h2 : gt ≠ g7) : RdS w0 g5 g7 gt f v0 v1 v2 v3 w' := by
 obtain ⟨h5, t0, t1, t2, t3, hk⟩ := h
 exact ⟨k.cell h5 (by simpa using h1), k.cell t0 (by simpa using h2), k.cell t1 (by simpa using h2), k.cell t2 (by simpa using h2), k.cell t3 (by simpa using h2), hk.trans k (fun x hx _ => hx)⟩
theorem AddSpan_zr (x1 x2 : Int) (a b : Option Addr) (c d : Nat) (y1 y2 : Int) (a' b' : Option Addr) (c' d' : Nat) (z1 z2 : Int) (w : World) (h1 : Sl w a (mag x1).length c (mag x1)) (h2 : Sl w b (mag x2).length d (mag x2)) (h3 : Sl w a' (mag y1).length c' (mag y1)) (h4 : Sl w b' (mag y2).length d' (mag y2)) (fx : Fit2 ⟨x1, x2⟩) (fy : Fit2 ⟨y1, y2⟩) (fz : Fit2 ⟨z1, z2⟩) (hz : (⟨z1, z2⟩ : Z2) = add2 ⟨x1, x2⟩ ⟨y1, y2⟩) :
  Calls Tryz.prog 104 #[.agg #[.bool (isNeg x1), .slice a (mag x1).length c, .bool (isNeg x2), .slice b (mag x2).length d], .agg #[.bool (isNeg y1), .slice a' (mag y1).length c', .bool (isNeg y2), .slice b' (mag y2).length d']] w (SpanR w ⟨0, z1, z2⟩) := by
 have h := AddSpan_any (isNeg x1) (isNeg x2) a b _ c _ d (mag x1) (mag x2) (isNeg y1) (isNeg y2) a' b' _ c' _ d' (mag y1) (mag y2) w h1 h2 h3 h4
 rw [addS_zz (x := ⟨x1, x2⟩) (y := ⟨y1, y2⟩) (z := ⟨z1, z2⟩) fx fy fz hz] at h
 exact h
/-- What the last region reads; only the result's box was written. -/
def RdT (w0 : World) (gR g7 g8 : Nat) (v0 v1 v2 v3 u0 u1 u2 u3 : Value) (w : World) : Prop :=
 w.cell? ⟨g7, 0, none⟩ = some v0 ∧ w.cell? ⟨g7, 1, none⟩ = some v1 ∧ w.cell? ⟨g7, 2, none⟩ = some v2 ∧ w.cell? ⟨g7, 3, none⟩ = some v3 ∧
  w.cell? ⟨g8, 0, none⟩ = some u0 ∧ w.cell? ⟨g8, 1, none⟩ = some u1 ∧ w.cell? ⟨g8, 2, none⟩ = some u2 ∧ w.cell? ⟨g8, 3, none⟩ = some u3 ∧ Kept [gR] w0 w
theorem RdT.kept {w0 w w' : World} {gR g7 g8 : Nat} {v0 v1 v2 v3 u0 u1 u2 u3 : Value} (h : RdT w0 gR g7 g8 v0 v1 v2 v3 u0 u1 u2 u3 w) (k : Kept [] w w') : RdT w0 gR g7 g8 v0 v1 v2 v3 u0 u1 u2 u3 w' := by
 obtain ⟨t0, t1, t2, t3, s0, s1, s2, s3, hk⟩ := h
 exact ⟨k.cell t0 (by simp), k.cell t1 (by simp), k.cell t2 (by simp), k.cell t3 (by simp), k.cell s0 (by simp), k.cell s1 (by simp), k.cell s2 (by simp), k.cell s3 (by simp), hk.trans0 k⟩
theorem RdT.set {w0 w w' : World} {gR g7 g8 : Nat} {v0 v1 v2 v3 u0 u1 u2 u3 : Value} (h : RdT w0 gR g7 g8 v0 v1 v2 v3 u0 u1 u2 u3 w) (k : Kept [gR] w w') (h1 : g7 ≠ gR) (h2 : g8 ≠ gR) : RdT w0 gR g7 g8 v0 v1 v2 v3 u0 u1 u2 u3 w' := by
 obtain ⟨t0, t1, t2, t3, s0, s1, s2, s3, hk⟩ := h
 exact ⟨k.cell t0 (by simpa using h1), k.cell t1 (by simpa using h1), k.cell t2 (by simpa using h1), k.cell t3 (by simpa using h1), k.cell s0 (by simpa using h2), k.cell s1 (by simpa using h2), k.cell s2 (by simpa using h2), k.cell s3 (by simpa using h2), hk.trans k (fun x hx _ => hx)⟩
set_option maxHeartbeats 8000000 in
set_option maxRecDepth 20000 in
theorem sumOfTerms_zz (T Pt Sm : Nat → Z2) (N : Nat) (hN : N ≤ 1000) (gA gN gF fn fad : Nat) (caps : Array Value) (Cap : World → Prop) (w : World) (a b a' b' : Option Addr) (c d c' d' : Nat) (o1 o2 : Int)
  (hA0 : w.cell? ⟨gA, 0, none⟩ = some (.bool (isNeg (T 0).lo))) (hA1 : w.cell? ⟨gA, 1, none⟩ = some (.slice a (mag (T 0).lo).length c)) (hA2 : w.cell? ⟨gA, 2, none⟩ = some (.bool (isNeg (T 0).hi))) (hA3 : w.cell? ⟨gA, 3, none⟩ = some (.slice b (mag (T 0).hi).length d))
  (h1 : Sl w a (mag (T 0).lo).length c (mag (T 0).lo)) (h2 : Sl w b (mag (T 0).hi).length d (mag (T 0).hi)) (h3 : Sl w a' (mag (T 0).lo).length c' (mag (T 0).lo)) (h4 : Sl w b' (mag (T 0).hi).length d' (mag (T 0).hi))
  (hNc : w.cell? ⟨gN, 0, none⟩ = some (.int .i64 (N : Int))) (hF : w.cell? ⟨gF, 0, none⟩ = some (.func (.func fn) #[] caps)) (eg : Enters Tryz.prog fn) (ega : Enters Tryz.prog fad)
  (hCap : Cap w) (hCapK : ∀ A B L, Cap A → Kept L A B → (∀ x, x ∈ L → w.heap.size ≤ x) → Cap B)
  (hnext : ∀ (j : Nat) (W : World) (a b : Option Addr) (c d : Nat), j < N → Cap W → Sl W a (mag (T j).lo).length c (mag (T j).lo) → Sl W b (mag (T j).hi).length d (mag (T j).hi) →
   Calls Tryz.prog fn (#[.int .i64 ((j : Int) + 1), .agg #[.bool (isNeg (T j).lo), .slice a (mag (T j).lo).length c, .bool (isNeg (T j).hi), .slice b (mag (T j).hi).length d]] ++ caps) W (SpanV W (T (j + 1)).lo (T (j + 1)).hi))
  (hadd : ∀ (j : Nat) (W : World) (a b : Option Addr) (c d : Nat), j < N → Sl W a (mag (T (j + 1)).lo).length c (mag (T (j + 1)).lo) → Sl W b (mag (T (j + 1)).hi).length d (mag (T (j + 1)).hi) →
   Calls Tryz.prog fad #[.int .i64 ((j : Int) + 1), .agg #[.bool (isNeg (T (j + 1)).lo), .slice a (mag (T (j + 1)).lo).length c, .bool (isNeg (T (j + 1)).hi), .slice b (mag (T (j + 1)).hi).length d]] W (SpanN W (Pt (j + 1)).lo (Pt (j + 1)).hi))
  (hS0 : Sm 0 = T 0) (hS : ∀ j, j < N → Sm (j + 1) = put2 (Sm j) (Pt (j + 1)) (j + 1)) (fS : ∀ j, j ≤ N → Fit2 (Sm j)) (fP : ∀ j, j ≤ N → Fit2 (Pt j)) (fT : ∀ j, j ≤ N → Fit2 (T j)) (fW : Fit2 (swing2 (T N))) (fo : Fit2 ⟨o1, o2⟩) (ho : (⟨o1, o2⟩ : Z2) = add2 (Sm N) (swing2 (T N))) :
  Calls Tryz.prog 123 #[.agg #[.bool (isNeg (T 0).lo), .slice a' (mag (T 0).lo).length c', .bool (isNeg (T 0).hi), .slice b' (mag (T 0).hi).length d'],
   .func (.func 183) #[] #[.pointer (some ⟨gA, 0, none⟩), .pointer (some ⟨gN, 0, none⟩), .pointer (some ⟨gF, 0, none⟩)], .func (.func fad) #[] #[]] w (SpanR w ⟨0, o1, o2⟩) := by
 have H1 := Lib.hid h1
 have H2 := Lib.hid h2
 have H3 := Lib.hid h3
 have H4 := Lib.hid h4
 have A0 := Lib.hid hA0
 have A1 := Lib.hid hA1
 have A2 := Lib.hid hA2
 have A3 := Lib.hid hA3
 have HNC := Lib.hid hNc
 have HFC := Lib.hid hF
 have HCAP := Lib.hid hCap
 have HCK := Lib.hid hCapK
 have HNX := Lib.hid hnext
 have HAD := Lib.hid hadd
 have HS0 := Lib.hid hS0
 have HS := Lib.hid hS
 have FS := Lib.hid fS
 have FP := Lib.hid fP
 have FT := Lib.hid fT
 have HO := Lib.hid ho
 clear h1 h2 h3 h4 hA0 hA1 hA2 hA3 hNc hF hCap hCapK hnext hadd hS0 hS fS fP fT ho
 refine (callsIn_wide (n := 0)).1 (callsIn_of_wp_marks Tryz.func123 rfl trivial (wpIn_wide.2 ?_) rfl)
 simp only [Tryz.ntmps123, List.size_toArray, List.length_cons, List.length_nil, Nat.reduceAdd, Nat.reduceSub, Array.replicate_succ, Array.replicate_zero, List.push_toArray, List.append_toArray, List.nil_append, List.cons_append]
 go_upto_region 1 with fail
 generalize hW : (((w.alloc (.cells #[.bool (isNeg (T 0).lo), .slice a' (mag (T 0).lo).length c', .bool (isNeg (T 0).hi), .slice b' (mag (T 0).hi).length d'] 26)).alloc (.cells #[.func (.func fad) #[] #[]] 90)).alloc (.cells #[.int .i64 0, .bool false, .slice none 0 0, .bool false, .slice none 0 0] 28)) = ww0
 have hkk : Kept [] (((w.alloc (.cells #[.bool (isNeg (T 0).lo), .slice a' (mag (T 0).lo).length c', .bool (isNeg (T 0).hi), .slice b' (mag (T 0).hi).length d'] 26)).alloc (.cells #[.func (.func fad) #[] #[]] 90)).alloc (.cells #[.int .i64 0, .bool false, .slice none 0 0, .bool false, .slice none 0 0] 28)) ww0 := by rw [hW]; exact Kept.refl _ _
 have hz : w.heap.size + 1 + 1 + 1 ≤ ww0.heap.size := by rw [← hW]; simp
 have t0 := (hkk.peel.peel.top (g := w.heap.size) (by simp) (by simp) 0 (v := .bool (isNeg (T 0).lo)) rfl).1
 have t1 := (hkk.peel.peel.top (g := w.heap.size) (by simp) (by simp) 1 (v := .slice a' (mag (T 0).lo).length c') rfl).1
 have t2 := (hkk.peel.peel.top (g := w.heap.size) (by simp) (by simp) 2 (v := .bool (isNeg (T 0).hi)) rfl).1
 have t3 := (hkk.peel.peel.top (g := w.heap.size) (by simp) (by simp) 3 (v := .slice b' (mag (T 0).hi).length d') rfl).1
 have NF := Lib.hid (hkk.peel.top (g := w.heap.size + 1) (by simp) (by simp) 0 (v := .func (.func fad) #[] #[]) rfl).1
 have r0 := hkk.top (g := w.heap.size + 1 + 1) (by simp) (by simp) 0 (v := .int .i64 0) rfl
 have r1 := hkk.top (g := w.heap.size + 1 + 1) (by simp) (by simp) 1 (v := .bool false) rfl
 have r2 := hkk.top (g := w.heap.size + 1 + 1) (by simp) (by simp) 2 (v := .slice none 0 0) rfl
 have r3 := hkk.top (g := w.heap.size + 1 + 1) (by simp) (by simp) 3 (v := .bool false) rfl
 have r4 := hkk.top (g := w.heap.size + 1 + 1) (by simp) (by simp) 4 (v := .slice none 0 0) rfl
 have R0 := Lib.hid r0
 have R1 := Lib.hid r1
 have R2 := Lib.hid r2
 have R3 := Lib.hid r3
 have R4 := Lib.hid r4
 have K0 := Lib.hid hkk.peel.peel.peel
 clear hkk hW r0 r1 r2 r3 r4
 go_cut [7, 8] from 11 to 37 (fun s s' wx => Hid (Two4 ww0 (.bool (isNeg (T 0).lo)) (.slice a' (mag (T 0).lo).length c') (.bool (isNeg (T 0).hi)) (.slice b' (mag (T 0).hi).length d') 26 s s' wx))
 case first =>
  go_region_held3 (fun w' => w'.cell? ⟨w.heap.size, 0, none⟩ = some (.bool (isNeg (T 0).lo)) ∧ w'.cell? ⟨w.heap.size, 1, none⟩ = some (.slice a' (mag (T 0).lo).length c') ∧ w'.cell? ⟨w.heap.size, 2, none⟩ = some (.bool (isNeg (T 0).hi)) ∧ w'.cell? ⟨w.heap.size, 3, none⟩ = some (.slice b' (mag (T 0).hi).length d'))
   ((go_split_ands; (try refine ⟨?_, ?_, ?_, ?_⟩) <;> with_reducible first | assumption | exact drew_cell (alloc_cell (alloc_cell (by assumption))) | exact drew_cell (alloc_cell (by assumption)) | exact drew_alloc_cell (by assumption) | exact drew_alloc_cell2 (by assumption) | exact drew_cell (by assumption) | exact alloc_cell (by assumption) | exact cell_set4 (by assumption) (by (try dsimp only); (try simp only [World.size_drew]); (try simp only [World.size_alloc]); omega)))
   (fail)
  all_goals
   go_wp2_with fail
   go_meet
   refine Lib.hid ⟨_, _, rfl, rfl, ?_, ?_, ?_, ?_, ?_, ?_⟩
   ·first | exact (alloc_heap_old alloc_heap0 : ((ww0.alloc _).alloc _).heap[_]? = _) | exact (alloc_heap1 : ((ww0.alloc _).alloc _).heap[_]? = _)
   ·first | exact (alloc_heap1 : ((ww0.alloc _).alloc _).heap[_]? = _) | exact (alloc_heap_old alloc_heap0 : ((ww0.alloc _).alloc _).heap[_]? = _)
   ·(try simp only [World.size_alloc, World.size_drew]); omega
   ·(try simp only [World.size_alloc, World.size_drew]); omega
   ·(try simp only [World.size_alloc, World.size_drew]); omega
   ·exact (((Kept.refl [] ww0).alloc _).alloc _).drew
 case rest =>
  obtain ⟨g7, g8, rfl, rfl, B7, B8, hg7, hg8, hne, hk⟩ := hcut.out
  clear hcut t0 t1 t2 t3
  obtain ⟨w2, rfl⟩ : ∃ w' : World, w' = wc := ⟨_, rfl⟩
  have hl7 := (Array.getElem?_eq_some_iff.1 B7).1
  have hl8 := (Array.getElem?_eq_some_iff.1 B8).1
  have hz2 := hk.size
  obtain ⟨gR, hgR⟩ : ∃ g, g = w.heap.size + 1 + 1 := ⟨_, rfl⟩
  have K2 := Lib.hid (K0.out.trans0 hk)
  have HB7 := Lib.hid B7
  have HB8 := Lib.hid B8
  have NF2 := Lib.hid (hk.cell NF.out (by simp))
  have HKW := Lib.hid hk
  clear B7 B8 hk NF
  have hoff : ∀ {a : Option Addr} {n : Nat}, (0 < n → ∀ x, a = some x → x.block < w.heap.size) → OffL [gR, g7, g8, w2.heap.size, w2.heap.size + 1, w2.heap.size + 2] a n := fun h hn x hx hm => by
   have h9 := h hn x hx
   simp at hm
   omega
  have hb0 : SBox [gR, g7, g8, w2.heap.size, w2.heap.size + 1, w2.heap.size + 2] w2 g7 (T 0) := ⟨a', c', b', d', cell_of_row _ _ 0 _ _ _ HB7.out, cell_of_row _ _ 1 _ _ _ HB7.out, cell_of_row _ _ 2 _ _ _ HB7.out, cell_of_row _ _ 3 _ _ _ HB7.out,
   frozen_of_row _ _ 0 _ _ HB7.out, frozen_of_row _ _ 1 _ _ HB7.out, frozen_of_row _ _ 2 _ _ HB7.out, frozen_of_row _ _ 3 _ _ HB7.out, H3.out.kept0 K2.out, H4.out.kept0 K2.out, hoff H3.out.lt, hoff H4.out.lt⟩
  have hb1 : SBox [gR, g7, g8, w2.heap.size, w2.heap.size + 1, w2.heap.size + 2] w2 g8 (T 0) := ⟨a', c', b', d', cell_of_row _ _ 0 _ _ _ HB8.out, cell_of_row _ _ 1 _ _ _ HB8.out, cell_of_row _ _ 2 _ _ _ HB8.out, cell_of_row _ _ 3 _ _ _ HB8.out,
   frozen_of_row _ _ 0 _ _ HB8.out, frozen_of_row _ _ 1 _ _ HB8.out, frozen_of_row _ _ 2 _ _ HB8.out, frozen_of_row _ _ 3 _ _ HB8.out, H3.out.kept0 K2.out, H4.out.kept0 K2.out, hoff H3.out.lt, hoff H4.out.lt⟩
  have SB0 := Lib.hid hb0
  have SB1 := Lib.hid hb1
  clear hb0 hb1 hoff
  have hlA := World.block_lt_of_cell? w _ A0.out
  have hlN := World.block_lt_of_cell? w _ HNC.out
  have hlF := World.block_lt_of_cell? w _ HFC.out
  dsimp only at hlA hlN hlF
  go_wp2_with fail
  rename_i Kx hKx
  refine (wpIn_wide (n := 0)).1 ?_
  refine range_law (gf := 183) (lb := #[.pointer (some ⟨gA, 0, none⟩), .pointer (some ⟨gN, 0, none⟩), .pointer (some ⟨gF, 0, none⟩)]) rfl (enters_of Tryz.func183 (by kernel_rfl) rfl) (encs := TX.encs) (fun x => rfl) [g7, g8]
   (fun x hx => by simp at hx; omega) (TV T (w2.heap.size + 3)) N
   (fun j W => Hid (SBox [gR, g7, g8, w2.heap.size, w2.heap.size + 1, w2.heap.size + 2] W g7 (Sm j)) ∧ Hid (SBox [gR, g7, g8, w2.heap.size, w2.heap.size + 1, w2.heap.size + 2] W g8 (T j)) ∧ Hid (KeptFrom [g7, g8] w2.heap.size w2 W)) ?hI ?hiter ?h0 ?hround ?hdone
  case hI =>
   rintro j A B K ⟨h7, h8, hf⟩ hk hK hA
   exact ⟨Lib.hid (h7.out.kept hk (fun x hx => by have := hK x hx; simp; omega) (fun hm => by have := hK _ hm; omega)), Lib.hid (h8.out.kept hk (fun x hx => by have := hK x hx; simp; omega) (fun hm => by have := hK _ hm; omega)),
    Lib.hid (hf.out.trans hk (fun x hx => .inr (hK x hx).1))⟩
  case h0 => exact ⟨by rw [HS0.out]; exact SB0, SB1, Lib.hid ⟨[], Kept.refl _ _, fun x hx => by cases hx⟩⟩
  case hiter =>
   intro l J W hkW hl hl0 hzW hJ hY hJ0
   rw [show w2.heap.size + 3 = W.heap.size + 1 by omega] at hY
   exact terms_iter T N hN [g7, g8] gA gN gF fn caps Cap w2 a b c d (K2.out.cell A0.out (by simp)) (K2.out.cell A1.out (by simp)) (K2.out.cell A2.out (by simp)) (K2.out.cell A3.out (by simp)) (H1.out.kept0 K2.out) (H2.out.kept0 K2.out)
    (K2.out.cell HNC.out (by simp)) (K2.out.cell HFC.out (by simp)) eg (fun x hx => by simp at hx; omega) (by simp; omega) (by simp; omega) (HCK.out _ _ [] HCAP.out K2.out (fun x hx => by cases hx))
    (fun A B K hA hK hL => HCK.out A B K hA hK (fun x hx => by rcases hL x hx with h | h; (simp at h; omega); omega)) HNX.out l J W hkW hl hl0 hJ hY hJ0
  case hround =>
   rintro l j ⟨xk, x1, x2, xa, xc, xb, xd⟩ W rfl hlW hj ⟨h7, h8, hf⟩ hv
   obtain ⟨hk1, ht1, ht2, s1, s2, q1, q2⟩ := hv
   dsimp only at hk1 ht1 ht2 s1 s2 q1 q2
   subst hk1 ht1 ht2
   have hzW : w2.heap.size ≤ W.heap.size := by obtain ⟨L0, hkL, _⟩ := hf.out; exact hkL.size
   have X1 := Lib.hid s1
   have X2 := Lib.hid s2
   have Q1 := Lib.hid q1
   have Q2 := Lib.hid q2
   clear s1 s2 q1 q2
   gi_wp2
   refine ⟨(Kept.refl [] W).alloc _, fun W₂ hk2 => ?_⟩
   have hkk : Kept [w2.heap.size + 1] W W₂ := ((Kept.refl [w2.heap.size + 1] W).alloc _).trans hk2 (fun x hx _ => hx)
   have hz2' := hkk.size
   obtain ⟨a7, c7, b7, d7, e70, e71, e72, e73, f70, f71, f72, f73, s71, s72, o71, o72⟩ := h7.out.kept hkk (fun x hx => by simp at hx; simp [hx]) (by simp; omega)
   obtain ⟨a8, c8, b8, d8, e80, e81, e82, e83, f80, f81, f82, f83, s81, s82, o81, o82⟩ := h8.out.kept hkk (fun x hx => by simp at hx; simp [hx]) (by simp; omega)
   have x0 := hk2.cell (p := ⟨W.heap.size, 0, none⟩) (v := .bool (isNeg (T (j + 1)).lo)) (by rw [World.cell?_alloc_new]; rfl) (by simp; omega)
   have x1 := hk2.cell (p := ⟨W.heap.size, 1, none⟩) (v := .slice xa (mag (T (j + 1)).lo).length xc) (by rw [World.cell?_alloc_new]; rfl) (by simp; omega)
   have x2 := hk2.cell (p := ⟨W.heap.size, 2, none⟩) (v := .bool (isNeg (T (j + 1)).hi)) (by rw [World.cell?_alloc_new]; rfl) (by simp; omega)
   have x3 := hk2.cell (p := ⟨W.heap.size, 3, none⟩) (v := .slice xb (mag (T (j + 1)).hi).length xd) (by rw [World.cell?_alloc_new]; rfl) (by simp; omega)
   have n0 := hkk.cell (hf.out.cell NF2.out (by simp; omega) (by simp; omega)) (by simp; omega)
   have Y1 := Lib.hid (X1.out.kept hkk (fun hn y hy hm => by have h9 := Q1.out hn y hy; simp at hm; omega))
   have Y2 := Lib.hid (X2.out.kept hkk (fun hn y hy hm => by have h9 := Q2.out hn y hy; simp at hm; omega))
   have HKF := Lib.hid (hf.out.trans hkk (fun x hx => .inr (by simp at hx; omega)))
   have hzx : W.heap.size < W₂.heap.size := by have := hk2.size; simp at this; omega
   have S71 := Lib.hid s71
   have S72 := Lib.hid s72
   have S81 := Lib.hid s81
   have S82 := Lib.hid s82
   have O71 := Lib.hid o71
   have O72 := Lib.hid o72
   have O81 := Lib.hid o81
   have O82 := Lib.hid o82
   clear s71 s72 s81 s82 o71 o72 o81 o82 hkk hk2 X1 X2 h7 h8 hf
   have hj0 : (0 : Int) ≤ (j : Int) := by omega
   by_cases ho : (j + 1) % 2 = 1
   ·skip
    have hm : decide (((j : Int) + 1) % 2 = 1) = true := decide_eq_true (by omega)
    have hmm : (((j : Int) + 1) % 2 == 1) = true := by simpa using hm
    have hsm : Sm (j + 1) = sub2 (Sm j) (Pt (j + 1)) := by rw [HS.out j hj]; unfold put2; rw [if_pos ho]
    have HSM := Lib.hid hsm
    clear hsm
    gi_wp2
    have hHeld : RdS W₂ (w.heap.size + 1) g7 W.heap.size (.func (.func fad) #[] #[]) (.bool (isNeg (T (j + 1)).lo)) (.slice xa (mag (T (j + 1)).lo).length xc) (.bool (isNeg (T (j + 1)).hi)) (.slice xb (mag (T (j + 1)).hi).length xd) W₂.drew := ⟨n0, x0, x1, x2, x3, (Kept.refl [g7] W₂).drew⟩
    refine region_round (RdS W₂ (w.heap.size + 1) g7 W.heap.size (.func (.func fad) #[] #[]) (.bool (isNeg (T (j + 1)).lo)) (.slice xa (mag (T (j + 1)).lo).length xc) (.bool (isNeg (T (j + 1)).hi)) (.slice xb (mag (T (j + 1)).hi).length xd)) (by kernel_rfl) (by kernel_rfl) (fun ⟨_, _, h⟩ => by cases h.1) ?_
    refine take_d (i := 1) (d := 20) (v := .func (.func fad) #[] #[]) rfl rfl (by kernel_rfl) (by kernel_rfl) (by kernel_rfl) (fun _ _ _ h => h) (by rfl) ?_ hHeld ?_
    ·intro w9 hS9; obtain ⟨h5, t0, t1, t2, t3, _⟩ := hS9; go_simp
    simp only [List.setIfInBounds_toArray, List.set_cons_zero, List.set_cons_succ]
    refine take_d (i := 2) (d := 21) (v := .int .i64 ((j : Int) + 1)) rfl rfl (by kernel_rfl) (by kernel_rfl) (by kernel_rfl) (fun _ _ _ h => h) (by rfl) ?_ hHeld ?_
    ·intro w9 hS9; obtain ⟨h5, t0, t1, t2, t3, _⟩ := hS9; go_simp
    simp only [List.setIfInBounds_toArray, List.set_cons_zero, List.set_cons_succ]
    refine take_d (i := 3) (d := 22) (v := .agg #[.bool (isNeg (T (j + 1)).lo), .slice xa (mag (T (j + 1)).lo).length xc, .bool (isNeg (T (j + 1)).hi), .slice xb (mag (T (j + 1)).hi).length xd]) rfl rfl (by kernel_rfl) (by kernel_rfl) (by kernel_rfl) (fun _ _ _ h => h) (by rfl) ?_ hHeld ?_
    ·intro w9 hS9; obtain ⟨h5, t0, t1, t2, t3, _⟩ := hS9; go_simp
    simp only [List.setIfInBounds_toArray, List.set_cons_zero, List.set_cons_succ]
    refine wpAnyH_ready (rs := [0, 4]) (by kernel_rfl) (by simp) ?_
    refine AllReadyH.cons rfl (fun K hK => ?_) (AllReadyH.cons rfl (fun K hK => ?_) AllReadyH.nil)
    ·skip
     have d0 := (((Kept.refl [] W₂).drew)).cell (p := ⟨g7, 0, none⟩) e70 (by simp)
     have d1 := (((Kept.refl [] W₂).drew)).cell (p := ⟨g7, 1, none⟩) e71 (by simp)
     have d2 := (((Kept.refl [] W₂).drew)).cell (p := ⟨g7, 2, none⟩) e72 (by simp)
     have d3 := (((Kept.refl [] W₂).drew)).cell (p := ⟨g7, 3, none⟩) e73 (by simp)
     go_simp
     refine hK.out _ _ hHeld (fun hHeld => ?_)
     clear hK d0 d1 d2 d3
     try simp only [Act.put, List.setIfInBounds_toArray, List.set_cons_zero, List.set_cons_succ]
     refine wpAnyH_ready (rs := [4]) (by kernel_rfl) (by simp) ?_
     refine AllReadyH.cons rfl (fun K hK => ?_) AllReadyH.nil
     go_simp
     rw [show ∀ args w, Sem.run Tryz.prog (callFunc fad args) w = .ok (.enter fad args) w from ega, Oper.upon_enter]
     refine Calls.mono (HAD.out j _ xa xb xc xd hj (Y1.out.kept0 ((Kept.refl [] W₂).drew)) (Y2.out.kept0 ((Kept.refl [] W₂).drew))) ?_
     intro e v1 hh; unfold SpanN at hh; obtain ⟨p1, hh⟩ := hh; obtain ⟨p2, hh⟩ := hh; obtain ⟨p3, hh⟩ := hh; obtain ⟨p4, hh, hs1, ht1, hk1⟩ := hh; subst hh
     have zk1 := hk1.size; simp only [World.size_drew] at zk1
     have HS1 := Lib.hid hs1; have HT1 := Lib.hid ht1; have HK1 := Lib.hid hk1; clear hs1 ht1 hk1
     refine hK.out _ _ (hHeld.kept HK1.out) (fun hHeld => ?_)
     clear hK
     try simp only [Act.put, List.setIfInBounds_toArray, List.set_cons_zero, List.set_cons_succ]
     refine wpAnyH_ready (rs := [5]) (by kernel_rfl) (by simp) ?_
     refine AllReadyH.cons rfl (fun K hK => ?_) AllReadyH.nil
     go_simp
     have hk01 : Kept [] W₂ v1 := ((Kept.refl [] W₂).drew).trans0 HK1.out
     refine (SubSpan_zz (Sm j).lo (Sm j).hi _ _ _ _ (Pt (j + 1)).lo (Pt (j + 1)).hi _ _ _ _ (Sm (j + 1)).lo (Sm (j + 1)).hi _ (S71.out.kept0 hk01) (S72.out.kept0 hk01) HS1.out HT1.out (FS.out j (by omega)) (FP.out (j + 1) (by omega)) (FS.out (j + 1) (by omega)) HSM.out).mono ?_
     intro e v2 hh; unfold SpanRZ at hh; obtain ⟨p5, hh⟩ := hh; obtain ⟨p6, hh⟩ := hh; obtain ⟨p7, hh⟩ := hh; obtain ⟨p8, hh, hs2, ht2, hf2, hg2, hk2⟩ := hh; subst hh
     have zk2 := hk2.size
     have HS2 := Lib.hid hs2; have HT2 := Lib.hid ht2; have HF2 := Lib.hid hf2; have HG2 := Lib.hid hg2; have HK2 := Lib.hid (hk01.trans0 hk2)
     refine hK.out _ _ (hHeld.kept hk2) (fun hHeld => ?_)
     clear hK hs2 ht2 hf2 hg2 hk2 hk01
     try simp only [Act.put, List.setIfInBounds_toArray, List.set_cons_zero, List.set_cons_succ]
     refine take_d (i := 6) (d := 25) (v := .agg #[.bool (isNeg (Sm (j + 1)).lo), .slice p5 (mag (Sm (j + 1)).lo).length p6, .bool (isNeg (Sm (j + 1)).hi), .slice p7 (mag (Sm (j + 1)).hi).length p8]) rfl rfl (by kernel_rfl) (by kernel_rfl) (by kernel_rfl) (fun _ _ _ h => h) (by rfl) ?_ hHeld ?_
     ·intro w9 hS9; obtain ⟨h5, t0, t1, t2, t3, _⟩ := hS9; go_simp
     simp only [List.setIfInBounds_toArray, List.set_cons_zero, List.set_cons_succ]
     refine wpAnyH_ready (rs := [7]) (by kernel_rfl) (by simp) ?_
     refine AllReadyH.cons rfl (fun K hK => ?_) AllReadyH.nil
     have d0 := HK2.out.cell (p := ⟨g7, 0, none⟩) e70 (by simp)
     have u0 := HK2.out.free (p := ⟨g7, 0, none⟩) f70 (by simp; omega) (by simp)
     have d1 := HK2.out.cell (p := ⟨g7, 1, none⟩) e71 (by simp)
     have u1 := HK2.out.free (p := ⟨g7, 1, none⟩) f71 (by simp; omega) (by simp)
     have d2 := HK2.out.cell (p := ⟨g7, 2, none⟩) e72 (by simp)
     have u2 := HK2.out.free (p := ⟨g7, 2, none⟩) f72 (by simp; omega) (by simp)
     have d3 := HK2.out.cell (p := ⟨g7, 3, none⟩) e73 (by simp)
     have u3 := HK2.out.free (p := ⟨g7, 3, none⟩) f73 (by simp; omega) (by simp)
     go_simp
     generalize hW3 : ((((v2.setCell ⟨g7, 0, none⟩ (.bool (isNeg (Sm (j + 1)).lo))).setCell ⟨g7, 1, none⟩ (.slice p5 (mag (Sm (j + 1)).lo).length p6)).setCell ⟨g7, 2, none⟩ (.bool (isNeg (Sm (j + 1)).hi))).setCell ⟨g7, 3, none⟩ (.slice p7 (mag (Sm (j + 1)).hi).length p8)) = W3
     have hk3 : Kept [g7] v2 W3 := by rw [← hW3]; exact ((((Kept.refl _ _).setCell _ _ (by simp)).setCell _ _ (by simp)).setCell _ _ (by simp)).setCell _ _ (by simp)
     obtain ⟨k0, k1, k2, k3⟩ := st4 hW3.symm d0 d1 d2 d3
     have hfz : ∀ x, W3.frozen? x = v2.frozen? x := by rw [← hW3]; intro x; simp only [World.frozen?_setCell]
     have hk23 : Kept [g7] W₂ W3 := (HK2.out.mono (fun x hx _ => by cases hx)).trans hk3 (fun x hx _ => hx)
     have HB7 : Hid (SBox [gR, g7, g8, w2.heap.size, w2.heap.size + 1, w2.heap.size + 2] W3 g7 (Sm (j + 1))) := Lib.hid ⟨p5, p6, p7, p8, k0, k1, k2, k3, (hfz _).trans u0, (hfz _).trans u1, (hfz _).trans u2, (hfz _).trans u3, HS2.out.kept hk3 (fun hn y hy hm => by have h9 := HF2.out hn y hy; simp at hm; omega), HT2.out.kept hk3 (fun hn y hy hm => by have h9 := HG2.out hn y hy; simp at hm; omega), (fun hn y hy hm => by have h9 := HF2.out hn y hy; simp at hm; omega), (fun hn y hy hm => by have h9 := HG2.out hn y hy; simp at hm; omega)⟩
     refine hK.out _ _ (hHeld.set hk3 (by omega) (by omega)) (fun hHeld => ?_)
     have zk3 := hk3.size
     have l0 := hk23.cell (p := ⟨g8, 0, none⟩) e80 (by simp; omega)
     have m0 := hk23.free (p := ⟨g8, 0, none⟩) f80 (by simp; omega) (by simp; omega)
     have y0 := hk23.cell (p := ⟨W.heap.size, 0, none⟩) x0 (by simp; omega)
     have l1 := hk23.cell (p := ⟨g8, 1, none⟩) e81 (by simp; omega)
     have m1 := hk23.free (p := ⟨g8, 1, none⟩) f81 (by simp; omega) (by simp; omega)
     have y1 := hk23.cell (p := ⟨W.heap.size, 1, none⟩) x1 (by simp; omega)
     have l2 := hk23.cell (p := ⟨g8, 2, none⟩) e82 (by simp; omega)
     have m2 := hk23.free (p := ⟨g8, 2, none⟩) f82 (by simp; omega) (by simp; omega)
     have y2 := hk23.cell (p := ⟨W.heap.size, 2, none⟩) x2 (by simp; omega)
     have l3 := hk23.cell (p := ⟨g8, 3, none⟩) e83 (by simp; omega)
     have m3 := hk23.free (p := ⟨g8, 3, none⟩) f83 (by simp; omega) (by simp; omega)
     have y3 := hk23.cell (p := ⟨W.heap.size, 3, none⟩) x3 (by simp; omega)
     have L0 := Lib.hid l0; have M0 := Lib.hid m0; have V0 := Lib.hid y0
     have L1 := Lib.hid l1; have M1 := Lib.hid m1; have V1 := Lib.hid y1
     have L2 := Lib.hid l2; have M2 := Lib.hid m2; have V2 := Lib.hid y2
     have L3 := Lib.hid l3; have M3 := Lib.hid m3; have V3 := Lib.hid y3
     have Z1 := Lib.hid (Y1.out.kept hk23 (fun hn y hy hm => by have h9 := Q1.out hn y hy; simp at hm; omega)); have Z2_ := Lib.hid (Y2.out.kept hk23 (fun hn y hy hm => by have h9 := Q2.out hn y hy; simp at hm; omega))
     have HK23 := Lib.hid hk23
     clear hK hW3 hk3 hfz hk23 k0 k1 k2 k3 d0 d1 d2 d3 u0 u1 u2 u3 y0 y1 y2 y3 l0 l1 l2 l3 m0 m1 m2 m3 x0 x1 x2 x3 n0 e70 e71 e72 e73 f70 f71 f72 f73 e80 e81 e82 e83 f80 f81 f82 f83 hHeld
     refine wpAnyH_done (by kernel_rfl) ?_ _
     try simp only [Act.put, List.setIfInBounds_toArray, List.set_cons_zero, List.set_cons_succ]
     have l0 := L0.out; have m0 := M0.out; have y0 := V0.out
     have l1 := L1.out; have m1 := M1.out; have y1 := V1.out
     have l2 := L2.out; have m2 := M2.out; have y2 := V2.out
     have l3 := L3.out; have m3 := M3.out; have y3 := V3.out
     gi_wp2
     generalize hW4 : ((((W3.setCell ⟨g8, 0, none⟩ (.bool (isNeg (T (j + 1)).lo))).setCell ⟨g8, 1, none⟩ (.slice xa (mag (T (j + 1)).lo).length xc)).setCell ⟨g8, 2, none⟩ (.bool (isNeg (T (j + 1)).hi))).setCell ⟨g8, 3, none⟩ (.slice xb (mag (T (j + 1)).hi).length xd)) = W4
     have hk4 : Kept [g8] W3 W4 := by rw [← hW4]; exact ((((Kept.refl _ _).setCell _ _ (by simp)).setCell _ _ (by simp)).setCell _ _ (by simp)).setCell _ _ (by simp)
     obtain ⟨k0, k1, k2, k3⟩ := st4 hW4.symm l0 l1 l2 l3
     have hfz : ∀ x, W4.frozen? x = W3.frozen? x := by rw [← hW4]; intro x; simp only [World.frozen?_setCell]
     have hk5 : Kept [g7, g8] W₂ W4 := (HK23.out.mono (fun x hx _ => by simp at hx; simp [hx])).trans hk4 (fun x hx _ => by simp at hx; simp [hx])
     subst hgR
     exact ⟨hk5, Lib.hid (HB7.out.kept hk4 (fun x hx => by simp at hx; simp [hx]) (by simpa using hne)), Lib.hid ⟨xa, xc, xb, xd, k0, k1, k2, k3, (hfz _).trans m0, (hfz _).trans m1, (hfz _).trans m2, (hfz _).trans m3, Z1.out.kept hk4 (fun hn y hy hm => by have h9 := Q1.out hn y hy; simp at hm; omega), Z2_.out.kept hk4 (fun hn y hy hm => by have h9 := Q2.out hn y hy; simp at hm; omega), (fun hn y hy hm => by have h9 := Q1.out hn y hy; simp at hm; omega), (fun hn y hy hm => by have h9 := Q2.out hn y hy; simp at hm; omega)⟩, Lib.hid (HKF.out.trans hk5 (fun x hx => .inl hx))⟩
    ·skip
     go_simp
     rw [show ∀ args w, Sem.run Tryz.prog (callFunc fad args) w = .ok (.enter fad args) w from ega, Oper.upon_enter]
     refine Calls.mono (HAD.out j _ xa xb xc xd hj (Y1.out.kept0 ((Kept.refl [] W₂).drew)) (Y2.out.kept0 ((Kept.refl [] W₂).drew))) ?_
     intro e v1 hh; unfold SpanN at hh; obtain ⟨p1, hh⟩ := hh; obtain ⟨p2, hh⟩ := hh; obtain ⟨p3, hh⟩ := hh; obtain ⟨p4, hh, hs1, ht1, hk1⟩ := hh; subst hh
     have zk1 := hk1.size; simp only [World.size_drew] at zk1
     have HS1 := Lib.hid hs1; have HT1 := Lib.hid ht1; have HK1 := Lib.hid hk1; clear hs1 ht1 hk1
     refine hK.out _ _ (hHeld.kept HK1.out) (fun hHeld => ?_)
     clear hK
     try simp only [Act.put, List.setIfInBounds_toArray, List.set_cons_zero, List.set_cons_succ]
     refine wpAnyH_ready (rs := [0]) (by kernel_rfl) (by simp) ?_
     refine AllReadyH.cons rfl (fun K hK => ?_) AllReadyH.nil
     have d0 := ((((Kept.refl [] W₂).drew).trans0 HK1.out)).cell (p := ⟨g7, 0, none⟩) e70 (by simp)
     have d1 := ((((Kept.refl [] W₂).drew).trans0 HK1.out)).cell (p := ⟨g7, 1, none⟩) e71 (by simp)
     have d2 := ((((Kept.refl [] W₂).drew).trans0 HK1.out)).cell (p := ⟨g7, 2, none⟩) e72 (by simp)
     have d3 := ((((Kept.refl [] W₂).drew).trans0 HK1.out)).cell (p := ⟨g7, 3, none⟩) e73 (by simp)
     go_simp
     refine hK.out _ _ hHeld (fun hHeld => ?_)
     clear hK d0 d1 d2 d3
     try simp only [Act.put, List.setIfInBounds_toArray, List.set_cons_zero, List.set_cons_succ]
     refine wpAnyH_ready (rs := [5]) (by kernel_rfl) (by simp) ?_
     refine AllReadyH.cons rfl (fun K hK => ?_) AllReadyH.nil
     go_simp
     have hk01 : Kept [] W₂ v1 := ((Kept.refl [] W₂).drew).trans0 HK1.out
     refine (SubSpan_zz (Sm j).lo (Sm j).hi _ _ _ _ (Pt (j + 1)).lo (Pt (j + 1)).hi _ _ _ _ (Sm (j + 1)).lo (Sm (j + 1)).hi _ (S71.out.kept0 hk01) (S72.out.kept0 hk01) HS1.out HT1.out (FS.out j (by omega)) (FP.out (j + 1) (by omega)) (FS.out (j + 1) (by omega)) HSM.out).mono ?_
     intro e v2 hh; unfold SpanRZ at hh; obtain ⟨p5, hh⟩ := hh; obtain ⟨p6, hh⟩ := hh; obtain ⟨p7, hh⟩ := hh; obtain ⟨p8, hh, hs2, ht2, hf2, hg2, hk2⟩ := hh; subst hh
     have zk2 := hk2.size
     have HS2 := Lib.hid hs2; have HT2 := Lib.hid ht2; have HF2 := Lib.hid hf2; have HG2 := Lib.hid hg2; have HK2 := Lib.hid (hk01.trans0 hk2)
     refine hK.out _ _ (hHeld.kept hk2) (fun hHeld => ?_)
     clear hK hs2 ht2 hf2 hg2 hk2 hk01
     try simp only [Act.put, List.setIfInBounds_toArray, List.set_cons_zero, List.set_cons_succ]
     refine take_d (i := 6) (d := 25) (v := .agg #[.bool (isNeg (Sm (j + 1)).lo), .slice p5 (mag (Sm (j + 1)).lo).length p6, .bool (isNeg (Sm (j + 1)).hi), .slice p7 (mag (Sm (j + 1)).hi).length p8]) rfl rfl (by kernel_rfl) (by kernel_rfl) (by kernel_rfl) (fun _ _ _ h => h) (by rfl) ?_ hHeld ?_
     ·intro w9 hS9; obtain ⟨h5, t0, t1, t2, t3, _⟩ := hS9; go_simp
     simp only [List.setIfInBounds_toArray, List.set_cons_zero, List.set_cons_succ]
     refine wpAnyH_ready (rs := [7]) (by kernel_rfl) (by simp) ?_
     refine AllReadyH.cons rfl (fun K hK => ?_) AllReadyH.nil
     have d0 := HK2.out.cell (p := ⟨g7, 0, none⟩) e70 (by simp)
     have u0 := HK2.out.free (p := ⟨g7, 0, none⟩) f70 (by simp; omega) (by simp)
     have d1 := HK2.out.cell (p := ⟨g7, 1, none⟩) e71 (by simp)
     have u1 := HK2.out.free (p := ⟨g7, 1, none⟩) f71 (by simp; omega) (by simp)
     have d2 := HK2.out.cell (p := ⟨g7, 2, none⟩) e72 (by simp)
     have u2 := HK2.out.free (p := ⟨g7, 2, none⟩) f72 (by simp; omega) (by simp)
     have d3 := HK2.out.cell (p := ⟨g7, 3, none⟩) e73 (by simp)
     have u3 := HK2.out.free (p := ⟨g7, 3, none⟩) f73 (by simp; omega) (by simp)
     go_simp
     generalize hW3 : ((((v2.setCell ⟨g7, 0, none⟩ (.bool (isNeg (Sm (j + 1)).lo))).setCell ⟨g7, 1, none⟩ (.slice p5 (mag (Sm (j + 1)).lo).length p6)).setCell ⟨g7, 2, none⟩ (.bool (isNeg (Sm (j + 1)).hi))).setCell ⟨g7, 3, none⟩ (.slice p7 (mag (Sm (j + 1)).hi).length p8)) = W3
     have hk3 : Kept [g7] v2 W3 := by rw [← hW3]; exact ((((Kept.refl _ _).setCell _ _ (by simp)).setCell _ _ (by simp)).setCell _ _ (by simp)).setCell _ _ (by simp)
     obtain ⟨k0, k1, k2, k3⟩ := st4 hW3.symm d0 d1 d2 d3
     have hfz : ∀ x, W3.frozen? x = v2.frozen? x := by rw [← hW3]; intro x; simp only [World.frozen?_setCell]
     have hk23 : Kept [g7] W₂ W3 := (HK2.out.mono (fun x hx _ => by cases hx)).trans hk3 (fun x hx _ => hx)
     have HB7 : Hid (SBox [gR, g7, g8, w2.heap.size, w2.heap.size + 1, w2.heap.size + 2] W3 g7 (Sm (j + 1))) := Lib.hid ⟨p5, p6, p7, p8, k0, k1, k2, k3, (hfz _).trans u0, (hfz _).trans u1, (hfz _).trans u2, (hfz _).trans u3, HS2.out.kept hk3 (fun hn y hy hm => by have h9 := HF2.out hn y hy; simp at hm; omega), HT2.out.kept hk3 (fun hn y hy hm => by have h9 := HG2.out hn y hy; simp at hm; omega), (fun hn y hy hm => by have h9 := HF2.out hn y hy; simp at hm; omega), (fun hn y hy hm => by have h9 := HG2.out hn y hy; simp at hm; omega)⟩
     refine hK.out _ _ (hHeld.set hk3 (by omega) (by omega)) (fun hHeld => ?_)
     have zk3 := hk3.size
     have l0 := hk23.cell (p := ⟨g8, 0, none⟩) e80 (by simp; omega)
     have m0 := hk23.free (p := ⟨g8, 0, none⟩) f80 (by simp; omega) (by simp; omega)
     have y0 := hk23.cell (p := ⟨W.heap.size, 0, none⟩) x0 (by simp; omega)
     have l1 := hk23.cell (p := ⟨g8, 1, none⟩) e81 (by simp; omega)
     have m1 := hk23.free (p := ⟨g8, 1, none⟩) f81 (by simp; omega) (by simp; omega)
     have y1 := hk23.cell (p := ⟨W.heap.size, 1, none⟩) x1 (by simp; omega)
     have l2 := hk23.cell (p := ⟨g8, 2, none⟩) e82 (by simp; omega)
     have m2 := hk23.free (p := ⟨g8, 2, none⟩) f82 (by simp; omega) (by simp; omega)
     have y2 := hk23.cell (p := ⟨W.heap.size, 2, none⟩) x2 (by simp; omega)
     have l3 := hk23.cell (p := ⟨g8, 3, none⟩) e83 (by simp; omega)
     have m3 := hk23.free (p := ⟨g8, 3, none⟩) f83 (by simp; omega) (by simp; omega)
     have y3 := hk23.cell (p := ⟨W.heap.size, 3, none⟩) x3 (by simp; omega)
     have L0 := Lib.hid l0; have M0 := Lib.hid m0; have V0 := Lib.hid y0
     have L1 := Lib.hid l1; have M1 := Lib.hid m1; have V1 := Lib.hid y1
     have L2 := Lib.hid l2; have M2 := Lib.hid m2; have V2 := Lib.hid y2
     have L3 := Lib.hid l3; have M3 := Lib.hid m3; have V3 := Lib.hid y3
     have Z1 := Lib.hid (Y1.out.kept hk23 (fun hn y hy hm => by have h9 := Q1.out hn y hy; simp at hm; omega)); have Z2_ := Lib.hid (Y2.out.kept hk23 (fun hn y hy hm => by have h9 := Q2.out hn y hy; simp at hm; omega))
     have HK23 := Lib.hid hk23
     clear hK hW3 hk3 hfz hk23 k0 k1 k2 k3 d0 d1 d2 d3 u0 u1 u2 u3 y0 y1 y2 y3 l0 l1 l2 l3 m0 m1 m2 m3 x0 x1 x2 x3 n0 e70 e71 e72 e73 f70 f71 f72 f73 e80 e81 e82 e83 f80 f81 f82 f83 hHeld
     refine wpAnyH_done (by kernel_rfl) ?_ _
     try simp only [Act.put, List.setIfInBounds_toArray, List.set_cons_zero, List.set_cons_succ]
     have l0 := L0.out; have m0 := M0.out; have y0 := V0.out
     have l1 := L1.out; have m1 := M1.out; have y1 := V1.out
     have l2 := L2.out; have m2 := M2.out; have y2 := V2.out
     have l3 := L3.out; have m3 := M3.out; have y3 := V3.out
     gi_wp2
     generalize hW4 : ((((W3.setCell ⟨g8, 0, none⟩ (.bool (isNeg (T (j + 1)).lo))).setCell ⟨g8, 1, none⟩ (.slice xa (mag (T (j + 1)).lo).length xc)).setCell ⟨g8, 2, none⟩ (.bool (isNeg (T (j + 1)).hi))).setCell ⟨g8, 3, none⟩ (.slice xb (mag (T (j + 1)).hi).length xd)) = W4
     have hk4 : Kept [g8] W3 W4 := by rw [← hW4]; exact ((((Kept.refl _ _).setCell _ _ (by simp)).setCell _ _ (by simp)).setCell _ _ (by simp)).setCell _ _ (by simp)
     obtain ⟨k0, k1, k2, k3⟩ := st4 hW4.symm l0 l1 l2 l3
     have hfz : ∀ x, W4.frozen? x = W3.frozen? x := by rw [← hW4]; intro x; simp only [World.frozen?_setCell]
     have hk5 : Kept [g7, g8] W₂ W4 := (HK23.out.mono (fun x hx _ => by simp at hx; simp [hx])).trans hk4 (fun x hx _ => by simp at hx; simp [hx])
     subst hgR
     exact ⟨hk5, Lib.hid (HB7.out.kept hk4 (fun x hx => by simp at hx; simp [hx]) (by simpa using hne)), Lib.hid ⟨xa, xc, xb, xd, k0, k1, k2, k3, (hfz _).trans m0, (hfz _).trans m1, (hfz _).trans m2, (hfz _).trans m3, Z1.out.kept hk4 (fun hn y hy hm => by have h9 := Q1.out hn y hy; simp at hm; omega), Z2_.out.kept hk4 (fun hn y hy hm => by have h9 := Q2.out hn y hy; simp at hm; omega), (fun hn y hy hm => by have h9 := Q1.out hn y hy; simp at hm; omega), (fun hn y hy hm => by have h9 := Q2.out hn y hy; simp at hm; omega)⟩, Lib.hid (HKF.out.trans hk5 (fun x hx => .inl hx))⟩
   ·skip
    have hm : decide (((j : Int) + 1) % 2 = 1) = false := decide_eq_false (by omega)
    have hmm : (((j : Int) + 1) % 2 == 1) = false := by simpa using hm
    have hsm : Sm (j + 1) = add2 (Sm j) (Pt (j + 1)) := by rw [HS.out j hj]; unfold put2; rw [if_neg ho]
    have HSM := Lib.hid hsm
    clear hsm
    gi_wp2
    have hHeld : RdS W₂ (w.heap.size + 1) g7 W.heap.size (.func (.func fad) #[] #[]) (.bool (isNeg (T (j + 1)).lo)) (.slice xa (mag (T (j + 1)).lo).length xc) (.bool (isNeg (T (j + 1)).hi)) (.slice xb (mag (T (j + 1)).hi).length xd) W₂.drew := ⟨n0, x0, x1, x2, x3, (Kept.refl [g7] W₂).drew⟩
    refine region_round (RdS W₂ (w.heap.size + 1) g7 W.heap.size (.func (.func fad) #[] #[]) (.bool (isNeg (T (j + 1)).lo)) (.slice xa (mag (T (j + 1)).lo).length xc) (.bool (isNeg (T (j + 1)).hi)) (.slice xb (mag (T (j + 1)).hi).length xd)) (by kernel_rfl) (by kernel_rfl) (fun ⟨_, _, h⟩ => by cases h.1) ?_
    refine take_d (i := 1) (d := 27) (v := .func (.func fad) #[] #[]) rfl rfl (by kernel_rfl) (by kernel_rfl) (by kernel_rfl) (fun _ _ _ h => h) (by rfl) ?_ hHeld ?_
    ·intro w9 hS9; obtain ⟨h5, t0, t1, t2, t3, _⟩ := hS9; go_simp
    simp only [List.setIfInBounds_toArray, List.set_cons_zero, List.set_cons_succ]
    refine take_d (i := 2) (d := 28) (v := .int .i64 ((j : Int) + 1)) rfl rfl (by kernel_rfl) (by kernel_rfl) (by kernel_rfl) (fun _ _ _ h => h) (by rfl) ?_ hHeld ?_
    ·intro w9 hS9; obtain ⟨h5, t0, t1, t2, t3, _⟩ := hS9; go_simp
    simp only [List.setIfInBounds_toArray, List.set_cons_zero, List.set_cons_succ]
    refine take_d (i := 3) (d := 29) (v := .agg #[.bool (isNeg (T (j + 1)).lo), .slice xa (mag (T (j + 1)).lo).length xc, .bool (isNeg (T (j + 1)).hi), .slice xb (mag (T (j + 1)).hi).length xd]) rfl rfl (by kernel_rfl) (by kernel_rfl) (by kernel_rfl) (fun _ _ _ h => h) (by rfl) ?_ hHeld ?_
    ·intro w9 hS9; obtain ⟨h5, t0, t1, t2, t3, _⟩ := hS9; go_simp
    simp only [List.setIfInBounds_toArray, List.set_cons_zero, List.set_cons_succ]
    refine wpAnyH_ready (rs := [0, 4]) (by kernel_rfl) (by simp) ?_
    refine AllReadyH.cons rfl (fun K hK => ?_) (AllReadyH.cons rfl (fun K hK => ?_) AllReadyH.nil)
    ·skip
     have d0 := (((Kept.refl [] W₂).drew)).cell (p := ⟨g7, 0, none⟩) e70 (by simp)
     have d1 := (((Kept.refl [] W₂).drew)).cell (p := ⟨g7, 1, none⟩) e71 (by simp)
     have d2 := (((Kept.refl [] W₂).drew)).cell (p := ⟨g7, 2, none⟩) e72 (by simp)
     have d3 := (((Kept.refl [] W₂).drew)).cell (p := ⟨g7, 3, none⟩) e73 (by simp)
     go_simp
     refine hK.out _ _ hHeld (fun hHeld => ?_)
     clear hK d0 d1 d2 d3
     try simp only [Act.put, List.setIfInBounds_toArray, List.set_cons_zero, List.set_cons_succ]
     refine wpAnyH_ready (rs := [4]) (by kernel_rfl) (by simp) ?_
     refine AllReadyH.cons rfl (fun K hK => ?_) AllReadyH.nil
     go_simp
     rw [show ∀ args w, Sem.run Tryz.prog (callFunc fad args) w = .ok (.enter fad args) w from ega, Oper.upon_enter]
     refine Calls.mono (HAD.out j _ xa xb xc xd hj (Y1.out.kept0 ((Kept.refl [] W₂).drew)) (Y2.out.kept0 ((Kept.refl [] W₂).drew))) ?_
     intro e v1 hh; unfold SpanN at hh; obtain ⟨p1, hh⟩ := hh; obtain ⟨p2, hh⟩ := hh; obtain ⟨p3, hh⟩ := hh; obtain ⟨p4, hh, hs1, ht1, hk1⟩ := hh; subst hh
     have zk1 := hk1.size; simp only [World.size_drew] at zk1
     have HS1 := Lib.hid hs1; have HT1 := Lib.hid ht1; have HK1 := Lib.hid hk1; clear hs1 ht1 hk1
     refine hK.out _ _ (hHeld.kept HK1.out) (fun hHeld => ?_)
     clear hK
     try simp only [Act.put, List.setIfInBounds_toArray, List.set_cons_zero, List.set_cons_succ]
     refine wpAnyH_ready (rs := [5]) (by kernel_rfl) (by simp) ?_
     refine AllReadyH.cons rfl (fun K hK => ?_) AllReadyH.nil
     go_simp
     have hk01 : Kept [] W₂ v1 := ((Kept.refl [] W₂).drew).trans0 HK1.out
     refine (AddSpan_zz (Sm j).lo (Sm j).hi _ _ _ _ (Pt (j + 1)).lo (Pt (j + 1)).hi _ _ _ _ (Sm (j + 1)).lo (Sm (j + 1)).hi _ (S71.out.kept0 hk01) (S72.out.kept0 hk01) HS1.out HT1.out (FS.out j (by omega)) (FP.out (j + 1) (by omega)) (FS.out (j + 1) (by omega)) HSM.out).mono ?_
     intro e v2 hh; unfold SpanRZ at hh; obtain ⟨p5, hh⟩ := hh; obtain ⟨p6, hh⟩ := hh; obtain ⟨p7, hh⟩ := hh; obtain ⟨p8, hh, hs2, ht2, hf2, hg2, hk2⟩ := hh; subst hh
     have zk2 := hk2.size
     have HS2 := Lib.hid hs2; have HT2 := Lib.hid ht2; have HF2 := Lib.hid hf2; have HG2 := Lib.hid hg2; have HK2 := Lib.hid (hk01.trans0 hk2)
     refine hK.out _ _ (hHeld.kept hk2) (fun hHeld => ?_)
     clear hK hs2 ht2 hf2 hg2 hk2 hk01
     try simp only [Act.put, List.setIfInBounds_toArray, List.set_cons_zero, List.set_cons_succ]
     refine take_d (i := 6) (d := 32) (v := .agg #[.bool (isNeg (Sm (j + 1)).lo), .slice p5 (mag (Sm (j + 1)).lo).length p6, .bool (isNeg (Sm (j + 1)).hi), .slice p7 (mag (Sm (j + 1)).hi).length p8]) rfl rfl (by kernel_rfl) (by kernel_rfl) (by kernel_rfl) (fun _ _ _ h => h) (by rfl) ?_ hHeld ?_
     ·intro w9 hS9; obtain ⟨h5, t0, t1, t2, t3, _⟩ := hS9; go_simp
     simp only [List.setIfInBounds_toArray, List.set_cons_zero, List.set_cons_succ]
     refine wpAnyH_ready (rs := [7]) (by kernel_rfl) (by simp) ?_
     refine AllReadyH.cons rfl (fun K hK => ?_) AllReadyH.nil
     have d0 := HK2.out.cell (p := ⟨g7, 0, none⟩) e70 (by simp)
     have u0 := HK2.out.free (p := ⟨g7, 0, none⟩) f70 (by simp; omega) (by simp)
     have d1 := HK2.out.cell (p := ⟨g7, 1, none⟩) e71 (by simp)
     have u1 := HK2.out.free (p := ⟨g7, 1, none⟩) f71 (by simp; omega) (by simp)
     have d2 := HK2.out.cell (p := ⟨g7, 2, none⟩) e72 (by simp)
     have u2 := HK2.out.free (p := ⟨g7, 2, none⟩) f72 (by simp; omega) (by simp)
     have d3 := HK2.out.cell (p := ⟨g7, 3, none⟩) e73 (by simp)
     have u3 := HK2.out.free (p := ⟨g7, 3, none⟩) f73 (by simp; omega) (by simp)
     go_simp
     generalize hW3 : ((((v2.setCell ⟨g7, 0, none⟩ (.bool (isNeg (Sm (j + 1)).lo))).setCell ⟨g7, 1, none⟩ (.slice p5 (mag (Sm (j + 1)).lo).length p6)).setCell ⟨g7, 2, none⟩ (.bool (isNeg (Sm (j + 1)).hi))).setCell ⟨g7, 3, none⟩ (.slice p7 (mag (Sm (j + 1)).hi).length p8)) = W3
     have hk3 : Kept [g7] v2 W3 := by rw [← hW3]; exact ((((Kept.refl _ _).setCell _ _ (by simp)).setCell _ _ (by simp)).setCell _ _ (by simp)).setCell _ _ (by simp)
     obtain ⟨k0, k1, k2, k3⟩ := st4 hW3.symm d0 d1 d2 d3
     have hfz : ∀ x, W3.frozen? x = v2.frozen? x := by rw [← hW3]; intro x; simp only [World.frozen?_setCell]
     have hk23 : Kept [g7] W₂ W3 := (HK2.out.mono (fun x hx _ => by cases hx)).trans hk3 (fun x hx _ => hx)
     have HB7 : Hid (SBox [gR, g7, g8, w2.heap.size, w2.heap.size + 1, w2.heap.size + 2] W3 g7 (Sm (j + 1))) := Lib.hid ⟨p5, p6, p7, p8, k0, k1, k2, k3, (hfz _).trans u0, (hfz _).trans u1, (hfz _).trans u2, (hfz _).trans u3, HS2.out.kept hk3 (fun hn y hy hm => by have h9 := HF2.out hn y hy; simp at hm; omega), HT2.out.kept hk3 (fun hn y hy hm => by have h9 := HG2.out hn y hy; simp at hm; omega), (fun hn y hy hm => by have h9 := HF2.out hn y hy; simp at hm; omega), (fun hn y hy hm => by have h9 := HG2.out hn y hy; simp at hm; omega)⟩
     refine hK.out _ _ (hHeld.set hk3 (by omega) (by omega)) (fun hHeld => ?_)
     have zk3 := hk3.size
     have l0 := hk23.cell (p := ⟨g8, 0, none⟩) e80 (by simp; omega)
     have m0 := hk23.free (p := ⟨g8, 0, none⟩) f80 (by simp; omega) (by simp; omega)
     have y0 := hk23.cell (p := ⟨W.heap.size, 0, none⟩) x0 (by simp; omega)
     have l1 := hk23.cell (p := ⟨g8, 1, none⟩) e81 (by simp; omega)
     have m1 := hk23.free (p := ⟨g8, 1, none⟩) f81 (by simp; omega) (by simp; omega)
     have y1 := hk23.cell (p := ⟨W.heap.size, 1, none⟩) x1 (by simp; omega)
     have l2 := hk23.cell (p := ⟨g8, 2, none⟩) e82 (by simp; omega)
     have m2 := hk23.free (p := ⟨g8, 2, none⟩) f82 (by simp; omega) (by simp; omega)
     have y2 := hk23.cell (p := ⟨W.heap.size, 2, none⟩) x2 (by simp; omega)
     have l3 := hk23.cell (p := ⟨g8, 3, none⟩) e83 (by simp; omega)
     have m3 := hk23.free (p := ⟨g8, 3, none⟩) f83 (by simp; omega) (by simp; omega)
     have y3 := hk23.cell (p := ⟨W.heap.size, 3, none⟩) x3 (by simp; omega)
     have L0 := Lib.hid l0; have M0 := Lib.hid m0; have V0 := Lib.hid y0
     have L1 := Lib.hid l1; have M1 := Lib.hid m1; have V1 := Lib.hid y1
     have L2 := Lib.hid l2; have M2 := Lib.hid m2; have V2 := Lib.hid y2
     have L3 := Lib.hid l3; have M3 := Lib.hid m3; have V3 := Lib.hid y3
     have Z1 := Lib.hid (Y1.out.kept hk23 (fun hn y hy hm => by have h9 := Q1.out hn y hy; simp at hm; omega)); have Z2_ := Lib.hid (Y2.out.kept hk23 (fun hn y hy hm => by have h9 := Q2.out hn y hy; simp at hm; omega))
     have HK23 := Lib.hid hk23
     clear hK hW3 hk3 hfz hk23 k0 k1 k2 k3 d0 d1 d2 d3 u0 u1 u2 u3 y0 y1 y2 y3 l0 l1 l2 l3 m0 m1 m2 m3 x0 x1 x2 x3 n0 e70 e71 e72 e73 f70 f71 f72 f73 e80 e81 e82 e83 f80 f81 f82 f83 hHeld
     refine wpAnyH_done (by kernel_rfl) ?_ _
     try simp only [Act.put, List.setIfInBounds_toArray, List.set_cons_zero, List.set_cons_succ]
     have l0 := L0.out; have m0 := M0.out; have y0 := V0.out
     have l1 := L1.out; have m1 := M1.out; have y1 := V1.out
     have l2 := L2.out; have m2 := M2.out; have y2 := V2.out
     have l3 := L3.out; have m3 := M3.out; have y3 := V3.out
     gi_wp2
     generalize hW4 : ((((W3.setCell ⟨g8, 0, none⟩ (.bool (isNeg (T (j + 1)).lo))).setCell ⟨g8, 1, none⟩ (.slice xa (mag (T (j + 1)).lo).length xc)).setCell ⟨g8, 2, none⟩ (.bool (isNeg (T (j + 1)).hi))).setCell ⟨g8, 3, none⟩ (.slice xb (mag (T (j + 1)).hi).length xd)) = W4
     have hk4 : Kept [g8] W3 W4 := by rw [← hW4]; exact ((((Kept.refl _ _).setCell _ _ (by simp)).setCell _ _ (by simp)).setCell _ _ (by simp)).setCell _ _ (by simp)
     obtain ⟨k0, k1, k2, k3⟩ := st4 hW4.symm l0 l1 l2 l3
     have hfz : ∀ x, W4.frozen? x = W3.frozen? x := by rw [← hW4]; intro x; simp only [World.frozen?_setCell]
     have hk5 : Kept [g7, g8] W₂ W4 := (HK23.out.mono (fun x hx _ => by simp at hx; simp [hx])).trans hk4 (fun x hx _ => by simp at hx; simp [hx])
     subst hgR
     exact ⟨hk5, Lib.hid (HB7.out.kept hk4 (fun x hx => by simp at hx; simp [hx]) (by simpa using hne)), Lib.hid ⟨xa, xc, xb, xd, k0, k1, k2, k3, (hfz _).trans m0, (hfz _).trans m1, (hfz _).trans m2, (hfz _).trans m3, Z1.out.kept hk4 (fun hn y hy hm => by have h9 := Q1.out hn y hy; simp at hm; omega), Z2_.out.kept hk4 (fun hn y hy hm => by have h9 := Q2.out hn y hy; simp at hm; omega), (fun hn y hy hm => by have h9 := Q1.out hn y hy; simp at hm; omega), (fun hn y hy hm => by have h9 := Q2.out hn y hy; simp at hm; omega)⟩, Lib.hid (HKF.out.trans hk5 (fun x hx => .inl hx))⟩
    ·skip
     go_simp
     rw [show ∀ args w, Sem.run Tryz.prog (callFunc fad args) w = .ok (.enter fad args) w from ega, Oper.upon_enter]
     refine Calls.mono (HAD.out j _ xa xb xc xd hj (Y1.out.kept0 ((Kept.refl [] W₂).drew)) (Y2.out.kept0 ((Kept.refl [] W₂).drew))) ?_
     intro e v1 hh; unfold SpanN at hh; obtain ⟨p1, hh⟩ := hh; obtain ⟨p2, hh⟩ := hh; obtain ⟨p3, hh⟩ := hh; obtain ⟨p4, hh, hs1, ht1, hk1⟩ := hh; subst hh
     have zk1 := hk1.size; simp only [World.size_drew] at zk1
     have HS1 := Lib.hid hs1; have HT1 := Lib.hid ht1; have HK1 := Lib.hid hk1; clear hs1 ht1 hk1
     refine hK.out _ _ (hHeld.kept HK1.out) (fun hHeld => ?_)
     clear hK
     try simp only [Act.put, List.setIfInBounds_toArray, List.set_cons_zero, List.set_cons_succ]
     refine wpAnyH_ready (rs := [0]) (by kernel_rfl) (by simp) ?_
     refine AllReadyH.cons rfl (fun K hK => ?_) AllReadyH.nil
     have d0 := ((((Kept.refl [] W₂).drew).trans0 HK1.out)).cell (p := ⟨g7, 0, none⟩) e70 (by simp)
     have d1 := ((((Kept.refl [] W₂).drew).trans0 HK1.out)).cell (p := ⟨g7, 1, none⟩) e71 (by simp)
     have d2 := ((((Kept.refl [] W₂).drew).trans0 HK1.out)).cell (p := ⟨g7, 2, none⟩) e72 (by simp)
     have d3 := ((((Kept.refl [] W₂).drew).trans0 HK1.out)).cell (p := ⟨g7, 3, none⟩) e73 (by simp)
     go_simp
     refine hK.out _ _ hHeld (fun hHeld => ?_)
     clear hK d0 d1 d2 d3
     try simp only [Act.put, List.setIfInBounds_toArray, List.set_cons_zero, List.set_cons_succ]
     refine wpAnyH_ready (rs := [5]) (by kernel_rfl) (by simp) ?_
     refine AllReadyH.cons rfl (fun K hK => ?_) AllReadyH.nil
     go_simp
     have hk01 : Kept [] W₂ v1 := ((Kept.refl [] W₂).drew).trans0 HK1.out
     refine (AddSpan_zz (Sm j).lo (Sm j).hi _ _ _ _ (Pt (j + 1)).lo (Pt (j + 1)).hi _ _ _ _ (Sm (j + 1)).lo (Sm (j + 1)).hi _ (S71.out.kept0 hk01) (S72.out.kept0 hk01) HS1.out HT1.out (FS.out j (by omega)) (FP.out (j + 1) (by omega)) (FS.out (j + 1) (by omega)) HSM.out).mono ?_
     intro e v2 hh; unfold SpanRZ at hh; obtain ⟨p5, hh⟩ := hh; obtain ⟨p6, hh⟩ := hh; obtain ⟨p7, hh⟩ := hh; obtain ⟨p8, hh, hs2, ht2, hf2, hg2, hk2⟩ := hh; subst hh
     have zk2 := hk2.size
     have HS2 := Lib.hid hs2; have HT2 := Lib.hid ht2; have HF2 := Lib.hid hf2; have HG2 := Lib.hid hg2; have HK2 := Lib.hid (hk01.trans0 hk2)
     refine hK.out _ _ (hHeld.kept hk2) (fun hHeld => ?_)
     clear hK hs2 ht2 hf2 hg2 hk2 hk01
     try simp only [Act.put, List.setIfInBounds_toArray, List.set_cons_zero, List.set_cons_succ]
     refine take_d (i := 6) (d := 32) (v := .agg #[.bool (isNeg (Sm (j + 1)).lo), .slice p5 (mag (Sm (j + 1)).lo).length p6, .bool (isNeg (Sm (j + 1)).hi), .slice p7 (mag (Sm (j + 1)).hi).length p8]) rfl rfl (by kernel_rfl) (by kernel_rfl) (by kernel_rfl) (fun _ _ _ h => h) (by rfl) ?_ hHeld ?_
     ·intro w9 hS9; obtain ⟨h5, t0, t1, t2, t3, _⟩ := hS9; go_simp
     simp only [List.setIfInBounds_toArray, List.set_cons_zero, List.set_cons_succ]
     refine wpAnyH_ready (rs := [7]) (by kernel_rfl) (by simp) ?_
     refine AllReadyH.cons rfl (fun K hK => ?_) AllReadyH.nil
     have d0 := HK2.out.cell (p := ⟨g7, 0, none⟩) e70 (by simp)
     have u0 := HK2.out.free (p := ⟨g7, 0, none⟩) f70 (by simp; omega) (by simp)
     have d1 := HK2.out.cell (p := ⟨g7, 1, none⟩) e71 (by simp)
     have u1 := HK2.out.free (p := ⟨g7, 1, none⟩) f71 (by simp; omega) (by simp)
     have d2 := HK2.out.cell (p := ⟨g7, 2, none⟩) e72 (by simp)
     have u2 := HK2.out.free (p := ⟨g7, 2, none⟩) f72 (by simp; omega) (by simp)
     have d3 := HK2.out.cell (p := ⟨g7, 3, none⟩) e73 (by simp)
     have u3 := HK2.out.free (p := ⟨g7, 3, none⟩) f73 (by simp; omega) (by simp)
     go_simp
     generalize hW3 : ((((v2.setCell ⟨g7, 0, none⟩ (.bool (isNeg (Sm (j + 1)).lo))).setCell ⟨g7, 1, none⟩ (.slice p5 (mag (Sm (j + 1)).lo).length p6)).setCell ⟨g7, 2, none⟩ (.bool (isNeg (Sm (j + 1)).hi))).setCell ⟨g7, 3, none⟩ (.slice p7 (mag (Sm (j + 1)).hi).length p8)) = W3
     have hk3 : Kept [g7] v2 W3 := by rw [← hW3]; exact ((((Kept.refl _ _).setCell _ _ (by simp)).setCell _ _ (by simp)).setCell _ _ (by simp)).setCell _ _ (by simp)
     obtain ⟨k0, k1, k2, k3⟩ := st4 hW3.symm d0 d1 d2 d3
     have hfz : ∀ x, W3.frozen? x = v2.frozen? x := by rw [← hW3]; intro x; simp only [World.frozen?_setCell]
     have hk23 : Kept [g7] W₂ W3 := (HK2.out.mono (fun x hx _ => by cases hx)).trans hk3 (fun x hx _ => hx)
     have HB7 : Hid (SBox [gR, g7, g8, w2.heap.size, w2.heap.size + 1, w2.heap.size + 2] W3 g7 (Sm (j + 1))) := Lib.hid ⟨p5, p6, p7, p8, k0, k1, k2, k3, (hfz _).trans u0, (hfz _).trans u1, (hfz _).trans u2, (hfz _).trans u3, HS2.out.kept hk3 (fun hn y hy hm => by have h9 := HF2.out hn y hy; simp at hm; omega), HT2.out.kept hk3 (fun hn y hy hm => by have h9 := HG2.out hn y hy; simp at hm; omega), (fun hn y hy hm => by have h9 := HF2.out hn y hy; simp at hm; omega), (fun hn y hy hm => by have h9 := HG2.out hn y hy; simp at hm; omega)⟩
     refine hK.out _ _ (hHeld.set hk3 (by omega) (by omega)) (fun hHeld => ?_)
     have zk3 := hk3.size
     have l0 := hk23.cell (p := ⟨g8, 0, none⟩) e80 (by simp; omega)
     have m0 := hk23.free (p := ⟨g8, 0, none⟩) f80 (by simp; omega) (by simp; omega)
     have y0 := hk23.cell (p := ⟨W.heap.size, 0, none⟩) x0 (by simp; omega)
     have l1 := hk23.cell (p := ⟨g8, 1, none⟩) e81 (by simp; omega)
     have m1 := hk23.free (p := ⟨g8, 1, none⟩) f81 (by simp; omega) (by simp; omega)
     have y1 := hk23.cell (p := ⟨W.heap.size, 1, none⟩) x1 (by simp; omega)
     have l2 := hk23.cell (p := ⟨g8, 2, none⟩) e82 (by simp; omega)
     have m2 := hk23.free (p := ⟨g8, 2, none⟩) f82 (by simp; omega) (by simp; omega)
     have y2 := hk23.cell (p := ⟨W.heap.size, 2, none⟩) x2 (by simp; omega)
     have l3 := hk23.cell (p := ⟨g8, 3, none⟩) e83 (by simp; omega)
     have m3 := hk23.free (p := ⟨g8, 3, none⟩) f83 (by simp; omega) (by simp; omega)
     have y3 := hk23.cell (p := ⟨W.heap.size, 3, none⟩) x3 (by simp; omega)
     have L0 := Lib.hid l0; have M0 := Lib.hid m0; have V0 := Lib.hid y0
     have L1 := Lib.hid l1; have M1 := Lib.hid m1; have V1 := Lib.hid y1
     have L2 := Lib.hid l2; have M2 := Lib.hid m2; have V2 := Lib.hid y2
     have L3 := Lib.hid l3; have M3 := Lib.hid m3; have V3 := Lib.hid y3
     have Z1 := Lib.hid (Y1.out.kept hk23 (fun hn y hy hm => by have h9 := Q1.out hn y hy; simp at hm; omega)); have Z2_ := Lib.hid (Y2.out.kept hk23 (fun hn y hy hm => by have h9 := Q2.out hn y hy; simp at hm; omega))
     have HK23 := Lib.hid hk23
     clear hK hW3 hk3 hfz hk23 k0 k1 k2 k3 d0 d1 d2 d3 u0 u1 u2 u3 y0 y1 y2 y3 l0 l1 l2 l3 m0 m1 m2 m3 x0 x1 x2 x3 n0 e70 e71 e72 e73 f70 f71 f72 f73 e80 e81 e82 e83 f80 f81 f82 f83 hHeld
     refine wpAnyH_done (by kernel_rfl) ?_ _
     try simp only [Act.put, List.setIfInBounds_toArray, List.set_cons_zero, List.set_cons_succ]
     have l0 := L0.out; have m0 := M0.out; have y0 := V0.out
     have l1 := L1.out; have m1 := M1.out; have y1 := V1.out
     have l2 := L2.out; have m2 := M2.out; have y2 := V2.out
     have l3 := L3.out; have m3 := M3.out; have y3 := V3.out
     gi_wp2
     generalize hW4 : ((((W3.setCell ⟨g8, 0, none⟩ (.bool (isNeg (T (j + 1)).lo))).setCell ⟨g8, 1, none⟩ (.slice xa (mag (T (j + 1)).lo).length xc)).setCell ⟨g8, 2, none⟩ (.bool (isNeg (T (j + 1)).hi))).setCell ⟨g8, 3, none⟩ (.slice xb (mag (T (j + 1)).hi).length xd)) = W4
     have hk4 : Kept [g8] W3 W4 := by rw [← hW4]; exact ((((Kept.refl _ _).setCell _ _ (by simp)).setCell _ _ (by simp)).setCell _ _ (by simp)).setCell _ _ (by simp)
     obtain ⟨k0, k1, k2, k3⟩ := st4 hW4.symm l0 l1 l2 l3
     have hfz : ∀ x, W4.frozen? x = W3.frozen? x := by rw [← hW4]; intro x; simp only [World.frozen?_setCell]
     have hk5 : Kept [g7, g8] W₂ W4 := (HK23.out.mono (fun x hx _ => by simp at hx; simp [hx])).trans hk4 (fun x hx _ => by simp at hx; simp [hx])
     subst hgR
     exact ⟨hk5, Lib.hid (HB7.out.kept hk4 (fun x hx => by simp at hx; simp [hx]) (by simpa using hne)), Lib.hid ⟨xa, xc, xb, xd, k0, k1, k2, k3, (hfz _).trans m0, (hfz _).trans m1, (hfz _).trans m2, (hfz _).trans m3, Z1.out.kept hk4 (fun hn y hy hm => by have h9 := Q1.out hn y hy; simp at hm; omega), Z2_.out.kept hk4 (fun hn y hy hm => by have h9 := Q2.out hn y hy; simp at hm; omega), (fun hn y hy hm => by have h9 := Q1.out hn y hy; simp at hm; omega), (fun hn y hy hm => by have h9 := Q2.out hn y hy; simp at hm; omega)⟩, Lib.hid (HKF.out.trans hk5 (fun x hx => .inl hx))⟩
  case hdone =>
   rintro D W hD ⟨h7, h8, hf⟩ hzW hdef
   obtain ⟨a7, c7, b7, d7, e70, e71, e72, e73, _, _, _, _, s71, s72, _, _⟩ := h7.out
   obtain ⟨a8, c8, b8, d8, e80, e81, e82, e83, _, _, _, _, s81, s82, _, _⟩ := h8.out
   have S71 := Lib.hid s71; have S72 := Lib.hid s72; have S81 := Lib.hid s81; have S82 := Lib.hid s82
   obtain ⟨L9, hkL, hL9⟩ := hf.out
   have hRL : w.heap.size + 1 + 1 ∉ L9 := fun hm => by rcases hL9 _ hm with h | h; (simp at h; omega); omega
   have r0 := hkL.cell (p := ⟨w.heap.size + 1 + 1, 0, none⟩) (HKW.out.cell R0.out.1 (by simp)) hRL; have q0 := hkL.free (p := ⟨w.heap.size + 1 + 1, 0, none⟩) (HKW.out.free R0.out.2.1 R0.out.2.2 (by simp)) (by simp; omega) hRL
   have r1 := hkL.cell (p := ⟨w.heap.size + 1 + 1, 1, none⟩) (HKW.out.cell R1.out.1 (by simp)) hRL; have q1 := hkL.free (p := ⟨w.heap.size + 1 + 1, 1, none⟩) (HKW.out.free R1.out.2.1 R1.out.2.2 (by simp)) (by simp; omega) hRL
   have r2 := hkL.cell (p := ⟨w.heap.size + 1 + 1, 2, none⟩) (HKW.out.cell R2.out.1 (by simp)) hRL; have q2 := hkL.free (p := ⟨w.heap.size + 1 + 1, 2, none⟩) (HKW.out.free R2.out.2.1 R2.out.2.2 (by simp)) (by simp; omega) hRL
   have r3 := hkL.cell (p := ⟨w.heap.size + 1 + 1, 3, none⟩) (HKW.out.cell R3.out.1 (by simp)) hRL; have q3 := hkL.free (p := ⟨w.heap.size + 1 + 1, 3, none⟩) (HKW.out.free R3.out.2.1 R3.out.2.2 (by simp)) (by simp; omega) hRL
   have r4 := hkL.cell (p := ⟨w.heap.size + 1 + 1, 4, none⟩) (HKW.out.cell R4.out.1 (by simp)) hRL; have q4 := hkL.free (p := ⟨w.heap.size + 1 + 1, 4, none⟩) (HKW.out.free R4.out.2.1 R4.out.2.2 (by simp)) (by simp; omega) hRL
   have HKL := Lib.hid (show KeptFrom [g7, g8] w2.heap.size w2 W from ⟨L9, hkL, hL9⟩)
   clear s71 s72 s81 s82 h7 h8 hf hkL hL9 hRL
   show Kx _ _
   refine hKx _ _ ?_
   clear hKx
   have hHeld : RdT W (w.heap.size + 1 + 1) g7 g8 (.bool (isNeg (Sm N).lo)) (.slice a7 (mag (Sm N).lo).length c7) (.bool (isNeg (Sm N).hi)) (.slice b7 (mag (Sm N).hi).length d7) (.bool (isNeg (T N).lo)) (.slice a8 (mag (T N).lo).length c8) (.bool (isNeg (T N).hi)) (.slice b8 (mag (T N).hi).length d8) W.drew := ⟨e70, e71, e72, e73, e80, e81, e82, e83, (Kept.refl [w.heap.size + 1 + 1] W).drew⟩
   have RR0 := Lib.hid r0; have QQ0 := Lib.hid q0
   have RR1 := Lib.hid r1; have QQ1 := Lib.hid q1
   have RR2 := Lib.hid r2; have QQ2 := Lib.hid q2
   have RR3 := Lib.hid r3; have QQ3 := Lib.hid q3
   have RR4 := Lib.hid r4; have QQ4 := Lib.hid q4
   have HD := Lib.hid hdef
   have RL := Lib.hid (World.block_lt_of_cell? _ _ r0)
   clear r0 r1 r2 r3 r4 q0 q1 q2 q3 q4 e70 e71 e72 e73 e80 e81 e82 e83 hdef
   go_wp2_with fail
   refine wp_region_noPanic ?_
   refine wp_region_held_drew (S := RdT W (w.heap.size + 1 + 1) g7 g8 (.bool (isNeg (Sm N).lo)) (.slice a7 (mag (Sm N).lo).length c7) (.bool (isNeg (Sm N).hi)) (.slice b7 (mag (Sm N).hi).length d7) (.bool (isNeg (T N).lo)) (.slice a8 (mag (T N).lo).length c8) (.bool (isNeg (T N).hi)) (.slice b8 (mag (T N).hi).length d8)) (by kernel_rfl) hHeld (fun hHeld => ?_)
   refine take_d (i := 0) (d := 34) (v := Value.agg #[.bool (isNeg (Sm N).lo), .slice a7 (mag (Sm N).lo).length c7, .bool (isNeg (Sm N).hi), .slice b7 (mag (Sm N).hi).length d7]) rfl rfl (by kernel_rfl) (by kernel_rfl) (by kernel_rfl) (fun _ _ _ h => h) (by rfl) ?_ hHeld ?_
   ·intro w9 hS9; obtain ⟨t0, t1, t2, t3, s0, s1, s2, s3, _⟩ := hS9; go_simp
   simp only [List.setIfInBounds_toArray, List.set_cons_zero, List.set_cons_succ]
   refine take_d (i := 1) (d := 35) (v := Value.agg #[.bool (isNeg (T N).lo), .slice a8 (mag (T N).lo).length c8, .bool (isNeg (T N).hi), .slice b8 (mag (T N).hi).length d8]) rfl rfl (by kernel_rfl) (by kernel_rfl) (by kernel_rfl) (fun _ _ _ h => h) (by rfl) ?_ hHeld ?_
   ·intro w9 hS9; obtain ⟨t0, t1, t2, t3, s0, s1, s2, s3, _⟩ := hS9; go_simp
   simp only [List.setIfInBounds_toArray, List.set_cons_zero, List.set_cons_succ]
   refine wpAnyH_ready (rs := [2]) (by kernel_rfl) (by simp) ?_
   refine AllReadyH.cons rfl (fun K hK => ?_) AllReadyH.nil
   go_simp
   refine (swingOf_zz (T N).lo (T N).hi _ _ _ _ (swing2 (T N)).lo (swing2 (T N)).hi _ (S81.out.kept0 ((Kept.refl [] W).drew)) (S82.out.kept0 ((Kept.refl [] W).drew)) (FT.out N (Nat.le_refl _)).2.1 (FT.out N (Nat.le_refl _)).2.2 rfl).mono ?_
   intro e v1 hh; unfold SpanN at hh; obtain ⟨p1, hh⟩ := hh; obtain ⟨p2, hh⟩ := hh; obtain ⟨p3, hh⟩ := hh; obtain ⟨p4, hh, hs1, ht1, hk1⟩ := hh; subst hh
   have HS1 := Lib.hid hs1; have HT1 := Lib.hid ht1; have HK1 := Lib.hid hk1; clear hs1 ht1 hk1
   refine hK.out _ _ (hHeld.kept HK1.out) (fun hHeld => ?_)
   clear hK
   try simp only [Act.put, List.setIfInBounds_toArray, List.set_cons_zero, List.set_cons_succ]
   refine wpAnyH_ready (rs := [3]) (by kernel_rfl) (by simp) ?_
   refine AllReadyH.cons rfl (fun K hK => ?_) AllReadyH.nil
   go_simp
   have hk01 : Kept [] W v1 := ((Kept.refl [] W).drew).trans0 HK1.out
   refine (AddSpan_zr (Sm N).lo (Sm N).hi _ _ _ _ (swing2 (T N)).lo (swing2 (T N)).hi _ _ _ _ o1 o2 _ (S71.out.kept0 hk01) (S72.out.kept0 hk01) HS1.out HT1.out (FS.out N (Nat.le_refl _)) fW fo HO.out).mono ?_
   intro e v2 hh; unfold SpanR at hh; obtain ⟨p5, hh⟩ := hh; obtain ⟨p6, hh⟩ := hh; obtain ⟨p7, hh⟩ := hh; obtain ⟨p8, hh, hs2, ht2, hf2, hg2, hne2, hk2⟩ := hh; dsimp only at hh hs2 ht2 hf2 hg2 hne2; subst hh; have HNE2 := Lib.hid hne2; clear hne2
   have HS2 := Lib.hid hs2; have HT2 := Lib.hid ht2; have HF2 := Lib.hid hf2; have HG2 := Lib.hid hg2; have HK2 := Lib.hid (hk01.trans0 hk2)
   have zk2 := HK2.out.size; have zk1 := hk01.size
   refine hK.out _ _ (hHeld.kept hk2) (fun hHeld => ?_)
   clear hK hs2 ht2 hf2 hg2 hk2 hk01
   try simp only [Act.put, List.setIfInBounds_toArray, List.set_cons_zero, List.set_cons_succ]
   refine wpAnyH_ready (rs := [4]) (by kernel_rfl) (by simp) ?_
   refine AllReadyH.cons rfl (fun K hK => ?_) AllReadyH.nil
   have r0 := HK2.out.cell (p := ⟨w.heap.size + 1 + 1, 0, none⟩) RR0.out (by simp); have q0 := HK2.out.free (p := ⟨w.heap.size + 1 + 1, 0, none⟩) QQ0.out RL.out (by simp)
   have r1 := HK2.out.cell (p := ⟨w.heap.size + 1 + 1, 1, none⟩) RR1.out (by simp); have q1 := HK2.out.free (p := ⟨w.heap.size + 1 + 1, 1, none⟩) QQ1.out RL.out (by simp)
   have r2 := HK2.out.cell (p := ⟨w.heap.size + 1 + 1, 2, none⟩) RR2.out (by simp); have q2 := HK2.out.free (p := ⟨w.heap.size + 1 + 1, 2, none⟩) QQ2.out RL.out (by simp)
   have r3 := HK2.out.cell (p := ⟨w.heap.size + 1 + 1, 3, none⟩) RR3.out (by simp); have q3 := HK2.out.free (p := ⟨w.heap.size + 1 + 1, 3, none⟩) QQ3.out RL.out (by simp)
   have r4 := HK2.out.cell (p := ⟨w.heap.size + 1 + 1, 4, none⟩) RR4.out (by simp); have q4 := HK2.out.free (p := ⟨w.heap.size + 1 + 1, 4, none⟩) QQ4.out RL.out (by simp)
   go_simp
   generalize hW3 : (((((v2.setCell ⟨w.heap.size + 1 + 1, 0, none⟩ (.int .i64 0)).setCell ⟨w.heap.size + 1 + 1, 1, none⟩ (.bool (isNeg o1))).setCell ⟨w.heap.size + 1 + 1, 2, none⟩ (.slice p5 (mag o1).length p6)).setCell ⟨w.heap.size + 1 + 1, 3, none⟩ (.bool (isNeg o2))).setCell ⟨w.heap.size + 1 + 1, 4, none⟩ (.slice p7 (mag o2).length p8)) = W3
   have hk3 : Kept [w.heap.size + 1 + 1] v2 W3 := by rw [← hW3]; exact (((((Kept.refl _ _).setCell _ _ (by simp)).setCell _ _ (by simp)).setCell _ _ (by simp)).setCell _ _ (by simp)).setCell _ _ (by simp)
   obtain ⟨k0, k1, k2, k3, k4⟩ := st5 hW3.symm r0 r1 r2 r3 r4
   refine hK.out _ _ (hHeld.set hk3 (by omega) (by omega)) (fun hHeld => ?_)
   have hdl := (Array.getElem?_eq_some_iff.1 HD.out).1
   have zkd := HK2.out.size
   have hDn : W3.heap[D]? = some (.deferred (some [])) := (hk3.block _ (by omega) (by simp; omega)).trans ((HK2.out.block _ (by omega) (by simp)).trans HD.out)
   have HS3 := Lib.hid (HS2.out.kept hk3 (fun hn y hy hm => by have h9 := HF2.out hn y hy; simp at hm; omega)); have HT3 := Lib.hid (HT2.out.kept hk3 (fun hn y hy hm => by have h9 := HG2.out hn y hy; simp at hm; omega))
   have HK3 := Lib.hid hk3; have HDN := Lib.hid hDn
   have E0 := Lib.hid k0; have E1 := Lib.hid k1; have E2 := Lib.hid k2; have E3 := Lib.hid k3; have E4 := Lib.hid k4
   clear hK hW3 hk3 hDn r0 r1 r2 r3 r4 q0 q1 q2 q3 q4 k0 k1 k2 k3 k4
   refine wpAnyH_done (by kernel_rfl) ?_ _
   refine NoPanic.normal ?_
   try simp only [Act.put, List.setIfInBounds_toArray, List.set_cons_zero, List.set_cons_succ]
   go_wp2_with fail
   refine ⟨by simp, .inl ⟨_, _, rfl, run_takeDeferred HDN.out, ?_⟩⟩
   have kp : Kept [D] W3 (W3.putObj D (.deferred none)) := kept_putObj
   have m0 := kp.cell (p := ⟨w.heap.size + 1 + 1, 0, none⟩) E0.out (by simp; omega)
   have m1 := kp.cell (p := ⟨w.heap.size + 1 + 1, 1, none⟩) E1.out (by simp; omega)
   have m2 := kp.cell (p := ⟨w.heap.size + 1 + 1, 2, none⟩) E2.out (by simp; omega)
   have m3 := kp.cell (p := ⟨w.heap.size + 1 + 1, 3, none⟩) E3.out (by simp; omega)
   have m4 := kp.cell (p := ⟨w.heap.size + 1 + 1, 4, none⟩) E4.out (by simp; omega)
   obtain ⟨L9, hkL, hL9⟩ := HKL.out
   have kW : Kept [] w W := K2.out.trans hkL (fun x hx hlt => by rcases hL9 x hx with h | h; (simp at h; omega); omega)
   have kE : Kept [] w (W3.putObj D (.deferred none)) := ((kW.trans0 HK2.out).trans HK3.out (fun x hx hlt => by simp at hx; omega)).trans kp (fun x hx hlt => by simp at hx; omega)
   refine ⟨.agg #[.int .i64 0, .bool (isNeg o1), .slice p5 (mag o1).length p6, .bool (isNeg o2), .slice p7 (mag o2).length p8], by simp [results, Tryz.results123, go_sem, m0, m1, m2, m3, m4], ?_⟩
   exact ⟨p5, p6, p7, p8, rfl, HS3.out.kept kp (fun hn y hy hm => by have h9 := HF2.out hn y hy; simp at hm; omega), HT3.out.kept kp (fun hn y hy hm => by have h9 := HG2.out hn y hy; simp at hm; omega), HF2.out.mono (B' := w.heap.size) (by omega), HG2.out.mono (B' := w.heap.size) (by omega), HNE2.out, kE⟩

end Go.Proofs.YtfafjijoeanbhaaGreat
