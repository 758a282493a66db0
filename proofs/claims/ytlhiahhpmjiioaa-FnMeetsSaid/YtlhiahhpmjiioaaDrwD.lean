/-
  The draws of bigs: contracts of l2Draw, l2Bent, DrawBigOf, DrawAddBigs, DrawBigValue, DrawFloorDiv, DrawFloorRoot, DrawCompareBigs. Condition: the bytes are at most 1048576.
-/
import Derived.Test.YtlhiahhpmjiioaaDrwB
import Derived.Test.YtlhiahhpmjiioaaBigE
import Derived.Test.YtlhiahhpmjiioaaBigOf
import Derived.Test.YtlhiahhpmjiioaaJ1
namespace Go.Proofs.Ytlhiahhpmjiioaa
open Go.RowKit

theorem box2 {w w1 : World} {L : List Nat} {T : TypeId} {v0 v1 : Value} (hk : Kept L (w.alloc (.cells #[v0, v1] T)) w1) (hg : w.heap.size ∉ L) :
    w1.cell? ⟨w.heap.size, 0, none⟩ = some v0 ∧ w1.cell? ⟨w.heap.size, 1, none⟩ = some v1 ∧ w1.frozen? ⟨w.heap.size, 0, none⟩ = false ∧ w1.frozen? ⟨w.heap.size, 1, none⟩ = false ∧ w.heap.size + 1 ≤ w1.heap.size :=
  ⟨hk.cell (p := ⟨w.heap.size, 0, none⟩) (by simp) hg, hk.cell (p := ⟨w.heap.size, 1, none⟩) (by simp) hg, hk.free (p := ⟨w.heap.size, 0, none⟩) (by simp) (by simp) hg, hk.free (p := ⟨w.heap.size, 1, none⟩) (by simp) (by simp) hg, by have := hk.size; simpa using this⟩
theorem kset2 (w : World) (R : Nat) (u0 u1 : Value) : Kept [R] w ((w.setCell ⟨R, 0, none⟩ u0).setCell ⟨R, 1, none⟩ u1) := ((Kept.refl [R] w).setCell _ _ (by simp)).setCell _ _ (by simp)

/-- What a draw of a big answers. -/
def BigDR (w : World) (g : Nat) (a : Option Addr) (n c : Nat) (bs : List Int) (top : Int) (len : Nat) (e : Ending) (w' : World) : Prop :=
  ∃ p av cv xs at2, e = .returned (.agg #[.bool p, .slice av xs.length cv]) ∧ Sl w' av xs.length cv xs ∧ Fr w.heap.size av xs.length ∧ Near xs ∧ xs.length ≤ len ∧ Src w' g a n c bs at2 ∧ at2 ≤ top ∧ Kept [g] w w'
/-- The like, a number's limbs. -/
def BigCR (w : World) (g : Nat) (a : Option Addr) (n c : Nat) (bs : List Int) (at_ most : Int) (e : Ending) (w' : World) : Prop :=
  ∃ p av cv x at2, e = .returned (.agg #[.bool p, .slice av (digits x).length cv]) ∧ Sl w' av (digits x).length cv (digits x) ∧ Fr w.heap.size av (digits x).length ∧ 0 ≤ x ∧ ((digits x).length : Int) ≤ most ∧ Src w' g a n c bs at2 ∧ at2 ≤ at_ + 2 + 2 * most ∧ Kept [g] w w'

/-- The end of a draw whose answer lies in a box of two cells. -/
theorem box_end {w w1 : World} {g : Nat} {a : Option Addr} {n c : Nat} {bs : List Int} {at2 : Int} {T : TypeId} {v0 v1 u0 u1 : Value} {av : Option Addr} {m cv : Nat} {xs : List Int}
    (hg : g < w.heap.size) (h0 : ∀ x, 0 < n → a = some x → x.block < w.heap.size) (hk : Kept [g] (w.alloc (.cells #[v0, v1] T)) w1) (hs : Sl w1 av m cv xs) (hf : Fr (w.heap.size + 1) av m) (hS : Src w1 g a n c bs at2) :
    Sl ((w1.setCell ⟨w.heap.size, 0, none⟩ u0).setCell ⟨w.heap.size, 1, none⟩ u1) av m cv xs ∧ Fr w.heap.size av m ∧ Src ((w1.setCell ⟨w.heap.size, 0, none⟩ u0).setCell ⟨w.heap.size, 1, none⟩ u1) g a n c bs at2 ∧ Kept [g] w ((w1.setCell ⟨w.heap.size, 0, none⟩ u0).setCell ⟨w.heap.size, 1, none⟩ u1) :=
  ⟨hs.kept (kset2 _ _ _ _) (fun hn x hx => by have := hf hn x hx; simp; omega), hf.mono (by omega),
   hS.kept (kset2 _ _ _ _) (by simp; omega) (fun hn x hx => by have := h0 x hn hx; simp; omega),
   (((Kept.refl [g] w).alloc _).trans hk (fun _ h _ => h)).trans (kset2 _ _ _ _) (fun x hx hlt => by simp at hx; omega)⟩
theorem Src.alt {w : World} {g : Nat} {a : Option Addr} {n c : Nat} {bs : List Int} {at_ : Int} (h : Src w g a n c bs at_) : ∀ x, 0 < n → a = some x → x.block < w.heap.size := fun x hn hx => h.2.2.2.1.lt hn x hx

set_option maxHeartbeats 2000000 in
theorem l2Draw_any (g : Nat) (a : Option Addr) (n c : Nat) (bs : List Int) (at_ most : Int) (w : World) (h : Src w g a n c bs at_) (ha : at_ ≤ 800000) (hm : 0 ≤ most ∧ most ≤ 40) :
    Calls Try.prog 38 #[.pointer (some ⟨g, 0, none⟩), .int .i64 most] w (BigCR w g a n c bs at_ most) := by
  have hgl := h.lt
  have halt := Lib.hid h.alt
  have HS := Lib.hid h
  clear h
  go_enter Try.func38, Try.ntmps38
  go_wp2_with fail
  refine (l1Chance_any g a n c bs at_ 2 _ (HS.out.kept0 ((Kept.refl [] w).alloc _)) (by omega) (by omega)).mono ?_
  rintro e w1 ⟨b, rfl, hS1, hK1⟩
  go_wp2_with fail
  refine (l1Draw_any g a n c bs (at_ + 1) most _ hS1 (by omega) (by omega)).mono ?_
  rintro e w2 ⟨v, x, at2, rfl, hO2, hx0, hl2, hS2, hat2, hK2⟩
  obtain ⟨a2, c2, rfl, hs2, hf2⟩ := hO2.sl
  have hz1 := hK1.size
  simp only [World.size_alloc] at hz1
  go_wp2_with fail
  refine (l2Big_any b a2 _ c2 x _ hx0 rfl).mono ?_
  rintro e w3 ⟨rfl, hK3⟩
  have hK13 : Kept [g] (w.alloc (.cells #[.bool false, .slice none 0 0] 26)) w3 := (hK1.trans hK2 (fun _ h _ => h)).trans0 hK3
  obtain ⟨c0, c1, f0, f1, z3⟩ := box2 hK13 (by simp; omega)
  generalize isNeg (sg b x) = p
  have HE := Lib.hid (box_end (u0 := .bool p) (u1 := .slice a2 (digits x).length c2) hgl halt.out hK13 (hs2.kept0 hK3) (hf2.mono (by omega)) (hS2.kept0 hK3))
  obtain ⟨_, s0, s1⟩ := cells2 (.bool p) (.slice a2 (digits x).length c2) c0 c1
  clear hS1 hS2 hK1 hK2 hK3 hO2 hs2 hf2 hK13
  go_wp2_with fail
  refine bodyPost_ret (v := .agg #[.bool p, .slice a2 (digits x).length c2]) (by simp [results, Try.results38, go_sem, s0, s1]) rfl ?_
  exact ⟨p, a2, c2, x, at2, rfl, HE.out.1, HE.out.2.1, hx0, hl2, HE.out.2.2.1, by omega, HE.out.2.2.2⟩

theorem near_digits (x : Int) : Near (digits x) := (canon_limbs (canon_digits' x)).near

set_option maxHeartbeats 2000000 in
theorem l2Bent_any (g : Nat) (a : Option Addr) (n c : Nat) (bs : List Int) (at_ : Int) (w : World) (h : Src w g a n c bs at_) (ha : at_ ≤ 700000) :
    Calls Try.prog 42 #[.pointer (some ⟨g, 0, none⟩)] w (BigDR w g a n c bs (at_ + 80) 41) := by
  have hgl := h.lt
  have halt := Lib.hid h.alt
  have HS := Lib.hid h
  clear h
  go_enter Try.func42, Try.ntmps42
  go_wp2_with fail
  refine (l1Chance_any g a n c bs at_ 14 _ (HS.out.kept0 ((Kept.refl [] w).alloc _)) (by omega) (by omega)).mono ?_
  rintro e w1 ⟨b, rfl, hS1, hK1⟩
  have hz1 := hK1.size
  simp only [World.size_alloc] at hz1
  cases b
  · go_wp2_with fail
    have hR := (Sl.ofBlk (Blk.new w1 [1, 3, 6, 20]) (by simp)).rd
    have hg1 : g < w1.heap.size := by omega
    refine (l1Pick_any g a n c bs (at_ + 1) _ 4 _ [1, 3, 6, 20] _ (hS1.kept0 ((Kept.refl [] w1).alloc _)) (by omega) hR (fun _ y hy => by cases hy; simp; omega) (by omega)).mono ?_
    rintro e w2 ⟨j, hj, rfl, hS2, hK2⟩
    have hy : 1 ≤ ([1, 3, 6, 20] : List Int).getD j 0 ∧ ([1, 3, 6, 20] : List Int).getD j 0 ≤ 20 := by
      match j, hj with
      | 0, _ => show (1 : Int) ≤ 1 ∧ (1 : Int) ≤ 20; omega
      | 1, _ => show (1 : Int) ≤ 3 ∧ (3 : Int) ≤ 20; omega
      | 2, _ => show (1 : Int) ≤ 6 ∧ (6 : Int) ≤ 20; omega
      | 3, _ => show (1 : Int) ≤ 20 ∧ (20 : Int) ≤ 20; omega
      | n + 4, h => exact absurd h (by simp)
    generalize ([1, 3, 6, 20] : List Int).getD j 0 = y at hy
    have hK12 : Kept [g] (w.alloc (.cells #[.bool false, .slice none 0 0] 26)) w2 := hK1.trans (((Kept.refl [g] w1).alloc _).trans hK2 (fun _ h _ => h)) (fun _ h _ => h)
    have hz2 := hK12.size
    simp only [World.size_alloc] at hz2
    clear hR hj hK2
    go_wp2_with fail
    refine (l2Draw_any g a n c bs (at_ + 1 + 1) y _ hS2 (by omega) (by omega)).mono ?_
    rintro e w3 ⟨p, av, cv, x, at3, rfl, hs3, hf3, hx0, hl3, hS3, hat3, hK3⟩
    have hK13 := hK12.trans hK3 (fun _ h _ => h)
    obtain ⟨c0, c1, f0, f1, z3⟩ := box2 hK13 (by simp; omega)
    have HE := Lib.hid (box_end (u0 := .bool p) (u1 := .slice av (digits x).length cv) hgl halt.out hK13 hs3 (hf3.mono (by omega)) hS3)
    obtain ⟨_, s0, s1⟩ := cells2 (.bool p) (.slice av (digits x).length cv) c0 c1
    clear hS1 hS2 hS3 hK1 hK12 hK3 hs3 hf3 hK13
    go_wp2_with fail
    refine bodyPost_ret (v := .agg #[.bool p, .slice av (digits x).length cv]) (by simp [results, Try.results42, go_sem, s0, s1]) rfl ?_
    exact ⟨p, av, cv, digits x, at3, rfl, HE.out.1, HE.out.2.1, near_digits x, by omega, HE.out.2.2.1, by omega, HE.out.2.2.2⟩
  · go_wp2_with fail
    refine (l1Chance_any g a n c bs (at_ + 1) 2 _ hS1 (by omega) (by omega)).mono ?_
    rintro e w2 ⟨p, rfl, hS2, hK2⟩
    have hz2 := hK2.size
    go_wp2_with fail
    refine (l1Bent_any g a n c bs (at_ + 1 + 1) _ hS2 (by omega)).mono ?_
    rintro e w3 ⟨av, cv, xs, at3, rfl, hs3, hf3, hn3, hl3, hS3, hat3, hK3⟩
    have hK13 : Kept [g] (w.alloc (.cells #[.bool false, .slice none 0 0] 26)) w3 := (hK1.trans hK2 (fun _ h _ => h)).trans hK3 (fun _ h _ => h)
    obtain ⟨c0, c1, f0, f1, z3⟩ := box2 hK13 (by simp; omega)
    have HE := Lib.hid (box_end (u0 := .bool p) (u1 := .slice av xs.length cv) hgl halt.out hK13 hs3 (hf3.mono (by omega)) hS3)
    obtain ⟨_, s0, s1⟩ := cells2 (.bool p) (.slice av xs.length cv) c0 c1
    clear hS1 hS2 hS3 hK1 hK2 hK3 hs3 hf3 hK13
    go_wp2_with fail
    refine bodyPost_ret (v := .agg #[.bool p, .slice av xs.length cv]) (by simp [results, Try.results42, go_sem, s0, s1]) rfl ?_
    exact ⟨p, av, cv, xs, at3, rfl, HE.out.1, HE.out.2.1, hn3, by omega, HE.out.2.2.1, by omega, HE.out.2.2.2⟩

/-- What a draw of two bigs answers. -/
def Draw2B (w : World) (e : Ending) (w' : World) : Prop :=
  ∃ p a c xs q b d ys, e = .returned (.tuple #[.agg #[.bool p, .slice a xs.length c], .agg #[.bool q, .slice b ys.length d]]) ∧ Drawn w w' a c xs ∧ Drawn w w' b d ys ∧ Kept [] w w'
/-- What a draw of one big answers. -/
def Draw1B (w : World) (e : Ending) (w' : World) : Prop :=
  ∃ p a c xs, e = .returned (.agg #[.bool p, .slice a xs.length c]) ∧ Drawn w w' a c xs ∧ Kept [] w w'
theorem kset4 (w : World) (R S : Nat) (u0 u1 u2 u3 : Value) : Kept [R, S] w ((((w.setCell ⟨R, 0, none⟩ u0).setCell ⟨R, 1, none⟩ u1).setCell ⟨S, 0, none⟩ u2).setCell ⟨S, 1, none⟩ u3) :=
  ((((Kept.refl [R, S] w).setCell _ _ (by simp)).setCell _ _ (by simp)).setCell _ _ (by simp)).setCell _ _ (by simp)
theorem cells22 {w : World} {R S : Nat} (hRS : R ≠ S) {x0 x1 x2 x3 : Value} (u0 u1 u2 u3 : Value) (h0 : w.cell? ⟨R, 0, none⟩ = some x0) (h1 : w.cell? ⟨R, 1, none⟩ = some x1) (h2 : w.cell? ⟨S, 0, none⟩ = some x2) (h3 : w.cell? ⟨S, 1, none⟩ = some x3) :
    ((((w.setCell ⟨R, 0, none⟩ u0).setCell ⟨R, 1, none⟩ u1).setCell ⟨S, 0, none⟩ u2).setCell ⟨S, 1, none⟩ u3).cell? ⟨R, 0, none⟩ = some u0 ∧
    ((((w.setCell ⟨R, 0, none⟩ u0).setCell ⟨R, 1, none⟩ u1).setCell ⟨S, 0, none⟩ u2).setCell ⟨S, 1, none⟩ u3).cell? ⟨R, 1, none⟩ = some u1 ∧
    ((((w.setCell ⟨R, 0, none⟩ u0).setCell ⟨R, 1, none⟩ u1).setCell ⟨S, 0, none⟩ u2).setCell ⟨S, 1, none⟩ u3).cell? ⟨S, 0, none⟩ = some u2 ∧
    ((((w.setCell ⟨R, 0, none⟩ u0).setCell ⟨R, 1, none⟩ u1).setCell ⟨S, 0, none⟩ u2).setCell ⟨S, 1, none⟩ u3).cell? ⟨S, 1, none⟩ = some u3 := by
  obtain ⟨_, e0, e1⟩ := cells2 u0 u1 h0 h1
  have e2 : ((w.setCell ⟨R, 0, none⟩ u0).setCell ⟨R, 1, none⟩ u1).cell? ⟨S, 0, none⟩ = some x2 := by
    rw [World.cell?_setCell_other _ _ _ _ (by simp <;> omega), World.cell?_setCell_other _ _ _ _ (by simp <;> omega)]; exact h2
  have e3 : ((w.setCell ⟨R, 0, none⟩ u0).setCell ⟨R, 1, none⟩ u1).cell? ⟨S, 1, none⟩ = some x3 := by
    rw [World.cell?_setCell_other _ _ _ _ (by simp <;> omega), World.cell?_setCell_other _ _ _ _ (by simp <;> omega)]; exact h3
  obtain ⟨_, f2, f3⟩ := cells2 u2 u3 e2 e3
  refine ⟨?_, ?_, f2, f3⟩
  · rw [World.cell?_setCell_other _ _ _ _ (by simp <;> omega), World.cell?_setCell_other _ _ _ _ (by simp <;> omega)]; exact e0
  · rw [World.cell?_setCell_other _ _ _ _ (by simp <;> omega), World.cell?_setCell_other _ _ _ _ (by simp <;> omega)]; exact e1
/-- The cells of two result boxes behind what only the source's block was changed by. -/
theorem boxes2 {w w1 : World} {L : List Nat} {T : TypeId} {v0 v1 v2 v3 : Value} (hk : Kept L ((w.alloc (.cells #[v0, v1] T)).alloc (.cells #[v2, v3] T)) w1) (hg : ∀ x, x ∈ L → w.heap.size + 2 ≤ x) :
    (w1.cell? ⟨w.heap.size, 0, none⟩ = some v0 ∧ w1.cell? ⟨w.heap.size, 1, none⟩ = some v1 ∧ w1.cell? ⟨w.heap.size + 1, 0, none⟩ = some v2 ∧ w1.cell? ⟨w.heap.size + 1, 1, none⟩ = some v3) ∧
    (w1.frozen? ⟨w.heap.size, 0, none⟩ = false ∧ w1.frozen? ⟨w.heap.size, 1, none⟩ = false ∧ w1.frozen? ⟨w.heap.size + 1, 0, none⟩ = false ∧ w1.frozen? ⟨w.heap.size + 1, 1, none⟩ = false) ∧ w.heap.size + 2 ≤ w1.heap.size := by
  have h0 : w.heap.size ∉ L := fun h => by have := hg _ h; omega
  have h1 : w.heap.size + 1 ∉ L := fun h => by have := hg _ h; omega
  exact ⟨⟨hk.cell (p := ⟨w.heap.size, 0, none⟩) (by simp) h0, hk.cell (p := ⟨w.heap.size, 1, none⟩) (by simp) h0, hk.cell (p := ⟨w.heap.size + 1, 0, none⟩) (by simp) h1, hk.cell (p := ⟨w.heap.size + 1, 1, none⟩) (by simp) h1⟩,
    ⟨hk.free (p := ⟨w.heap.size, 0, none⟩) (by simp) (by simp <;> omega) h0, hk.free (p := ⟨w.heap.size, 1, none⟩) (by simp) (by simp <;> omega) h0, hk.free (p := ⟨w.heap.size + 1, 0, none⟩) (by simp) (by simp) h1, hk.free (p := ⟨w.heap.size + 1, 1, none⟩) (by simp) (by simp) h1⟩,
    by have := hk.size; simpa using this⟩
theorem duo_end {w w1 : World} {L : List Nat} {T : TypeId} {v0 v1 v2 v3 u0 u1 u2 u3 : Value} {a b : Option Addr} {c d : Nat} {xs ys : List Int}
    (hk : Kept L ((w.alloc (.cells #[v0, v1] T)).alloc (.cells #[v2, v3] T)) w1) (hg : ∀ x, x ∈ L → w.heap.size + 2 ≤ x)
    (hs : Sl w1 a xs.length c xs) (hf : Fr (w.heap.size + 2) a xs.length) (hn : Near xs ∧ xs.length ≤ 90) (hs' : Sl w1 b ys.length d ys) (hf' : Fr (w.heap.size + 2) b ys.length) (hn' : Near ys ∧ ys.length ≤ 90) :
    Drawn w ((((w1.setCell ⟨w.heap.size, 0, none⟩ u0).setCell ⟨w.heap.size, 1, none⟩ u1).setCell ⟨w.heap.size + 1, 0, none⟩ u2).setCell ⟨w.heap.size + 1, 1, none⟩ u3) a c xs ∧
    Drawn w ((((w1.setCell ⟨w.heap.size, 0, none⟩ u0).setCell ⟨w.heap.size, 1, none⟩ u1).setCell ⟨w.heap.size + 1, 0, none⟩ u2).setCell ⟨w.heap.size + 1, 1, none⟩ u3) b d ys ∧
    Kept [] w ((((w1.setCell ⟨w.heap.size, 0, none⟩ u0).setCell ⟨w.heap.size, 1, none⟩ u1).setCell ⟨w.heap.size + 1, 0, none⟩ u2).setCell ⟨w.heap.size + 1, 1, none⟩ u3) :=
  ⟨⟨hs.kept (kset4 _ _ _ _ _ _ _) (fun hn x hx => by have := hf hn x hx; simp; omega), hf.mono (by omega), hn.1, hn.2⟩,
   ⟨hs'.kept (kset4 _ _ _ _ _ _ _) (fun hn x hx => by have := hf' hn x hx; simp; omega), hf'.mono (by omega), hn'.1, hn'.2⟩,
   (((((Kept.refl [] w).alloc _).alloc _).mono (M := []) (fun x hx _ => hx)).trans hk (fun x hx hlt => by have := hg x hx; omega)).trans (kset4 _ _ _ _ _ _ _) (fun x hx hlt => by simp at hx; omega)⟩

theorem mag_lt40 {z : Int} {k : Nat} (h : -pw k < z ∧ z < pw k) (hk : k ≤ 40) : Nat40 (mag z) ∧ (mag z).length ≤ 40 :=
  ⟨nat40_of_canon (mag_canon z) (Nat.le_trans (mag_len_lt h) hk), Nat.le_trans (mag_len_lt h) hk⟩
theorem near_mag (z : Int) : Near (mag z) := (canon_limbs (mag_canon z)).near
theorem pick4 {x0 x1 x2 x3 lo hi : Int} (h0 : lo ≤ x0 ∧ x0 ≤ hi) (h1 : lo ≤ x1 ∧ x1 ≤ hi) (h2 : lo ≤ x2 ∧ x2 ≤ hi) (h3 : lo ≤ x3 ∧ x3 ≤ hi) {j : Nat} (hj : j < [x0, x1, x2, x3].length) : lo ≤ [x0, x1, x2, x3].getD j 0 ∧ [x0, x1, x2, x3].getD j 0 ≤ hi := by
  match j, hj with
  | 0, _ => exact h0
  | 1, _ => exact h1
  | 2, _ => exact h2
  | 3, _ => exact h3
  | n + 4, h => exact absurd h (by simp)
theorem pick3 {x0 x1 x2 lo hi : Int} (h0 : lo ≤ x0 ∧ x0 ≤ hi) (h1 : lo ≤ x1 ∧ x1 ≤ hi) (h2 : lo ≤ x2 ∧ x2 ≤ hi) {j : Nat} (hj : j < [x0, x1, x2].length) : lo ≤ [x0, x1, x2].getD j 0 ∧ [x0, x1, x2].getD j 0 ≤ hi := by
  match j, hj with
  | 0, _ => exact h0
  | 1, _ => exact h1
  | 2, _ => exact h2
  | n + 3, h => exact absurd h (by simp)

/-- The end of a draw of one big that lies in a box. -/
theorem one_end {w w1 : World} {L : List Nat} {T : TypeId} {v0 v1 u0 u1 : Value} {a : Option Addr} {c : Nat} {xs : List Int}
    (hk : Kept L (w.alloc (.cells #[v0, v1] T)) w1) (hg : ∀ x, x ∈ L → w.heap.size + 1 ≤ x) (hs : Sl w1 a xs.length c xs) (hf : Fr (w.heap.size + 1) a xs.length) (hn : Near xs ∧ xs.length ≤ 90) :
    Drawn w ((w1.setCell ⟨w.heap.size, 0, none⟩ u0).setCell ⟨w.heap.size, 1, none⟩ u1) a c xs ∧ Kept [] w ((w1.setCell ⟨w.heap.size, 0, none⟩ u0).setCell ⟨w.heap.size, 1, none⟩ u1) :=
  ⟨⟨hs.kept (kset2 _ _ _ _) (fun hn x hx => by have := hf hn x hx; simp; omega), hf.mono (by omega), hn.1, hn.2⟩,
   (((Kept.refl [] w).alloc _).trans hk (fun x hx hlt => by have := hg x hx; omega)).trans (kset2 _ _ _ _) (fun x hx hlt => by simp at hx; omega)⟩

theorem mul_lt9 {x y : Int} (hx : 0 ≤ x) (hlx : (digits x).length ≤ 4) (hy : 0 ≤ y) (hly : (digits y).length ≤ 4) : 0 ≤ x * y ∧ x * y + 2 < pw 9 :=
  mul_lt8 ⟨hx, draw_lt (most := 4) 4 hx (by omega) (by omega)⟩ ⟨hy, draw_lt (most := 4) 4 hy (by omega) (by omega)⟩
theorem sg_bound {p : Bool} {v k : Int} (h : 0 ≤ v ∧ v + 2 < pw 9) (hk : -1 ≤ k ∧ k ≤ 1) : -pw 9 < sg p v + k ∧ sg p v + k < pw 9 := by
  cases p
  · show -pw 9 < v + k ∧ v + k < pw 9; omega
  · show -pw 9 < -v + k ∧ -v + k < pw 9; omega

/-- What a region leaves alone: the blocks but G and L, and that the boxes of L may be written. -/
structure KF (G L : List Nat) (w w' : World) : Prop where
  k : Kept (G ++ L) w w'
  f : ∀ g, g ∈ L → ∀ i, i < 2 → w'.frozen? ⟨g, i, none⟩ = false ∧ g < w'.heap.size
theorem KF.start {G L : List Nat} {w : World} (h : ∀ g, g ∈ L → ∀ i, i < 2 → w.frozen? ⟨g, i, none⟩ = false ∧ g < w.heap.size) : KF G L w w.drew := ⟨(Kept.refl _ _).drew, h⟩
theorem KF.go {G L M : List Nat} {w u v : World} (h : KF G L w u) (k : Kept M u v) (hM : ∀ x, x ∈ M → x ∈ G ∧ x ∉ L) : KF G L w v :=
  ⟨h.k.trans k (fun x hx _ => List.mem_append_left _ (hM x hx).1), fun g hg i hi => ⟨k.free (h.f g hg i hi).1 (h.f g hg i hi).2 (fun hm => (hM g hm).2 hg), Nat.lt_of_lt_of_le (h.f g hg i hi).2 k.size⟩⟩
theorem KF.go0 {G L : List Nat} {w u v : World} (h : KF G L w u) (k : Kept [] u v) : KF G L w v := h.go k (by simp)
theorem KF.go1 {g : Nat} {L : List Nat} {w u v : World} (h : KF [g] L w u) (k : Kept [g] u v) (hg : g ∉ L) : KF [g] L w v := h.go k (fun x hx => by simp at hx; subst hx; exact ⟨by simp, hg⟩)
theorem KF.set {G L : List Nat} {w u : World} (h : KF G L w u) (g i : Nat) (v : Value) (hg : g ∈ L) : KF G L w (u.setCell ⟨g, i, none⟩ v) :=
  ⟨h.k.setCell _ _ (fun _ => List.mem_append_right _ hg), fun g' hg' i' hi' => ⟨by rw [World.frozen?_setCell]; exact (h.f g' hg' i' hi').1, by simpa using (h.f g' hg' i' hi').2⟩⟩

end Go.Proofs.Ytlhiahhpmjiioaa
