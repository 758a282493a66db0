/-
  The draws of bigs: contracts of l2Draw, l2Bent, DrawBigOf, DrawAddBigs, DrawBigValue, DrawFloorDiv, DrawFloorRoot, DrawCompareBigs. Condition: the bytes are at most 1048576.
-/
import Derived.Test.YthahkicpkohfkaaDrwB
import Derived.Test.YthahkicpkohfkaaBigE
import Derived.Test.YthahkicpkohfkaaBigOf
import Derived.Test.YthahkicpkohfkaaJ1
namespace Go.Proofs.Ythahkicpkohfkaa
open Go.RowKit

theorem box2 {w w1 : World} {L : List Nat} {T : TypeId} {v0 v1 : Value} (hk : Kept L (w.alloc (.cells #[v0, v1] T)) w1) (hg : w.heap.size ∉ L) :
    w1.cell? ⟨w.heap.size, 0, none⟩ = some v0 ∧ w1.cell? ⟨w.heap.size, 1, none⟩ = some v1 ∧ w1.frozen? ⟨w.heap.size, 0, none⟩ = false ∧ w1.frozen? ⟨w.heap.size, 1, none⟩ = false ∧ w.heap.size + 1 ≤ w1.heap.size :=
  ⟨hk.cell (p := ⟨w.heap.size, 0, none⟩) (by simp) hg, hk.cell (p := ⟨w.heap.size, 1, none⟩) (by simp) hg, hk.free (p := ⟨w.heap.size, 0, none⟩) (by simp) (by simp) hg, hk.free (p := ⟨w.heap.size, 1, none⟩) (by simp) (by simp) hg, by have := hk.size; simpa using this⟩
theorem kset2 (w : World) (R : Nat) (u0 u1 : Value) : Kept [R] w ((w.setCell ⟨R, 0, none⟩ u0).setCell ⟨R, 1, none⟩ u1) := ((Kept.refl [R] w).setCell _ _ (by simp)).setCell _ _ (by simp)

/-- What a draw of a big answers. -/
def BigDR (w : World) (g : Nat) (a : Option Addr) (n c : Nat) (bs : List Int) (top : Int) (len : Nat) (e : Ending) (w' : World) : Prop :=
  ∃ p av cv xs at2, e = .returned (.agg #[.bool p, .slice av xs.length cv]) ∧ Sl w' av xs.length cv xs ∧ Fr w.heap.size av xs.length ∧ Near xs ∧ xs.length ≤ len ∧ Src w' g a n c bs at2 ∧ at2 ≤ top ∧ Kept [g] w w'
/-- The like, a number's limbs. -/
def BigCR (w : World) (g : Nat) (a : Option Addr) (n c : Nat) (bs : List Int) (at_ most : Int) (e : Ending) (w' : World) : Prop :=
  ∃ p av cv x at2, e = .returned (.agg #[.bool p, .slice av (digits x).length cv]) ∧ Sl w' av (digits x).length cv (digits x) ∧ Fr w.heap.size av (digits x).length ∧ 0 ≤ x ∧ ((digits x).length : Int) ≤ most ∧ Src w' g a n c bs at2 ∧ at2 ≤ at_ + 2 + 2 * most ∧ Kept [g] w w'

/-- The end of a draw whose answer lies in a box of two cells. -/
theorem box_end {w w1 : World} {g : Nat} {a : Option Addr} {n c : Nat} {bs : List Int} {at2 : Int} {T : TypeId} {v0 v1 u0 u1 : Value} {av : Option Addr} {m cv : Nat} {xs : List Int}
    (hg : g < w.heap.size) (h0 : ∀ x, 0 < n → a = some x → x.block < w.heap.size) (hk : Kept [g] (w.alloc (.cells #[v0, v1] T)) w1) (hs : Sl w1 av m cv xs) (hf : Fr (w.heap.size + 1) av m) (hS : Src w1 g a n c bs at2) :
    Sl ((w1.setCell ⟨w.heap.size, 0, none⟩ u0).setCell ⟨w.heap.size, 1, none⟩ u1) av m cv xs ∧ Fr w.heap.size av m ∧ Src ((w1.setCell ⟨w.heap.size, 0, none⟩ u0).setCell ⟨w.heap.size, 1, none⟩ u1) g a n c bs at2 ∧ Kept [g] w ((w1.setCell ⟨w.heap.size, 0, none⟩ u0).setCell ⟨w.heap.size, 1, none⟩ u1) :=
  ⟨hs.kept (kset2 _ _ _ _) (fun hn x hx => by have := hf hn x hx; simp; omega), hf.mono (by omega),
   hS.kept (kset2 _ _ _ _) (by simp; omega) (fun hn x hx => by have := h0 x hn hx; simp; omega),
   (((Kept.refl [g] w).alloc _).trans hk (fun _ h _ => h)).trans (kset2 _ _ _ _) (fun x hx hlt => by simp at hx; omega)⟩
theorem Src.alt {w : World} {g : Nat} {a : Option Addr} {n c : Nat} {bs : List Int} {at_ : Int} (h : Src w g a n c bs at_) : ∀ x, 0 < n → a = some x → x.block < w.heap.size := fun x hn hx => h.2.2.2.1.lt hn x hx

set_option maxHeartbeats 2000000 in
theorem l2Draw_any (g : Nat) (a : Option Addr) (n c : Nat) (bs : List Int) (at_ most : Int) (w : World) (h : Src w g a n c bs at_) (ha : at_ ≤ 800000) (hm : 0 ≤ most ∧ most ≤ 40) :
    Calls Try.prog 40 #[.pointer (some ⟨g, 0, none⟩), .int .i64 most] w (BigCR w g a n c bs at_ most) := by
  have hgl := h.lt
  have halt := Lib.hid h.alt
  have HS := Lib.hid h
  clear h
  go_enter Try.func40, Try.ntmps40
  go_wp2_with fail
  refine (l1Chance_any g a n c bs at_ 2 _ (HS.out.kept0 ((Kept.refl [] w).alloc _)) (by omega) (by omega)).mono ?_
  rintro e w1 ⟨b, rfl, hS1, hK1⟩
  go_wp2_with fail
  refine (l1Draw_any g a n c bs (at_ + 1) most _ hS1 (by omega) (by omega)).mono ?_
  rintro e w2 ⟨v, x, at2, rfl, hO2, hx0, hl2, hS2, hat2, hK2⟩
  obtain ⟨a2, c2, rfl, hs2, hf2⟩ := hO2.sl
  have hz1 := hK1.size
  simp only [World.size_alloc] at hz1
  go_wp2_with fail
  refine (l2Big_any b a2 _ c2 x _ hx0 rfl).mono ?_
  rintro e w3 ⟨rfl, hK3⟩
  have hK13 : Kept [g] (w.alloc (.cells #[.bool false, .slice none 0 0] 26)) w3 := (hK1.trans hK2 (fun _ h _ => h)).trans0 hK3
  obtain ⟨c0, c1, f0, f1, z3⟩ := box2 hK13 (by simp; omega)
  generalize isNeg (sg b x) = p
  have HE := Lib.hid (box_end (u0 := .bool p) (u1 := .slice a2 (digits x).length c2) hgl halt.out hK13 (hs2.kept0 hK3) (hf2.mono (by omega)) (hS2.kept0 hK3))
  obtain ⟨_, s0, s1⟩ := cells2 (.bool p) (.slice a2 (digits x).length c2) c0 c1
  clear hS1 hS2 hK1 hK2 hK3 hO2 hs2 hf2 hK13
  go_wp2_with fail
  refine bodyPost_ret (v := .agg #[.bool p, .slice a2 (digits x).length c2]) (by simp [results, Try.results40, go_sem, s0, s1]) rfl ?_
  exact ⟨p, a2, c2, x, at2, rfl, HE.out.1, HE.out.2.1, hx0, hl2, HE.out.2.2.1, by omega, HE.out.2.2.2⟩

theorem near_digits (x : Int) : Near (digits x) := (canon_limbs (canon_digits' x)).near

set_option maxHeartbeats 2000000 in
theorem l2Bent_any (g : Nat) (a : Option Addr) (n c : Nat) (bs : List Int) (at_ : Int) (w : World) (h : Src w g a n c bs at_) (ha : at_ ≤ 700000) :
    Calls Try.prog 39 #[.pointer (some ⟨g, 0, none⟩)] w (BigDR w g a n c bs (at_ + 80) 41) := by
  have hgl := h.lt
  have halt := Lib.hid h.alt
  have HS := Lib.hid h
  clear h
  go_enter Try.func39, Try.ntmps39
  go_wp2_with fail
  refine (l1Chance_any g a n c bs at_ 14 _ (HS.out.kept0 ((Kept.refl [] w).alloc _)) (by omega) (by omega)).mono ?_
  rintro e w1 ⟨b, rfl, hS1, hK1⟩
  have hz1 := hK1.size
  simp only [World.size_alloc] at hz1
  cases b
  · go_wp2_with fail
    have hR := (Sl.ofBlk (Blk.new w1 [1, 3, 6, 20]) (by simp)).rd
    have hg1 : g < w1.heap.size := by omega
    refine (l1Pick_any g a n c bs (at_ + 1) _ 4 _ [1, 3, 6, 20] _ (hS1.kept0 ((Kept.refl [] w1).alloc _)) (by omega) hR (fun _ y hy => by cases hy; simp; omega) (by omega)).mono ?_
    rintro e w2 ⟨j, hj, rfl, hS2, hK2⟩
    have hy : 1 ≤ ([1, 3, 6, 20] : List Int).getD j 0 ∧ ([1, 3, 6, 20] : List Int).getD j 0 ≤ 20 := by
      match j, hj with
      | 0, _ => show (1 : Int) ≤ 1 ∧ (1 : Int) ≤ 20; omega
      | 1, _ => show (1 : Int) ≤ 3 ∧ (3 : Int) ≤ 20; omega
      | 2, _ => show (1 : Int) ≤ 6 ∧ (6 : Int) ≤ 20; omega
      | 3, _ => show (1 : Int) ≤ 20 ∧ (20 : Int) ≤ 20; omega
      | n + 4, h => exact absurd h (by simp)
    generalize ([1, 3, 6, 20] : List Int).getD j 0 = y at hy
    have hK12 : Kept [g] (w.alloc (.cells #[.bool false, .slice none 0 0] 26)) w2 := hK1.trans (((Kept.refl [g] w1).alloc _).trans hK2 (fun _ h _ => h)) (fun _ h _ => h)
    have hz2 := hK12.size
    simp only [World.size_alloc] at hz2
    clear hR hj hK2
    go_wp2_with fail
    refine (l2Draw_any g a n c bs (at_ + 1 + 1) y _ hS2 (by omega) (by omega)).mono ?_
    rintro e w3 ⟨p, av, cv, x, at3, rfl, hs3, hf3, hx0, hl3, hS3, hat3, hK3⟩
    have hK13 := hK12.trans hK3 (fun _ h _ => h)
    obtain ⟨c0, c1, f0, f1, z3⟩ := box2 hK13 (by simp; omega)
    have HE := Lib.hid (box_end (u0 := .bool p) (u1 := .slice av (digits x).length cv) hgl halt.out hK13 hs3 (hf3.mono (by omega)) hS3)
    obtain ⟨_, s0, s1⟩ := cells2 (.bool p) (.slice av (digits x).length cv) c0 c1
    clear hS1 hS2 hS3 hK1 hK12 hK3 hs3 hf3 hK13
    go_wp2_with fail
    refine bodyPost_ret (v := .agg #[.bool p, .slice av (digits x).length cv]) (by simp [results, Try.results39, go_sem, s0, s1]) rfl ?_
    exact ⟨p, av, cv, digits x, at3, rfl, HE.out.1, HE.out.2.1, near_digits x, by omega, HE.out.2.2.1, by omega, HE.out.2.2.2⟩
  · go_wp2_with fail
    refine (l1Chance_any g a n c bs (at_ + 1) 2 _ hS1 (by omega) (by omega)).mono ?_
    rintro e w2 ⟨p, rfl, hS2, hK2⟩
    have hz2 := hK2.size
    go_wp2_with fail
    refine (l1Bent_any g a n c bs (at_ + 1 + 1) _ hS2 (by omega)).mono ?_
    rintro e w3 ⟨av, cv, xs, at3, rfl, hs3, hf3, hn3, hl3, hS3, hat3, hK3⟩
    have hK13 : Kept [g] (w.alloc (.cells #[.bool false, .slice none 0 0] 26)) w3 := (hK1.trans hK2 (fun _ h _ => h)).trans hK3 (fun _ h _ => h)
    obtain ⟨c0, c1, f0, f1, z3⟩ := box2 hK13 (by simp; omega)
    have HE := Lib.hid (box_end (u0 := .bool p) (u1 := .slice av xs.length cv) hgl halt.out hK13 hs3 (hf3.mono (by omega)) hS3)
    obtain ⟨_, s0, s1⟩ := cells2 (.bool p) (.slice av xs.length cv) c0 c1
    clear hS1 hS2 hS3 hK1 hK2 hK3 hs3 hf3 hK13
    go_wp2_with fail
    refine bodyPost_ret (v := .agg #[.bool p, .slice av xs.length cv]) (by simp [results, Try.results39, go_sem, s0, s1]) rfl ?_
    exact ⟨p, av, cv, xs, at3, rfl, HE.out.1, HE.out.2.1, hn3, by omega, HE.out.2.2.1, by omega, HE.out.2.2.2⟩

set_option maxHeartbeats 1000000 in
theorem DrawBigOf_any (a : Option Addr) (n c : Nat) (bs : List Int) (w : World) (h : Rd8 w a n bs) :
    Calls Try.prog 13 #[.slice a n c] w (fun e w' => ∃ r : Int, e = .returned (.int .i64 r) ∧ -9223372036854775808 ≤ r ∧ r ≤ 9223372036854775807 ∧ Kept [] w w') := by
  have HR := Lib.hid h
  clear h
  go_enter Try.func13, Try.ntmps13
  go_wp2_with fail
  refine (l1Source_any _ _ _ _ _ HR.out).mono ?_
  rintro e w1 ⟨g, rfl, hg, hS, hK⟩
  go_wp2_with fail
  have hg1 : g < w1.heap.size := hS.lt
  have hR := (Sl.ofBlk (Blk.new w1 [0, 1, -1, 65536, -65536, 9223372036854775807, -9223372036854775808]) (by simp)).rd
  refine (l1Pick_any g a n c bs 0 _ 7 _ [0, 1, -1, 65536, -65536, 9223372036854775807, -9223372036854775808] _ (hS.kept0 ((Kept.refl [] w1).alloc _)) (by omega) hR (fun _ y hy => by cases hy; simp; omega) (by omega)).mono ?_
  rintro e w2 ⟨j, hj, rfl, hS2, hK2⟩
  have hy : -9223372036854775808 ≤ ([0, 1, -1, 65536, -65536, 9223372036854775807, -9223372036854775808] : List Int).getD j 0 ∧ ([0, 1, -1, 65536, -65536, 9223372036854775807, -9223372036854775808] : List Int).getD j 0 ≤ 9223372036854775807 := by
    match j, hj with
    | 0, _ => show (-9223372036854775808 : Int) ≤ 0 ∧ (0 : Int) ≤ _; omega
    | 1, _ => show (-9223372036854775808 : Int) ≤ 1 ∧ (1 : Int) ≤ _; omega
    | 2, _ => show (-9223372036854775808 : Int) ≤ -1 ∧ (-1 : Int) ≤ _; omega
    | 3, _ => show (-9223372036854775808 : Int) ≤ 65536 ∧ (65536 : Int) ≤ _; omega
    | 4, _ => show (-9223372036854775808 : Int) ≤ -65536 ∧ (-65536 : Int) ≤ _; omega
    | 5, _ => show (-9223372036854775808 : Int) ≤ 9223372036854775807 ∧ (9223372036854775807 : Int) ≤ _; omega
    | 6, _ => show (-9223372036854775808 : Int) ≤ -9223372036854775808 ∧ (-9223372036854775808 : Int) ≤ _; omega
    | n + 7, h => exact absurd h (by simp)
  generalize ([0, 1, -1, 65536, -65536, 9223372036854775807, -9223372036854775808] : List Int).getD j 0 = y at hy
  have hK02 : Kept [] w w2 := hK.trans (((Kept.refl [g] w1).alloc _).trans hK2 (fun _ h _ => h)) (fun x hx hlt => by simp at hx; omega)
  clear hR hj hK2
  go_wp2_with fail
  go_ret
  exact ⟨y, rfl, hy.1, hy.2, hK02⟩

/-- What a draw of two bigs answers. -/
def Draw2B (w : World) (e : Ending) (w' : World) : Prop :=
  ∃ p a c xs q b d ys, e = .returned (.tuple #[.agg #[.bool p, .slice a xs.length c], .agg #[.bool q, .slice b ys.length d]]) ∧ Drawn w w' a c xs ∧ Drawn w w' b d ys ∧ Kept [] w w'
/-- What a draw of one big answers. -/
def Draw1B (w : World) (e : Ending) (w' : World) : Prop :=
  ∃ p a c xs, e = .returned (.agg #[.bool p, .slice a xs.length c]) ∧ Drawn w w' a c xs ∧ Kept [] w w'
theorem kset4 (w : World) (R S : Nat) (u0 u1 u2 u3 : Value) : Kept [R, S] w ((((w.setCell ⟨R, 0, none⟩ u0).setCell ⟨R, 1, none⟩ u1).setCell ⟨S, 0, none⟩ u2).setCell ⟨S, 1, none⟩ u3) :=
  ((((Kept.refl [R, S] w).setCell _ _ (by simp)).setCell _ _ (by simp)).setCell _ _ (by simp)).setCell _ _ (by simp)
theorem cells22 {w : World} {R S : Nat} (hRS : R ≠ S) {x0 x1 x2 x3 : Value} (u0 u1 u2 u3 : Value) (h0 : w.cell? ⟨R, 0, none⟩ = some x0) (h1 : w.cell? ⟨R, 1, none⟩ = some x1) (h2 : w.cell? ⟨S, 0, none⟩ = some x2) (h3 : w.cell? ⟨S, 1, none⟩ = some x3) :
    ((((w.setCell ⟨R, 0, none⟩ u0).setCell ⟨R, 1, none⟩ u1).setCell ⟨S, 0, none⟩ u2).setCell ⟨S, 1, none⟩ u3).cell? ⟨R, 0, none⟩ = some u0 ∧
    ((((w.setCell ⟨R, 0, none⟩ u0).setCell ⟨R, 1, none⟩ u1).setCell ⟨S, 0, none⟩ u2).setCell ⟨S, 1, none⟩ u3).cell? ⟨R, 1, none⟩ = some u1 ∧
    ((((w.setCell ⟨R, 0, none⟩ u0).setCell ⟨R, 1, none⟩ u1).setCell ⟨S, 0, none⟩ u2).setCell ⟨S, 1, none⟩ u3).cell? ⟨S, 0, none⟩ = some u2 ∧
    ((((w.setCell ⟨R, 0, none⟩ u0).setCell ⟨R, 1, none⟩ u1).setCell ⟨S, 0, none⟩ u2).setCell ⟨S, 1, none⟩ u3).cell? ⟨S, 1, none⟩ = some u3 := by
  obtain ⟨_, e0, e1⟩ := cells2 u0 u1 h0 h1
  have e2 : ((w.setCell ⟨R, 0, none⟩ u0).setCell ⟨R, 1, none⟩ u1).cell? ⟨S, 0, none⟩ = some x2 := by
    rw [World.cell?_setCell_other _ _ _ _ (by simp <;> omega), World.cell?_setCell_other _ _ _ _ (by simp <;> omega)]; exact h2
  have e3 : ((w.setCell ⟨R, 0, none⟩ u0).setCell ⟨R, 1, none⟩ u1).cell? ⟨S, 1, none⟩ = some x3 := by
    rw [World.cell?_setCell_other _ _ _ _ (by simp <;> omega), World.cell?_setCell_other _ _ _ _ (by simp <;> omega)]; exact h3
  obtain ⟨_, f2, f3⟩ := cells2 u2 u3 e2 e3
  refine ⟨?_, ?_, f2, f3⟩
  · rw [World.cell?_setCell_other _ _ _ _ (by simp <;> omega), World.cell?_setCell_other _ _ _ _ (by simp <;> omega)]; exact e0
  · rw [World.cell?_setCell_other _ _ _ _ (by simp <;> omega), World.cell?_setCell_other _ _ _ _ (by simp <;> omega)]; exact e1
/-- The cells of two result boxes behind what only the source's block was changed by. -/
theorem boxes2 {w w1 : World} {L : List Nat} {T : TypeId} {v0 v1 v2 v3 : Value} (hk : Kept L ((w.alloc (.cells #[v0, v1] T)).alloc (.cells #[v2, v3] T)) w1) (hg : ∀ x, x ∈ L → w.heap.size + 2 ≤ x) :
    (w1.cell? ⟨w.heap.size, 0, none⟩ = some v0 ∧ w1.cell? ⟨w.heap.size, 1, none⟩ = some v1 ∧ w1.cell? ⟨w.heap.size + 1, 0, none⟩ = some v2 ∧ w1.cell? ⟨w.heap.size + 1, 1, none⟩ = some v3) ∧
    (w1.frozen? ⟨w.heap.size, 0, none⟩ = false ∧ w1.frozen? ⟨w.heap.size, 1, none⟩ = false ∧ w1.frozen? ⟨w.heap.size + 1, 0, none⟩ = false ∧ w1.frozen? ⟨w.heap.size + 1, 1, none⟩ = false) ∧ w.heap.size + 2 ≤ w1.heap.size := by
  have h0 : w.heap.size ∉ L := fun h => by have := hg _ h; omega
  have h1 : w.heap.size + 1 ∉ L := fun h => by have := hg _ h; omega
  exact ⟨⟨hk.cell (p := ⟨w.heap.size, 0, none⟩) (by simp) h0, hk.cell (p := ⟨w.heap.size, 1, none⟩) (by simp) h0, hk.cell (p := ⟨w.heap.size + 1, 0, none⟩) (by simp) h1, hk.cell (p := ⟨w.heap.size + 1, 1, none⟩) (by simp) h1⟩,
    ⟨hk.free (p := ⟨w.heap.size, 0, none⟩) (by simp) (by simp <;> omega) h0, hk.free (p := ⟨w.heap.size, 1, none⟩) (by simp) (by simp <;> omega) h0, hk.free (p := ⟨w.heap.size + 1, 0, none⟩) (by simp) (by simp) h1, hk.free (p := ⟨w.heap.size + 1, 1, none⟩) (by simp) (by simp) h1⟩,
    by have := hk.size; simpa using this⟩
theorem duo_end {w w1 : World} {L : List Nat} {T : TypeId} {v0 v1 v2 v3 u0 u1 u2 u3 : Value} {a b : Option Addr} {c d : Nat} {xs ys : List Int}
    (hk : Kept L ((w.alloc (.cells #[v0, v1] T)).alloc (.cells #[v2, v3] T)) w1) (hg : ∀ x, x ∈ L → w.heap.size + 2 ≤ x)
    (hs : Sl w1 a xs.length c xs) (hf : Fr (w.heap.size + 2) a xs.length) (hn : Near xs ∧ xs.length ≤ 90) (hs' : Sl w1 b ys.length d ys) (hf' : Fr (w.heap.size + 2) b ys.length) (hn' : Near ys ∧ ys.length ≤ 90) :
    Drawn w ((((w1.setCell ⟨w.heap.size, 0, none⟩ u0).setCell ⟨w.heap.size, 1, none⟩ u1).setCell ⟨w.heap.size + 1, 0, none⟩ u2).setCell ⟨w.heap.size + 1, 1, none⟩ u3) a c xs ∧
    Drawn w ((((w1.setCell ⟨w.heap.size, 0, none⟩ u0).setCell ⟨w.heap.size, 1, none⟩ u1).setCell ⟨w.heap.size + 1, 0, none⟩ u2).setCell ⟨w.heap.size + 1, 1, none⟩ u3) b d ys ∧
    Kept [] w ((((w1.setCell ⟨w.heap.size, 0, none⟩ u0).setCell ⟨w.heap.size, 1, none⟩ u1).setCell ⟨w.heap.size + 1, 0, none⟩ u2).setCell ⟨w.heap.size + 1, 1, none⟩ u3) :=
  ⟨⟨hs.kept (kset4 _ _ _ _ _ _ _) (fun hn x hx => by have := hf hn x hx; simp; omega), hf.mono (by omega), hn.1, hn.2⟩,
   ⟨hs'.kept (kset4 _ _ _ _ _ _ _) (fun hn x hx => by have := hf' hn x hx; simp; omega), hf'.mono (by omega), hn'.1, hn'.2⟩,
   (((((Kept.refl [] w).alloc _).alloc _).mono (M := []) (fun x hx _ => hx)).trans hk (fun x hx hlt => by have := hg x hx; omega)).trans (kset4 _ _ _ _ _ _ _) (fun x hx hlt => by simp at hx; omega)⟩

set_option maxHeartbeats 2000000 in
theorem DrawAddBigs_any (a : Option Addr) (n c : Nat) (bs : List Int) (w : World) (h : Rd8 w a n bs) :
    Calls Try.prog 9 #[.slice a n c] w (Draw2B w) := by
  have HR := Lib.hid h
  clear h
  go_enter Try.func9, Try.ntmps9
  go_wp2_with fail
  refine (l1Source_any _ _ _ _ _ (HR.out.kept (((Kept.refl [] w).alloc _).alloc _) (by simp))).mono ?_
  rintro e w1 ⟨g, rfl, hg, hS, hK⟩
  simp only [World.size_alloc] at hg
  have hz1 := hK.size
  simp only [World.size_alloc] at hz1
  go_wp2_with fail
  refine (l2Bent_any g a n c bs 0 _ hS (by omega)).mono ?_
  rintro e w2 ⟨p, a2, c2, xs, at2, rfl, hs2, hf2, hn2, hl2, hS2, hat2, hK2⟩
  have hz2 := hK2.size
  go_wp2_with fail
  refine (l2Bent_any g a n c bs at2 _ hS2 (by omega)).mono ?_
  rintro e w3 ⟨q, a3, c3, ys, at3, rfl, hs3, hf3, hn3, hl3, hS3, hat3, hK3⟩
  have hg1 : g < w1.heap.size := hS.lt
  have hs23 := hs2.kept hK3 (fun hn x hx => by have := hf2 hn x hx; simp; omega)
  have hK13 : Kept [g] ((w.alloc (.cells #[.bool false, .slice none 0 0] 26)).alloc (.cells #[.bool false, .slice none 0 0] 26)) w3 := (hK.mono (M := [g]) (by simp)).trans (hK2.trans hK3 (fun _ h _ => h)) (fun _ h _ => h)
  obtain ⟨⟨c0, c1, d0, d1⟩, ⟨f0, f1, k0, k1⟩, z3⟩ := boxes2 hK13 (by simp; omega)
  have HE := Lib.hid (duo_end (u0 := .bool p) (u1 := .slice a2 xs.length c2) (u2 := .bool q) (u3 := .slice a3 ys.length c3) hK13 (by simp; omega) hs23 (hf2.mono (by omega)) ⟨hn2, by omega⟩ hs3 (hf3.mono (by omega)) ⟨hn3, by omega⟩)
  obtain ⟨s0, s1, s2, s3⟩ := cells22 (R := w.heap.size) (S := w.heap.size + 1) (by omega) (.bool p) (.slice a2 xs.length c2) (.bool q) (.slice a3 ys.length c3) c0 c1 d0 d1
  clear hS hS2 hS3 hK hK2 hK3 hs2 hf2 hs3 hf3 hs23 hK13 hn2 hn3
  go_wp2_with fail
  refine bodyPost_ret (v := .tuple #[.agg #[.bool p, .slice a2 xs.length c2], .agg #[.bool q, .slice a3 ys.length c3]]) (by simp [results, Try.results9, go_sem, s0, s1, s2, s3]) rfl ?_
  exact ⟨p, a2, c2, xs, q, a3, c3, ys, rfl, HE.out.1, HE.out.2.1, HE.out.2.2⟩

theorem mag_lt40 {z : Int} {k : Nat} (h : -pw k < z ∧ z < pw k) (hk : k ≤ 40) : Nat40 (mag z) ∧ (mag z).length ≤ 40 :=
  ⟨nat40_of_canon (mag_canon z) (Nat.le_trans (mag_len_lt h) hk), Nat.le_trans (mag_len_lt h) hk⟩
theorem near_mag (z : Int) : Near (mag z) := (canon_limbs (mag_canon z)).near
theorem pick4 {x0 x1 x2 x3 lo hi : Int} (h0 : lo ≤ x0 ∧ x0 ≤ hi) (h1 : lo ≤ x1 ∧ x1 ≤ hi) (h2 : lo ≤ x2 ∧ x2 ≤ hi) (h3 : lo ≤ x3 ∧ x3 ≤ hi) {j : Nat} (hj : j < [x0, x1, x2, x3].length) : lo ≤ [x0, x1, x2, x3].getD j 0 ∧ [x0, x1, x2, x3].getD j 0 ≤ hi := by
  match j, hj with
  | 0, _ => exact h0
  | 1, _ => exact h1
  | 2, _ => exact h2
  | 3, _ => exact h3
  | n + 4, h => exact absurd h (by simp)
theorem pick3 {x0 x1 x2 lo hi : Int} (h0 : lo ≤ x0 ∧ x0 ≤ hi) (h1 : lo ≤ x1 ∧ x1 ≤ hi) (h2 : lo ≤ x2 ∧ x2 ≤ hi) {j : Nat} (hj : j < [x0, x1, x2].length) : lo ≤ [x0, x1, x2].getD j 0 ∧ [x0, x1, x2].getD j 0 ≤ hi := by
  match j, hj with
  | 0, _ => exact h0
  | 1, _ => exact h1
  | 2, _ => exact h2
  | n + 3, h => exact absurd h (by simp)

/-- The end of a draw of one big that lies in a box. -/
theorem one_end {w w1 : World} {L : List Nat} {T : TypeId} {v0 v1 u0 u1 : Value} {a : Option Addr} {c : Nat} {xs : List Int}
    (hk : Kept L (w.alloc (.cells #[v0, v1] T)) w1) (hg : ∀ x, x ∈ L → w.heap.size + 1 ≤ x) (hs : Sl w1 a xs.length c xs) (hf : Fr (w.heap.size + 1) a xs.length) (hn : Near xs ∧ xs.length ≤ 90) :
    Drawn w ((w1.setCell ⟨w.heap.size, 0, none⟩ u0).setCell ⟨w.heap.size, 1, none⟩ u1) a c xs ∧ Kept [] w ((w1.setCell ⟨w.heap.size, 0, none⟩ u0).setCell ⟨w.heap.size, 1, none⟩ u1) :=
  ⟨⟨hs.kept (kset2 _ _ _ _) (fun hn x hx => by have := hf hn x hx; simp; omega), hf.mono (by omega), hn.1, hn.2⟩,
   (((Kept.refl [] w).alloc _).trans hk (fun x hx hlt => by have := hg x hx; omega)).trans (kset2 _ _ _ _) (fun x hx hlt => by simp at hx; omega)⟩

set_option maxHeartbeats 4000000 in
theorem DrawBigValue_any (a : Option Addr) (n c : Nat) (bs : List Int) (w : World) (h : Rd8 w a n bs) :
    Calls Try.prog 14 #[.slice a n c] w (Draw1B w) := by
  have HR := Lib.hid h
  clear h
  go_enter Try.func14, Try.ntmps14
  go_wp2_with fail
  refine (l1Source_any _ _ _ _ _ (HR.out.kept ((Kept.refl [] w).alloc _) (by simp))).mono ?_
  rintro e w1 ⟨g, rfl, hg, hS, hK⟩
  simp only [World.size_alloc] at hg
  have hg1 : g < w1.heap.size := hS.lt
  have K1 := Lib.hid (hK.mono (M := [g]) (by simp))
  clear hK
  go_wp2_with fail
  refine (l1Chance_any g a n c bs 0 2 _ hS (by omega) (by omega)).mono ?_
  rintro e w2 ⟨b, rfl, hS2, hK2⟩
  have K2 := Lib.hid (K1.out.trans hK2 (fun _ h _ => h))
  have hg2 : g < w2.heap.size := hS2.lt
  clear hS hK2 K1
  cases b
  · go_wp2_with fail
    refine (l2Bent_any g a n c bs (0 + 1) _ hS2 (by omega)).mono ?_
    rintro e w3 ⟨p, av, cv, xs, at3, rfl, hs3, hf3, hn3, hl3, hS3, hat3, hK3⟩
    have K3 := Lib.hid (K2.out.trans hK3 (fun _ h _ => h))
    have hz2 := K2.out.size
    simp only [World.size_alloc] at hz2
    obtain ⟨c0, c1, f0, f1, z3⟩ := box2 K3.out (by simp; omega)
    have HE := Lib.hid (one_end (u0 := .bool p) (u1 := .slice av xs.length cv) K3.out (by simp; omega) hs3 (hf3.mono (by omega)) ⟨hn3, by omega⟩)
    obtain ⟨_, s0, s1⟩ := cells2 (.bool p) (.slice av xs.length cv) c0 c1
    clear hS2 hS3 hK3 hs3 hf3
    go_wp2_with fail
    refine bodyPost_ret (v := .agg #[.bool p, .slice av xs.length cv]) (by simp [results, Try.results14, go_sem, s0, s1]) rfl ?_
    exact ⟨p, av, cv, xs, rfl, HE.out.1, HE.out.2⟩
  · go_wp2_with fail
    have hR := (Sl.ofBlk (Blk.new w2 [0, -5, 9223372036854775807, -9223372036854775808]) (by simp)).rd
    refine (l1Pick_any g a n c bs (0 + 1) _ 4 _ [0, -5, 9223372036854775807, -9223372036854775808] _ (hS2.kept0 ((Kept.refl [] w2).alloc _)) (by omega) hR (fun _ y hy => by cases hy; simp; omega) (by omega)).mono ?_
    rintro e w3 ⟨j, hj, rfl, hS3, hK3⟩
    have hy := pick4 (lo := -9223372036854775808) (hi := 9223372036854775807) (by omega) (by omega) (by omega) (by omega) hj
    generalize ([0, -5, 9223372036854775807, -9223372036854775808] : List Int).getD j 0 = y at hy
    have K3 := Lib.hid (K2.out.trans (((Kept.refl [g] w2).alloc _).trans hK3 (fun _ h _ => h)) (fun _ h _ => h))
    have hg3 : g < w3.heap.size := hS3.lt
    clear hR hj hK3 hS2
    go_wp2_with fail
    refine (sBigOf_any y _ hy.2 hy.1).mono ?_
    rintro e w4 ⟨a4, c4, rfl, hs4, hf4, hK4⟩
    have K4 := Lib.hid (K3.out.trans0 hK4)
    have hS4 := hS3.kept0 hK4
    have hg4 : g < w4.heap.size := hS4.lt
    have hz4 := hK4.size
    go_wp2_with fail
    have hR := (Sl.ofBlk (Blk.new w4 [0, 1, -1]) (by simp)).rd
    refine (l1Pick_any g a n c bs (0 + 1 + 1) _ 3 _ [0, 1, -1] _ (hS4.kept0 ((Kept.refl [] w4).alloc _)) (by omega) hR (fun _ y hy => by cases hy; simp; omega) (by omega)).mono ?_
    rintro e w5 ⟨j, hj, rfl, hS5, hK5⟩
    have hx := pick3 (lo := -1) (hi := 1) (by omega) (by omega) (by omega) hj
    generalize ([0, 1, -1] : List Int).getD j 0 = x at hx
    have hk45 : Kept [g] w4 w5 := ((Kept.refl [g] w4).alloc _).trans hK5 (fun _ h _ => h)
    have K5 := Lib.hid (K4.out.trans hk45 (fun _ h _ => h))
    have hs5 := hs4.kept hk45 (fun hn x hx => by have := hf4 hn x hx; simp; omega)
    clear hR hj hK5
    go_wp2_with fail
    refine (sBigOf_any x _ (by omega) (by omega)).mono ?_
    rintro e w6 ⟨a6, c6, rfl, hs6, hf6, hK6⟩
    have K6 := Lib.hid (K5.out.trans0 hK6)
    have hs56 := hs5.kept0 hK6
    go_wp2_with fail
    refine (l2Add_any _ _ _ _ _ _ _ _ _ _ _ (mag_lt40 (k := 5) (by simp only [pw]; omega) (by omega)).1 (mag_lt40 (k := 5) (by simp only [pw]; omega) (by omega)).1 hs56 hs6).mono ?_
    rw [sv_mag, sv_mag]
    rintro e w7 ⟨a7, c7, rfl, hs7, hf7, hK7⟩
    have K7 := Lib.hid (K6.out.trans0 hK7)
    have hz6 := K6.out.size
    simp only [World.size_alloc] at hz6
    have hl7 := (mag_lt40 (z := y + x) (k := 5) (by simp only [pw]; omega) (by omega)).2
    have hn7 := near_mag (y + x)
    generalize isNeg (y + x) = p at *
    generalize mag (y + x) = xs at *
    obtain ⟨c0, c1, f0, f1, z3⟩ := box2 K7.out (by simp; omega)
    have HE := Lib.hid (one_end (u0 := .bool p) (u1 := .slice a7 xs.length c7) K7.out (by simp; omega) hs7 (hf7.mono (by omega)) ⟨hn7, by omega⟩)
    obtain ⟨_, s0, s1⟩ := cells2 (.bool p) (.slice a7 xs.length c7) c0 c1
    clear hS3 hS4 hS5 hs4 hf4 hs5 hs56 hs6 hf6 hs7 hf7 hK4 hK6 hK7 hk45
    go_wp2_with fail
    refine bodyPost_ret (v := .agg #[.bool p, .slice a7 xs.length c7]) (by simp [results, Try.results14, go_sem, s0, s1]) rfl ?_
    exact ⟨p, a7, c7, xs, rfl, HE.out.1, HE.out.2⟩

theorem mul_lt9 {x y : Int} (hx : 0 ≤ x) (hlx : (digits x).length ≤ 4) (hy : 0 ≤ y) (hly : (digits y).length ≤ 4) : 0 ≤ x * y ∧ x * y + 2 < pw 9 :=
  mul_lt8 ⟨hx, draw_lt (most := 4) 4 hx (by omega) (by omega)⟩ ⟨hy, draw_lt (most := 4) 4 hy (by omega) (by omega)⟩
theorem sg_bound {p : Bool} {v k : Int} (h : 0 ≤ v ∧ v + 2 < pw 9) (hk : -1 ≤ k ∧ k ≤ 1) : -pw 9 < sg p v + k ∧ sg p v + k < pw 9 := by
  cases p
  · show -pw 9 < v + k ∧ v + k < pw 9; omega
  · show -pw 9 < -v + k ∧ -v + k < pw 9; omega

/-- What a region leaves alone: the blocks but G and L, and that the boxes of L may be written. -/
structure KF (G L : List Nat) (w w' : World) : Prop where
  k : Kept (G ++ L) w w'
  f : ∀ g, g ∈ L → ∀ i, i < 2 → w'.frozen? ⟨g, i, none⟩ = false ∧ g < w'.heap.size
theorem KF.start {G L : List Nat} {w : World} (h : ∀ g, g ∈ L → ∀ i, i < 2 → w.frozen? ⟨g, i, none⟩ = false ∧ g < w.heap.size) : KF G L w w.drew := ⟨(Kept.refl _ _).drew, h⟩
theorem KF.go {G L M : List Nat} {w u v : World} (h : KF G L w u) (k : Kept M u v) (hM : ∀ x, x ∈ M → x ∈ G ∧ x ∉ L) : KF G L w v :=
  ⟨h.k.trans k (fun x hx _ => List.mem_append_left _ (hM x hx).1), fun g hg i hi => ⟨k.free (h.f g hg i hi).1 (h.f g hg i hi).2 (fun hm => (hM g hm).2 hg), Nat.lt_of_lt_of_le (h.f g hg i hi).2 k.size⟩⟩
theorem KF.go0 {G L : List Nat} {w u v : World} (h : KF G L w u) (k : Kept [] u v) : KF G L w v := h.go k (by simp)
theorem KF.go1 {g : Nat} {L : List Nat} {w u v : World} (h : KF [g] L w u) (k : Kept [g] u v) (hg : g ∉ L) : KF [g] L w v := h.go k (fun x hx => by simp at hx; subst hx; exact ⟨by simp, hg⟩)
theorem KF.set {G L : List Nat} {w u : World} (h : KF G L w u) (g i : Nat) (v : Value) (hg : g ∈ L) : KF G L w (u.setCell ⟨g, i, none⟩ v) :=
  ⟨h.k.setCell _ _ (fun _ => List.mem_append_right _ hg), fun g' hg' i' hi' => ⟨by rw [World.frozen?_setCell]; exact (h.f g' hg' i' hi').1, by simpa using (h.f g' hg' i' hi').2⟩⟩

set_option maxHeartbeats 4000000 in
theorem DrawFloorRoot_any (a : Option Addr) (n c : Nat) (bs : List Int) (w : World) (h : Rd8 w a n bs) :
    Calls Try.prog 29 #[.slice a n c] w (Draw1B w) := by
  have HR := Lib.hid h
  clear h
  go_enter Try.func29, Try.ntmps29
  go_wp2_with fail
  refine (l1Source_any _ _ _ _ _ (HR.out.kept ((Kept.refl [] w).alloc _) (by simp))).mono ?_
  rintro e w1 ⟨g, rfl, hg, hS, hK⟩
  simp only [World.size_alloc] at hg
  have hg1 : g < w1.heap.size := hS.lt
  have K1 := Lib.hid (hK.mono (M := [g]) (by simp))
  clear hK
  go_wp2_with fail
  refine (l1Chance_any g a n c bs 0 2 _ hS (by omega) (by omega)).mono ?_
  rintro e w2 ⟨b, rfl, hS2, hK2⟩
  have K2 := Lib.hid (K1.out.trans hK2 (fun _ h _ => h))
  have hg2 : g < w2.heap.size := hS2.lt
  clear hS hK2 K1
  have hz2 := K2.out.size
  simp only [World.size_alloc] at hz2
  cases b
  · go_wp2_with fail
    refine (l2Bent_any g a n c bs (0 + 1) _ hS2 (by omega)).mono ?_
    rintro e w3 ⟨p, av, cv, xs, at3, rfl, hs3, hf3, hn3, hl3, hS3, hat3, hK3⟩
    have K3 := Lib.hid (K2.out.trans hK3 (fun _ h _ => h))
    obtain ⟨c0, c1, f0, f1, z3⟩ := box2 K3.out (by simp; omega)
    have HE := Lib.hid (one_end (u0 := .bool p) (u1 := .slice av xs.length cv) K3.out (by simp; omega) hs3 (hf3.mono (by omega)) ⟨hn3, by omega⟩)
    obtain ⟨_, s0, s1⟩ := cells2 (.bool p) (.slice av xs.length cv) c0 c1
    clear hS2 hS3 hK3 hs3 hf3
    go_wp2_with fail
    refine bodyPost_ret (v := .agg #[.bool p, .slice av xs.length cv]) (by simp [results, Try.results29, go_sem, s0, s1]) rfl ?_
    exact ⟨p, av, cv, xs, rfl, HE.out.1, HE.out.2⟩
  · go_wp2_with fail
    refine (l2Draw_any g a n c bs (0 + 1) 4 _ hS2 (by omega) (by omega)).mono ?_
    rintro e w3 ⟨q, a3, c3, x, at3, rfl, hs3, hf3, hx0, hl3, hS3, hat3, hK3⟩
    have K3 := Lib.hid (K2.out.trans hK3 (fun _ h _ => h))
    obtain ⟨w4, h4⟩ : ∃ w4, w4 = w3.alloc (.cells #[.bool q, .slice a3 (digits x).length c3] 26) := ⟨_, rfl⟩
    have H4 := Lib.hid h4
    have hk4 : Kept [] w3 w4 := by rw [h4]; exact (Kept.refl [] w3).alloc _
    have b0 : w4.cell? ⟨w3.heap.size, 0, none⟩ = some (.bool q) := by rw [h4]; simp
    have b1 : w4.cell? ⟨w3.heap.size, 1, none⟩ = some (.slice a3 (digits x).length c3) := by rw [h4]; simp
    have hz4 : w4.heap.size = w3.heap.size + 1 := by rw [h4]; simp
    clear h4
    have hz4' : w3.heap.size + 1 ≤ w4.heap.size := by omega
    clear hz4
    have K4 := Lib.hid (K3.out.trans0 hk4)
    have hs4 := hs3.kept0 hk4
    have hS4 := hS3.kept0 hk4
    have hg4 : g < w4.heap.size := hS4.lt
    have nx : Nat40 (digits x) := nat40_of_canon (canon_digits' x) (by omega)
    go_wp2_with fail
    rw [← H4.out]
    go_wp2_with fail
    refine (l2Mul_any _ _ _ _ _ _ _ _ _ _ _ nx nx hs4 hs4).mono ?_
    rw [show sv q (digits x) * sv q (digits x) = sg (q != q) (x * x) by unfold sv; rw [sg_mul, val_digits' hx0]]
    rintro e w5 ⟨a5, c5, rfl, hs5, hf5, hK5⟩
    have hxx := mul_lt9 hx0 (show (digits x).length ≤ 4 by omega) hx0 (by omega)
    have hsb := fun (k : Int) (hk : -1 ≤ k ∧ k ≤ 1) => sg_bound (p := (q != q)) hxx hk
    generalize hM : sg (q != q) (x * x) = M at *
    have K5 := Lib.hid (K4.out.trans0 hK5)
    have hS5 := hS4.kept0 hK5
    have hg5 : g < w5.heap.size := hS5.lt
    go_wp2_with fail
    have hR := (Sl.ofBlk (Blk.new w5 [0, 0, 1, -1]) (by simp)).rd
    refine (l1Pick_any g a n c bs at3 _ 4 _ [0, 0, 1, -1] _ (hS5.kept0 ((Kept.refl [] w5).alloc _)) (by omega) hR (fun _ y hy => by cases hy; simp; omega) (by omega)).mono ?_
    rintro e w6 ⟨j, hj, rfl, hS6, hK6⟩
    have hy := pick4 (lo := -1) (hi := 1) (by omega) (by omega) (by omega) (by omega) hj
    generalize ([0, 0, 1, -1] : List Int).getD j 0 = y at hy
    have hk56 : Kept [g] w5 w6 := ((Kept.refl [g] w5).alloc _).trans hK6 (fun _ h _ => h)
    have K6 := Lib.hid (K5.out.trans hk56 (fun _ h _ => h))
    have hs56 := hs5.kept hk56 (fun hn x hx => by have := hf5 hn x hx; simp; omega)
    clear hR hj hK6
    go_wp2_with fail
    refine (sBigOf_any y _ (by omega) (by omega)).mono ?_
    rintro e w7 ⟨a7, c7, rfl, hs7, hf7, hK7⟩
    have K7 := Lib.hid (K6.out.trans0 hK7)
    have hs57 := hs56.kept0 hK7
    have hb0 := hsb 0 (by omega)
    have hby := hsb y hy
    go_wp2_with fail
    refine (l2Add_any _ _ _ _ _ _ _ _ _ _ _ (mag_lt40 (k := 9) (by omega) (by omega)).1 (mag_lt40 (k := 5) (by simp only [pw]; omega) (by omega)).1 hs57 hs7).mono ?_
    rw [sv_mag, sv_mag]
    rintro e w8 ⟨a8, c8, rfl, hs8, hf8, hK8⟩
    have K8 := Lib.hid (K7.out.trans0 hK8)
    have hz7 := K7.out.size
    simp only [World.size_alloc] at hz7
    have hl8 := (mag_lt40 (z := M + y) (k := 9) hby (by omega)).2
    have hn8 := near_mag (M + y)
    generalize isNeg (M + y) = p at *
    generalize mag (M + y) = xs at *
    obtain ⟨c0, c1, f0, f1, z3⟩ := box2 K8.out (by simp; omega)
    have HE := Lib.hid (one_end (u0 := .bool p) (u1 := .slice a8 xs.length c8) K8.out (by simp; omega) hs8 (hf8.mono (by omega)) ⟨hn8, by omega⟩)
    obtain ⟨_, s0, s1⟩ := cells2 (.bool p) (.slice a8 xs.length c8) c0 c1
    clear hS3 hS4 hS5 hS6 hs4 hs5 hs56 hs57 hf5 hs7 hf7 hK7 hs8 hf8 hK8 hk56 hsb hM hb0 hby b0 b1 hk4 hK5
    go_wp2_with fail
    refine bodyPost_ret (v := .agg #[.bool p, .slice a8 xs.length c8]) (by simp [results, Try.results29, go_sem, s0, s1]) rfl ?_
    exact ⟨p, a8, c8, xs, rfl, HE.out.1, HE.out.2⟩

end Go.Proofs.Ythahkicpkohfkaa
