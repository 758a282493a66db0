/-
  A draw of a natural that may be bent: contract of l1Bent. Condition: few bytes have been read so far.
-/
import Derived.Test.YtlhiahhpmjiioaaSrcB
namespace Go.Proofs.Ytlhiahhpmjiioaa
open Go.RowKit

/-- The numbers of a bent natural: near to limbs. -/
def Near (xs : List Int) : Prop := ∀ i, i < xs.length → -1 ≤ xs.getD i 0 ∧ xs.getD i 0 ≤ 65536
theorem AllLimbs.near {xs : List Int} (h : AllLimbs xs) : Near xs := fun i hi => by have := h i hi; omega
theorem Near.snoc {xs : List Int} (h : Near xs) {d : Int} (hd : -1 ≤ d ∧ d ≤ 65536) : Near (xs ++ [d]) := by
  intro i hi
  by_cases e : i < xs.length
  · rw [List.getD_eq_getElem?_getD, List.getElem?_append_left e, ← List.getD_eq_getElem?_getD]; exact h i e
  · have : i = xs.length := by simp at hi; omega
    subst this
    simp; exact hd

theorem src_grown {w w3 w4 : World} {g : Nat} {a : Option Addr} {n c : Nat} {bs : List Int} {at0 at2 : Int} {v : Value} {xs : List Int} {o : Obj} (HS : Src w g a n c bs at0) (HS3 : Src w3 g a n c bs at2) (HO3 : Ow w.heap.size w3 v xs) (hG : (w3.alloc o).grownBy w4 v.ownBlock) : Src w4 g a n c bs at2 :=
  HS3.kept (((Kept.refl v.ownBlock.toList w3).alloc _).grown hG (fun k hk _ => by rw [hk]; simp))
    (fun hm => by rw [Option.mem_toList] at hm; have := (World.ownsRow.lt HO3 g hm).1; have := HS.lt; omega)
    (fun hn x hx hm => by rw [Option.mem_toList] at hm; have := (World.ownsRow.lt HO3 _ hm).1; have := HS.2.2.2.1.lt hn x hx; omega)
theorem getD2 {x y : Int} {j : Nat} (hj : j < [x, y].length) : [x, y].getD j 0 = x ∨ [x, y].getD j 0 = y := by
  match j, hj with
  | 0, _ => exact Or.inl rfl
  | 1, _ => exact Or.inr rfl
  | n + 2, h => exact absurd h (by simp)

/-- What a draw of a natural that may be bent answers: numbers, in memory of the draw's own. -/
def BentR (w : World) (g : Nat) (a : Option Addr) (n c : Nat) (bs : List Int) (at_ : Int) (e : Ending) (w' : World) : Prop :=
  ∃ av cv xs at2, e = .returned (.slice av xs.length cv) ∧ Sl w' av xs.length cv xs ∧ Fr w.heap.size av xs.length ∧ Near xs ∧ xs.length ≤ 41 ∧ Src w' g a n c bs at2 ∧ at2 ≤ at_ + 60 ∧ Kept [g] w w'

set_option maxHeartbeats 1000000 in
theorem l1Bent_any (g : Nat) (a : Option Addr) (n c : Nat) (bs : List Int) (at_ : Int) (w : World) (h : Src w g a n c bs at_) (ha : at_ ≤ 800000) :
    Calls Try.prog 56 #[.pointer (some ⟨g, 0, none⟩)] w (BentR w g a n c bs at_) := by
  have HS := Lib.hid h
  clear h
  go_enter Try.func56, Try.ntmps56
  go_wp2_with fail
  have hR4 := (Sl.ofBlk (Blk.new w [1, 3, 6, 20]) (by simp)).rd
  refine (l1Pick_any g a n c bs at_ _ 4 _ [1, 3, 6, 20] _ (HS.out.kept0 ((Kept.refl [] w).alloc _)) (by omega) hR4 (fun _ y hy => by cases hy; have := HS.out.lt; simp; omega) (by omega)).mono ?_
  rintro e w1 ⟨j, hj, rfl, hS1, hK1⟩
  have hy : 1 ≤ ([1, 3, 6, 20] : List Int).getD j 0 ∧ ([1, 3, 6, 20] : List Int).getD j 0 ≤ 20 := by
    match j, hj with
    | 0, _ => show (1 : Int) ≤ 1 ∧ (1 : Int) ≤ 20; omega
    | 1, _ => show (1 : Int) ≤ 3 ∧ (3 : Int) ≤ 20; omega
    | 2, _ => show (1 : Int) ≤ 6 ∧ (6 : Int) ≤ 20; omega
    | 3, _ => show (1 : Int) ≤ 20 ∧ (20 : Int) ≤ 20; omega
    | n + 4, h => exact absurd h (by simp)
  generalize ([1, 3, 6, 20] : List Int).getD j 0 = y at hy
  have HS1 := Lib.hid hS1
  have HK1 : Hid (Kept [g] w w1) := ((Kept.refl [g] w).alloc _).trans hK1 (fun _ h _ => h)
  clear hS1 hK1 hR4 hj
  go_wp2_with fail
  refine (l1Draw_any g a n c bs (at_ + 1) y _ HS1.out (by omega) (by omega)).mono ?_
  rintro e w2 ⟨v, x, at2, rfl, hO2, hx0, hl2, hS2, hat2, hK2⟩
  have HS2 := Lib.hid hS2
  have HK2 : Hid (Kept [g] w w2) := HK1.out.trans hK2 (fun _ h _ => h)
  have HO2 : Hid (Ow w.heap.size w2 v (digits x)) := hO2.mono HK1.out.size
  have HN2 : Hid (Near (digits x)) := (canon_limbs (canon_digits' _)).near
  clear hS2 hK2 hO2
  generalize digits x = xs at HO2 HN2 hl2
  have hat0 : -4 ≤ at2 := by have := HS2.out.2.2.2.2.2; omega
  go_wp2_with fail
  refine (l1Next_any g a n c bs at2 24 _ HS2.out (by omega) (by omega)).mono ?_
  rintro e w3 ⟨r, rfl, hr0, hr1, hS3, hK3⟩
  have HS3 := Lib.hid hS3
  have HK3 : Hid (Kept [g] w w3) := HK2.out.trans hK3 (fun _ h _ => h)
  have HO3 : Hid (Ow w.heap.size w3 v xs) := HO2.out.kept hK3 (fun y hy => by have := World.ownsRow.lt HO2.out y hy; have := HS.out.lt; simp; omega)
  clear hS3 hK3 HO2 HS2 HK2
  by_cases r0 : r = 0
  · subst r0
    have hsz : w.heap.size ≤ w3.heap.size := HK3.out.size
    go_wp2_with (at_builtin; refine app1 rfl _ _ rfl w.heap.size v xs rfl (HO3.out.alloc _) w3.heap.size 0 rfl (by simp) (by omega) (by simp; omega) ?_)
    intro v' w4 hO4 hG
    have HK4 : Hid (Kept [g] w w4) := kept_grown (HK3.out.alloc _) (HO3.out.alloc _) hG (Nat.le_refl _)
    have HS4 := Lib.hid (src_grown HS.out HS3.out HO3.out hG)
    have HO4 := Lib.hid hO4
    clear hO4 hG
    go_wp2
    go_ret
    obtain ⟨av, cv, rfl, hs, hf⟩ := HO4.out.sl
    exact ⟨av, cv, xs ++ [0], at2 + 1, rfl, hs, hf, HN2.out.snoc (by omega), by simp; omega, HS4.out, by omega, HK4.out⟩
  · by_cases r1 : r = 1
    · subst r1
      go_wp2_with fail
      have hR2 := (Sl.ofBlk (Blk.new w3 [65536, -1]) (by simp)).rd
      refine (l1Pick_any g a n c bs (at2 + 1) _ 2 _ [65536, -1] _ (HS3.out.kept0 ((Kept.refl [] w3).alloc _)) (by omega) hR2 (fun _ y hy => by cases hy; have := HS3.out.lt; simp; omega) (by omega)).mono ?_
      rintro e w4 ⟨j4, hj4, rfl, hS4, hK4⟩
      have hz : -1 ≤ ([65536, -1] : List Int).getD j4 0 ∧ ([65536, -1] : List Int).getD j4 0 ≤ 65536 := by have := getD2 hj4; omega
      generalize ([65536, -1] : List Int).getD j4 0 = z at hz
      have HS4 := Lib.hid hS4
      have HK4 : Hid (Kept [g] w w4) := HK3.out.trans (((Kept.refl [g] w3).alloc _).trans hK4 (fun _ h _ => h)) (fun _ h _ => h)
      have HO4 : Hid (Ow w.heap.size w4 v xs) := HO3.out.kept (((Kept.refl [g] w3).alloc _).trans hK4 (fun _ h _ => h)) (fun y hy => by have := World.ownsRow.lt HO3.out y hy; have := HS.out.lt; simp; omega)
      have hsz : w.heap.size ≤ w4.heap.size := HK4.out.size
      clear hS4 hK4 hR2 hj4 HS3 HK3 HO3
      go_wp2_with (at_builtin; refine app1 rfl _ _ rfl w.heap.size v xs rfl (HO4.out.alloc _) w4.heap.size z rfl (by simp) (by omega) (by simp; omega) ?_)
      intro v' w5 hO5 hG
      have HK5 : Hid (Kept [g] w w5) := kept_grown (HK4.out.alloc _) (HO4.out.alloc _) hG (Nat.le_refl _)
      have HS5 := Lib.hid (src_grown HS.out HS4.out HO4.out hG)
      have HO5 := Lib.hid hO5
      clear hO5 hG
      go_wp2
      go_ret
      obtain ⟨av, cv, rfl, hs, hf⟩ := HO5.out.sl
      exact ⟨av, cv, xs ++ [z], at2 + 1 + 1, rfl, hs, hf, HN2.out.snoc hz, by simp; omega, HS5.out, by omega, HK5.out⟩
    · by_cases r2 : r = 2
      · subst r2
        go_wp2_with fail
        have hR2 := (Sl.ofBlk (Blk.new w3 [40, 41]) (by simp)).rd
        refine (l1Pick_any g a n c bs (at2 + 1) _ 2 _ [40, 41] _ (HS3.out.kept0 ((Kept.refl [] w3).alloc _)) (by omega) hR2 (fun _ y hy => by cases hy; have := HS3.out.lt; simp; omega) (by omega)).mono ?_
        rintro e w4 ⟨j4, hj4, rfl, hS4, hK4⟩
        have hz : 40 ≤ ([40, 41] : List Int).getD j4 0 ∧ ([40, 41] : List Int).getD j4 0 ≤ 41 := by have := getD2 hj4; omega
        generalize ([40, 41] : List Int).getD j4 0 = z at hz
        obtain ⟨m, rfl⟩ := Int.eq_ofNat_of_zero_le (show 0 ≤ z by omega)
        have HS4 := Lib.hid hS4
        have HK4 : Hid (Kept [g] w w4) := HK3.out.trans (((Kept.refl [g] w3).alloc _).trans hK4 (fun _ h _ => h)) (fun _ h _ => h)
        have hsz : w.heap.size ≤ w4.heap.size := HK4.out.size
        clear hS4 hK4 hR2 hj4 HS3 HK3 HO3
        obtain ⟨i0, hi, hz0, hz1, hz2⟩ := info_parts Try.info64
        have hmk := fun (w : World) => run_make_row (P := Try.prog) 24 2 i0 (.int .i64 0) Try.underlying24 hi hz0 hz1 rfl .i64 .i64 m (by rw [hz2]; omega) (by omega) w
        have hb0 := Blk.new w4 (List.replicate m 0)
        rw [← made_zeros] at hb0
        have HB := Lib.hid hb0
        clear hb0 hi hz0 hz1 hz2
        go_wp2_with fail
        have hRZ := (Sl.ofBlk (Blk.new (w4.alloc (.cells (madeCells #[.int .i64 0] m) 2)) [1, 65535]) (by simp)).rd
        have hKZ : Kept [g] w4 ((w4.alloc (.cells (madeCells #[.int .i64 0] m) 2)).alloc (.cells (ints [1, 65535]) 2)) := ((Kept.refl [g] w4).alloc _).alloc _
        have hlt := HS4.out.lt
        refine (l1Pick_any g a n c bs (at2 + 1 + 1) _ 2 _ [1, 65535] _ (HS4.out.kept0 (((Kept.refl [] w4).alloc _).alloc _)) (by omega) (by simpa [ints] using hRZ) (fun _ y hy => by cases hy; simp; omega) (by omega)).mono ?_
        rintro e w5 ⟨j5, hj5, rfl, hS5, hK5⟩
        have hu : -1 ≤ ([1, 65535] : List Int).getD j5 0 ∧ ([1, 65535] : List Int).getD j5 0 ≤ 65536 := by have := getD2 hj5; omega
        generalize ([1, 65535] : List Int).getD j5 0 = u at hu
        have HS5 := Lib.hid hS5
        have HK5 : Hid (Kept [g] w w5) := HK4.out.trans (hKZ.trans hK5 (fun _ h _ => h)) (fun _ h _ => h)
        have hB5 : Blk w5 w4.heap.size (List.replicate m 0) := hK5.blk (((Kept.refl [] _).alloc _).blk HB.out (by simp)) (by simp; omega)
        have hB5lt : w4.heap.size + 1 ≤ w5.heap.size := hB5.lt
        have hd := hB5.cell (j := m - 1) (by simp; omega)
        have hf := hB5.frozen (m - 1)
        have hnew := hB5.set (m - 1) u
        have HN := Lib.hid hnew
        have h0 : (0 : Int) ≤ (m : Int) - 1 := by omega
        have h1 : (m : Int) - 1 < (m : Int) := by omega
        clear hS5 hK5 hB5 hRZ hKZ hj5 HB hnew
        go_wp2_with fail
        go_ret
        have hw : w4.heap.size + 1 ≤ w5.heap.size := hB5lt
        have hnr : Near ((List.replicate m 0).set (m - 1) u) := by
          intro i hi
          rw [List.getD_eq_getElem?_getD, List.getElem?_set]
          split
          · split
            · exact hu
            · simp
          · rw [List.getElem?_replicate]
            split <;> simp
        generalize hcs : (List.replicate m (0 : Int)).set (m - 1) u = cs at HN hnr
        have hl : cs.length = m := by rw [← hcs]; simp
        clear hcs hd
        subst hl
        exact ⟨some ⟨w4.heap.size, 0, none⟩, cs.length, cs, at2 + 1 + 1 + 1, rfl, Sl.ofBlk HN.out (by omega), fun _ y hy => by cases hy; exact hsz, hnr, by omega, HS5.out.kept ((Kept.refl [w4.heap.size] w5).setCell _ _ (by simp)) (by simp; omega) (fun hn x hx hm => by have := HS.out.2.2.2.1.lt hn x hx; simp at hm; omega), by omega, HK5.out.setCell _ _ (by simp; omega)⟩
      · go_wp2_with fail
        go_ret
        obtain ⟨av, cv, rfl, hs, hf⟩ := HO3.out.sl
        exact ⟨av, cv, xs, at2 + 1, rfl, hs, hf, HN2.out, by omega, HS3.out, by omega, HK3.out⟩

end Go.Proofs.Ytlhiahhpmjiioaa
