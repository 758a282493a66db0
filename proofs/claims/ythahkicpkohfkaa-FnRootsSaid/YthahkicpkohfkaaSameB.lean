/-
  Contract of keyOfBig: the sign, and eight bytes a limb. Condition: the limbs read as a list of numbers.
-/
import Derived.Deep.RegionHeld3
import Derived.Deep.DrawnRows
import Derived.Deep.DeepCutAuto
import Derived.Test.YthahkicpkohfkaaSameA
import Derived.Test.YthahkicpkohfkaaJ1
namespace Go.Proofs.Ythahkicpkohfkaa
open Go.RowKit

/-- The j-th byte of a limb. -/
def byteAt (x : Int) (j : Nat) : Int := x / 2 ^ (8 * j) % 256
def limbB (x : Int) (j : Nat) : List UInt8 := (List.range j).map fun i => UInt8.ofNat (byteAt x i).toNat
def keyL (xs : List Int) (k : Nat) : List UInt8 := (xs.take k).flatMap fun x => limbB x 8
theorem byteAt_in (x : Int) (j : Nat) : 0 ≤ byteAt x j ∧ byteAt x j < 256 := by
  unfold byteAt
  omega
theorem limbB_succ (x : Int) (j : Nat) : limbB x (j + 1) = limbB x j ++ [UInt8.ofNat (byteAt x j).toNat] := by simp [limbB, List.range_succ]
theorem limbB_len (x : Int) (j : Nat) : (limbB x j).length = j := by simp [limbB]
theorem keyL_succ {xs : List Int} {k : Nat} {x : Int} (h : k < xs.length) (hx : xs.getD k 0 = x) : keyL xs (k + 1) = keyL xs k ++ limbB x 8 := by
  unfold keyL
  rw [List.take_succ_eq_append_getElem h, List.flatMap_append]
  congr 1
  have : xs[k] = x := by rw [← hx]; simp [List.getD_eq_getElem?_getD, h]
  simp [this]
theorem keyL_len (xs : List Int) (k : Nat) (hk : k ≤ xs.length) : (keyL xs k).length = 8 * k := by
  induction k with
  | zero => simp [keyL]
  | succ k ih =>
    rw [keyL_succ (by omega) rfl, List.length_append, ih (by omega), limbB_len]
    omega

theorem drew_cellB {w : World} {p : Addr} {v : Value} (h : w.cell? p = some v) : w.drew.cell? p = some v := h
theorem btrans {B : Nat} {a b c : World} (h : Hid (Below B a b)) (k : Below (B + 1) b c) : Hid (Below B a c) := Lib.hid (h.out.trans (k.mono (by omega)))
theorem bset2 {B : Nat} {w v : World} {x y : Value} (h : Hid (Below B w v)) : Hid (Below B w ((v.setCell ⟨B, 0, none⟩ x).setCell ⟨B, 1, none⟩ y)) :=
  Lib.hid ((h.out.setCell (p := ⟨B, 0, none⟩) (Nat.le_refl _) _).setCell (p := ⟨B, 1, none⟩) (Nat.le_refl _) _)
theorem cset2 {B : Nat} {v : World} {x y z : Value} (h : v.cell? ⟨B, 0, none⟩ = some z) : ((v.setCell ⟨B + 1, 0, none⟩ x).setCell ⟨B + 1, 1, none⟩ y).cell? ⟨B, 0, none⟩ = some z := by
  rw [World.cell?_setCell_other _ _ _ _ (by simp), World.cell?_setCell_other _ _ _ _ (by simp)]; exact h
theorem bcell {B : Nat} {w v : World} {z : Value} (h : Below (B + 1 + 1) w v) (hc : w.cell? ⟨B, 0, none⟩ = some z) : v.cell? ⟨B, 0, none⟩ = some z := (h.cell (by show B < _; omega)).trans hc

set_option maxHeartbeats 4000000 in
theorem keyOfBig_any (p : Bool) (a : Option Addr) (n c : Nat) (xs : List Int) (w : World) (h : Sl w a n c xs) (hn : n ≤ 1048576) :
    Calls Try.prog 71 #[.agg #[.bool p, .slice a n c]] w (fun e w' => e = .returned (.agg #[.bool p, .string ⟨(keyL xs n).toArray⟩]) ∧ Kept [] w w') := by
  have HS := Lib.hid h
  have HR := Lib.hid h.rd
  have HL := Lib.hid h.length
  clear h
  obtain ⟨W, hW⟩ : ∃ W, W = ((w.alloc (.cells #[.bool p, .slice a n c] 26)).alloc (.cells #[.bool false, .string ⟨#[]⟩] 66)).alloc (.cells #[.pointer none, .slice none 0 0] 95) := ⟨_, rfl⟩
  have hkk : Kept [] (((w.alloc (.cells #[.bool p, .slice a n c] 26)).alloc (.cells #[.bool false, .string ⟨#[]⟩] 66)).alloc (.cells #[.pointer none, .slice none 0 0] 95)) W := by rw [hW]; exact Kept.refl _ _
  have c0 := (hkk.peel.peel.top (g := w.heap.size) (by simp) (by simp) 0 (v := .bool p) rfl).1
  have c1 := (hkk.peel.peel.top (g := w.heap.size) (by simp) (by simp) 1 (v := .slice a n c) rfl).1
  have r0 := hkk.peel.top (g := w.heap.size + 1) (by simp) (by simp) 0 (v := .bool false) rfl
  have r1 := hkk.peel.top (g := w.heap.size + 1) (by simp) (by simp) 1 (v := .string ⟨#[]⟩) rfl
  have hb : W.heap[w.heap.size + 1 + 1]? = some (.cells #[.pointer none, .slice none 0 0] 95 (0, 0)) := by
    rw [hW]
    have := heap_alloc_new ((w.alloc (.cells #[.bool p, .slice a n c] 26)).alloc (.cells #[.bool false, .string ⟨#[]⟩] 66)) (.cells #[.pointer none, .slice none 0 0] 95)
    simpa using this
  have hsz : W.heap.size = w.heap.size + 3 := by rw [hW]; simp
  have k0 := hkk.peel.peel.peel
  have HB := Lib.hid hb
  have HW := Lib.hid hW
  have HC := Lib.hid (And.intro c0 c1)
  have HR0 := Lib.hid (And.intro r0 r1)
  have HK0 := Lib.hid k0
  clear hkk hb c0 c1 r0 r1 k0 hW
  go_enter Try.func71, Try.ntmps71
  go_wp2_with fail
  rw [← HW.out, show (8 * (n : Int)) = ((8 * n : Nat) : Int) by omega]
  refine (Grow_fresh (w.heap.size + 1 + 1) (w.heap.size + 1 + 1) (8 * n) _ (Nat.le_refl _) HB.out (by omega) (by omega)).mono ?_
  rintro e W1 ⟨rfl, hb, hbel⟩
  have HBL := Lib.hid hb
  have HE := Lib.hid hbel
  have d0 := (hbel.cell (p := ⟨w.heap.size, 0, none⟩) (by show w.heap.size < _; omega)).trans HC.out.1
  have d1 := (hbel.cell (p := ⟨w.heap.size, 1, none⟩) (by show w.heap.size < _; omega)).trans HC.out.2
  have hs1 : W.heap.size ≤ W1.heap.size := hbel.size
  have HD := Lib.hid (And.intro d0 d1)
  clear hb hbel
  go_wp2_with fail
  clear d0 d1
  go_loopw [15] (fun i wr => ∃ k : Nat, k ≤ n ∧ i = .int .i64 k ∧ Hid (Bld (w.heap.size + 1 + 1) (w.heap.size + 1 + 1) (keyL xs k) wr) ∧ Hid (Below (w.heap.size + 1 + 1) W1 wr)) (fun i _ => n - (intOf i).toNat)
  case atStart => exact ⟨0, Nat.zero_le _, rfl, HBL.out, Below.refl _ _⟩
  case round =>
    obtain ⟨k, hk, rfl, hBl, hE⟩ := hrel
    by_cases hlt : k < n
    · obtain ⟨g, off, rfl, hc0⟩ := HR.out.2.2 k hlt
      have hgl : g < w.heap.size := World.block_lt_of_cell? w _ hc0
      have hc := ((HE.out.trans hE.out).cell (p := ⟨g, off + k, none⟩) (by simp; omega)).trans (HK0.out.cell hc0 (by simp))
      obtain ⟨x, hx⟩ : ∃ x, xs.getD k 0 = x := ⟨_, rfl⟩
      rw [hx] at hc
      have HX := Lib.hid hx
      clear hc0 hx
      go_wp2_with fail
      clear hc
      go_loopw [6] (fun i wr2 => ∃ j : Nat, j ≤ 8 ∧ i = .int .i64 ((8 * j : Nat) : Int) ∧ Hid (Bld (w.heap.size + 1 + 1) (w.heap.size + 1 + 1) (keyL xs k ++ limbB x j) wr2) ∧ Hid (Below (w.heap.size + 1 + 1) W1 wr2)) (fun i _ => 64 - (intOf i).toNat)
      case atStart => exact ⟨0, by omega, rfl, (by have := hBl.out; simpa [limbB] using this : Bld _ _ _ _), hE.out⟩
      case round =>
        obtain ⟨j, hj, rfl, hBl2, hE2⟩ := hrel
        by_cases hj8 : j < 8
        · have hl8 : (keyL xs k ++ limbB x j).length + 1 ≤ 140737488355328 := by
            rw [List.length_append, keyL_len xs k (by rw [HL.out]; omega), limbB_len]
            omega
          have hs2 : W1.heap.size ≤ wr.heap.size := hE2.out.size
          have HL8 := Lib.hid hl8
          clear hl8
          go_wp2_with fail
          refine (WriteByte_at (w.heap.size + 1 + 1) (w.heap.size + 1 + 1) (keyL xs k ++ limbB x j) _ _ hBl2.out HL8.out (by omega) (byteAt_in x j)).mono ?_
          rintro e w3 ⟨rfl, hb, hbel⟩
          have HB3 : Hid (Bld (w.heap.size + 1 + 1) (w.heap.size + 1 + 1) (keyL xs k ++ limbB x (j + 1)) w3) := by
            show Bld _ _ _ _
            rw [limbB_succ, ← List.append_assoc]
            exact hb
          have HE3 := Lib.hid (hE2.out.trans hbel)
          clear hb hbel hBl2 hE2
          go_wp2_with fail
          go_roundw
          case rel => exact ⟨j + 1, by omega, by go_num, HB3, HE3⟩
          case measure => simp [intOf]; omega
        · obtain rfl : j = 8 := by omega
          have HB3 : Hid (Bld (w.heap.size + 1 + 1) (w.heap.size + 1 + 1) (keyL xs (k + 1)) wr) := by
            show Bld _ _ _ _
            rw [keyL_succ (by rw [HL.out]; exact hlt) HX.out]
            exact hBl2.out
          clear hBl2
          go_wp2_with fail
          go_roundw
          case rel => exact ⟨k + 1, by omega, by go_num, HB3, hE2⟩
          case measure => simp [intOf]; omega
    · obtain rfl : k = n := by omega
      have hEW := HE.out.trans hE.out
      have d0 := (hEW.cell (p := ⟨w.heap.size, 0, none⟩) (by show w.heap.size < _; omega)).trans HC.out.1
      have r0 := (hEW.cell (p := ⟨w.heap.size + 1, 0, none⟩) (by show w.heap.size + 1 < _; omega)).trans HR0.out.1.1
      have r1 := (hEW.cell (p := ⟨w.heap.size + 1, 1, none⟩) (by show w.heap.size + 1 < _; omega)).trans HR0.out.2.1
      have f0 := (hEW.frozen (p := ⟨w.heap.size + 1, 0, none⟩) (by show w.heap.size + 1 < _; omega)).trans HR0.out.1.2.1
      have f1 := (hEW.frozen (p := ⟨w.heap.size + 1, 1, none⟩) (by show w.heap.size + 1 < _; omega)).trans HR0.out.2.2.1
      have HEW := Lib.hid hEW
      have hs2 : W.heap.size ≤ wr.heap.size := hEW.size
      clear hEW
      go_wp2_with fail
      go_region_held3 (fun w' => w'.cell? ⟨w.heap.size, 0, none⟩ = some (.bool p) ∧ Hid (Below (w.heap.size + 1) wr w'))
        ((go_split_ands; (try refine ⟨?_, ?_⟩) <;> with_reducible first | exact Lib.hid (Below.refl _ _).drew | exact drew_cellB (by assumption) | exact btrans (by assumption) (by assumption) | exact bset2 (by assumption) | exact cset2 (by assumption) | exact bcell (by assumption) (by assumption)))
        (first
          | (go_at_call 101; go_split_ands; refine (String_at (w.heap.size + 1 + 1) (w.heap.size + 1 + 1) (keyL xs k) _ (Lib.BuilderAt.drew hBl.out) (by show _ ≤ wr.heap.size; omega)).mono ?_; rintro e v1 ⟨rfl, hb1⟩
             have r0' := (hb1.cell (p := ⟨w.heap.size + 1, 0, none⟩) (by show w.heap.size + 1 < _; omega)).trans r0
             have r1' := (hb1.cell (p := ⟨w.heap.size + 1, 1, none⟩) (by show w.heap.size + 1 < _; omega)).trans r1
             have f0' := (hb1.frozen (p := ⟨w.heap.size + 1, 0, none⟩) (by show w.heap.size + 1 < _; omega)).trans f0
             have f1' := (hb1.frozen (p := ⟨w.heap.size + 1, 1, none⟩) (by show w.heap.size + 1 < _; omega)).trans f1))
      obtain ⟨s0, s1⟩ := st2 (v0 := .bool p) (v1 := .string ⟨(keyL xs k).toArray⟩) rfl r0' r1'
      have hfin := (((HK0.out.below.trans (HEW.out.mono (by omega))).trans ((Below.refl _ wr).drew.trans (hb1.mono (by omega)))).setCell (p := ⟨w.heap.size + 1, 0, none⟩) (by show w.heap.size ≤ w.heap.size + 1; omega) (.bool p)).setCell (p := ⟨w.heap.size + 1, 1, none⟩) (by show w.heap.size ≤ w.heap.size + 1; omega) (.string ⟨(keyL xs k).toArray⟩)
      have HFIN := Lib.hid (Kept.ofBelow hfin)
      generalize hv2 : ((v1.setCell ⟨w.heap.size + 1, 0, none⟩ (.bool p)).setCell ⟨w.heap.size + 1, 1, none⟩ (.string ⟨(keyL xs k).toArray⟩)) = v2 at *
      clear hv2 hb1 r0' r1' f0' f1' hfin
      go_wp2_with fail
      refine bodyPost_ret (v := .agg #[.bool p, .string ⟨(keyL xs k).toArray⟩]) (by simp [results, Try.results71, go_sem, s0, s1]) rfl ?_
      exact ⟨rfl, HFIN.out⟩

end Go.Proofs.Ythahkicpkohfkaa
