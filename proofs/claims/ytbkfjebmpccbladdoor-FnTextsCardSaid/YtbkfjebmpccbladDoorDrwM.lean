/-
  The draws of FnTexts: contracts of DrawMetreText, DrawReadMetres, DrawWordsOf. Condition: the bytes are at most 1048576.
-/
import Derived.Deep.RegionHeld3
import Derived.Deep.DrawnRows
import Derived.Deep.DeepCutAuto
import Derived.Test.YtbkfjebmpccbladDoorSrcB
import Derived.Test.YtbkfjebmpccbladDoorStrS
namespace Go.Proofs.YtbkfjebmpccbladDoor
open Go.RowKit

def strLn : Value → Nat
  | .string s => s.size
  | _ => 0

set_option maxHeartbeats 1000000 in
theorem DrawMetreText_any (a : Option Addr) (n c : Nat) (bs : List Int) (w : World) (h : Rd8 w a n bs) :
    Calls Tryd.prog 5 #[.slice a n c] w (fun e w' => ∃ x, e = .returned (.int .i64 x) ∧ -9000000000000001 ≤ x ∧ x ≤ 9000000000000001 ∧ Kept [] w w') := by
  have HR := Lib.hid h
  clear h
  go_enter Tryd.func5, Tryd.ntmps5
  go_wp2_with fail
  refine (l1Source_any _ _ _ _ _ HR.out).mono ?_
  rintro e w1 ⟨g, rfl, hg, hS, hK⟩
  have S1 := Lib.hid hS
  have K1 := Lib.hid hK
  have hgl := hS.lt
  clear hS hK
  go_wp2_with fail
  have hR := (Sl.ofBlk (Blk.new w1 [0, 1, -1, 999999, 1000000, -1500000, 9000000000000000, 9000000000000001, -9000000000000001]) (by simp)).rd
  refine (l1Pick_any g a n c bs 0 _ 9 _ [0, 1, -1, 999999, 1000000, -1500000, 9000000000000000, 9000000000000001, -9000000000000001] _ (S1.out.kept0 ((Kept.refl [] w1).alloc _)) (by omega) hR (fun _ y hy => by cases hy; have := S1.out.lt; simp; omega) (by omega)).mono ?_
  rintro e w3 ⟨j, hj, rfl, hS3, k3⟩
  have hy : -9000000000000001 ≤ ([0, 1, -1, 999999, 1000000, -1500000, 9000000000000000, 9000000000000001, -9000000000000001] : List Int).getD j 0 ∧ ([0, 1, -1, 999999, 1000000, -1500000, 9000000000000000, 9000000000000001, -9000000000000001] : List Int).getD j 0 ≤ 9000000000000001 := by
    match j, hj with
    | 0, _ => simp
    | 1, _ => simp
    | 2, _ => simp
    | 3, _ => simp
    | 4, _ => simp
    | 5, _ => simp
    | 6, _ => simp
    | 7, _ => simp
    | 8, _ => simp
    | n + 9, h => exact absurd h (by simp)
  generalize ([0, 1, -1, 999999, 1000000, -1500000, 9000000000000000, 9000000000000001, -9000000000000001] : List Int).getD j 0 = y at hy
  clear hR
  go_wp2_with fail
  go_ret
  have hs := K1.out.size
  exact ⟨y, rfl, hy.1, hy.2, (K1.out.alloc (.cells #[.int .i64 0, .int .i64 1, .int .i64 (-1), .int .i64 999999, .int .i64 1000000, .int .i64 (-1500000), .int .i64 9000000000000000, .int .i64 9000000000000001, .int .i64 (-9000000000000001)] 2)).trans k3 (fun x hx hlt => by simp at hx; omega)⟩

/-- The texts of metres that are drawn. -/
def drawnM : List (List UInt8) := [[48], [49, 46, 53], [49, 48, 48, 48, 48, 48, 48, 48, 48, 48], [57, 57, 57, 57, 57, 57, 57, 57, 57, 57, 46, 57, 57, 57, 57, 57, 57], [49, 48, 48, 48, 48, 48, 48, 48, 48, 48, 48], [49, 46, 48, 48, 48, 48, 48, 48, 49], [45, 49], [], [46], [49, 46], [48, 48, 55, 46, 50, 53, 48], [120]]
theorem drawnM_len : ∀ x ∈ drawnM, x.length ≤ 17 := by decide
theorem drawnM_row (w : World) {W : World} (hW : W = w.alloc (.cells (drawnM.map strV).toArray 9)) (i : Nat) (hi : i < 12) : W.cell? ⟨w.heap.size, i, none⟩ = some (strV (drawnM.getD i [])) := by
  subst hW
  rw [World.cell?_alloc_new]
  have h19 : drawnM.length = 12 := rfl
  simp [List.getD_eq_getElem?_getD, h19, hi]

set_option maxHeartbeats 1000000 in
set_option maxRecDepth 20000 in
theorem DrawReadMetres_any (a : Option Addr) (n c : Nat) (bs : List Int) (w : World) (h : Rd8 w a n bs) :
    Calls Tryd.prog 7 #[.slice a n c] w (fun e w' => ∃ l, e = .returned (.string (strB l)) ∧ l.length ≤ 20 ∧ Kept [] w w') := by
  have HR := Lib.hid h
  clear h
  go_enter Tryd.func7, Tryd.ntmps7
  go_wp2_with fail
  obtain ⟨W, hW⟩ : ∃ W, W = w.alloc (.cells (drawnM.map strV).toArray 9) := ⟨_, rfl⟩
  have hrow := Lib.hid (drawnM_row w hW)
  have kW : Kept [] w W := by rw [hW]; exact (Kept.refl _ _).alloc _
  have hWw : w.heap.size < W.heap.size := by rw [hW]; simp
  have hl : Calls Tryd.prog 15 #[.slice a n c] (w.alloc (.cells (drawnM.map strV).toArray 9)) (fun e w' => ∃ g, e = .returned (.pointer (some ⟨g, 0, none⟩)) ∧ W.heap.size ≤ g ∧ Src w' g a n c bs 0 ∧ Kept [] W w') := by
    rw [← hW]
    exact l1Source_any _ _ _ _ _ (HR.out.kept kW (by simp))
  refine hl.mono ?_
  rintro e w1 ⟨g, rfl, hg, hS, hK⟩
  have S1 := Lib.hid hS
  have K1 := Lib.hid hK
  have HW := Lib.hid kW
  clear hl hS hK hW kW
  go_wp2_with fail
  refine (l1Next_any g a n c bs 0 12 _ S1.out (by omega) (by omega)).mono ?_
  rintro e w3 ⟨r, rfl, r0, r1, hS3, k3⟩
  obtain ⟨k, rfl⟩ := Int.eq_ofNat_of_zero_le r0
  have hk : k < 12 := by omega
  have hc := k3.cell (K1.out.cell (hrow.out k hk) (by simp)) (by simp; omega)
  unfold strV at hc
  have hm := drawnM_len (drawnM.getD k []) (by
    have h19 : drawnM.length = 12 := rfl
    rw [List.getD_eq_getElem?_getD, List.getElem?_eq_getElem (by omega)]; simp)
  obtain ⟨l, hl2⟩ : ∃ l, drawnM.getD k [] = l := ⟨_, rfl⟩
  rw [hl2] at hc hm
  have K3 := Lib.hid ((HW.out.trans0 K1.out).trans k3 (fun x hx hlt => by simp at hx; omega))
  clear hS3 k3 hl2
  go_wp2_with fail
  go_ret
  exact ⟨l, rfl, by omega, K3.out⟩

/-- The lines that are drawn. -/
def drawnL : List (List UInt8) := [[112, 117, 116, 32, 97, 32, 80, 79, 73, 78, 84, 40, 48, 32, 48, 41], [112, 117, 116, 32, 98, 32, 80, 79, 73, 78, 84, 40, 49, 32, 50, 41], [112, 117, 116, 32, 99, 32, 77, 85, 76, 84, 73, 80, 79, 73, 78, 84, 40, 49, 48, 32, 50, 48, 44, 32, 51, 48, 32, 52, 48, 41], [112, 117, 116, 32, 97, 98, 32, 76, 73, 78, 69, 83, 84, 82, 73, 78, 71, 40, 48, 32, 48, 44, 48, 32, 49, 41], [112, 117, 116, 32, 122, 57, 32, 80, 79, 76, 89, 71, 79, 78, 40, 40, 48, 32, 48, 44, 49, 32, 48, 44, 49, 32, 49, 44, 48, 32, 48, 41, 41], [100, 101, 108, 32, 97], [103, 101, 116, 32, 97], [103, 101, 116, 32, 122, 57], [100, 105, 115, 116, 32, 97, 32, 98], [100, 105, 115, 116, 32, 97, 32, 99], [108, 101, 110, 32, 97, 98], [97, 114, 101, 97, 32, 122, 57], [100, 119, 105, 116, 104, 105, 110, 32, 97, 32, 98, 32, 49, 48, 48, 48], [100, 119, 105, 116, 104, 105, 110, 32, 97, 32, 98, 32, 50, 52, 56, 48, 48, 48, 46, 53], [119, 105, 116, 104, 105, 110, 32, 97, 32, 51, 48, 48, 48, 48, 48], [110, 97, 109, 101, 115], [], [32, 32], [102, 111, 111], [112, 117, 116, 32, 97], [112, 117, 116, 32, 65, 32, 80, 79, 73, 78, 84, 40, 48, 32, 48, 41], [112, 117, 116, 32, 97, 32, 80, 79, 73, 78, 84, 40, 48, 32, 57, 49, 41], [100, 105, 115, 116, 32, 97], [100, 105, 115, 116, 32, 97, 32, 97, 98], [108, 101, 110, 32, 97], [97, 114, 101, 97, 32, 97, 98], [100, 119, 105, 116, 104, 105, 110, 32, 97, 32, 98, 32, 120], [119, 105, 116, 104, 105, 110, 32, 97, 98, 32, 53], [103, 101, 116, 32, 122, 122], [110, 97, 109, 101, 115, 32, 97]]
theorem drawnL_len : ∀ x ∈ drawnL, x.length ≤ 33 := by decide
theorem drawnL_row (w : World) {W : World} (hW : W = w.alloc (.cells (drawnL.map strV).toArray 9)) (i : Nat) (hi : i < 30) : W.cell? ⟨w.heap.size, i, none⟩ = some (strV (drawnL.getD i [])) := by
  subst hW
  rw [World.cell?_alloc_new]
  have h19 : drawnL.length = 30 := rfl
  simp [List.getD_eq_getElem?_getD, h19, hi]
/-- What a draw of a line answers. -/
def LineR (w : World) (g : Nat) (a : Option Addr) (n c : Nat) (bs : List Int) (at_ : Int) (e : Ending) (w' : World) : Prop :=
  ∃ l, e = .returned (.string (strB l)) ∧ l.length ≤ 33 ∧ Src w' g a n c bs (at_ + 1) ∧ Kept [g] w w'

set_option maxHeartbeats 1000000 in
set_option maxRecDepth 20000 in
theorem l11Line_any (g : Nat) (a : Option Addr) (n c : Nat) (bs : List Int) (at_ : Int) (w : World) (h : Src w g a n c bs at_) (ha : at_ ≤ 900000) :
    Calls Tryd.prog 21 #[.pointer (some ⟨g, 0, none⟩)] w (LineR w g a n c bs at_) := by
  have HS := Lib.hid h
  have hgl := h.lt
  clear h
  go_enter Tryd.func21, Tryd.ntmps21
  go_wp2_with fail
  obtain ⟨W, hW⟩ : ∃ W, W = w.alloc (.cells (drawnL.map strV).toArray 9) := ⟨_, rfl⟩
  have hrow := Lib.hid (drawnL_row w hW)
  have kW : Kept [] w W := by rw [hW]; exact (Kept.refl _ _).alloc _
  have hWw : w.heap.size < W.heap.size := by rw [hW]; simp
  have hl : Calls Tryd.prog 18 #[.pointer (some ⟨g, 0, none⟩), .int .i64 30] (w.alloc (.cells (drawnL.map strV).toArray 9)) (NextR W g a n c bs at_ 30) := by
    rw [← hW]; exact l1Next_any g a n c bs at_ 30 W (HS.out.kept0 kW) (by omega) (by omega)
  refine hl.mono ?_
  rintro e w3 ⟨r, rfl, r0, r1, hS3, k3⟩
  obtain ⟨k, rfl⟩ := Int.eq_ofNat_of_zero_le r0
  have hk : k < 30 := by omega
  have hc := k3.cell (hrow.out k hk) (by simp; omega)
  unfold strV at hc
  have hm := drawnL_len (drawnL.getD k []) (by
    have h19 : drawnL.length = 30 := rfl
    rw [List.getD_eq_getElem?_getD, List.getElem?_eq_getElem (by omega)]; simp)
  obtain ⟨l, hl2⟩ : ∃ l, drawnL.getD k [] = l := ⟨_, rfl⟩
  rw [hl2] at hc hm
  have S3 := Lib.hid hS3
  have K3 := Lib.hid ((kW.mono (by simp)).trans k3 (fun _ hx _ => hx))
  clear hl hS3 k3 hl2 kW hW
  go_wp2_with fail
  go_ret
  exact ⟨l, rfl, hm, S3.out, K3.out⟩

set_option maxHeartbeats 1000000 in
set_option maxRecDepth 20000 in
theorem DrawWordsOf_any (a : Option Addr) (n c : Nat) (bs : List Int) (w : World) (h : Rd8 w a n bs) :
    Calls Tryd.prog 9 #[.slice a n c] w (fun e w' => ∃ l, e = .returned (.string (strB l)) ∧ l.length ≤ 4000 ∧ Kept [] w w') := by
  have HR := Lib.hid h
  clear h
  go_enter Tryd.func9, Tryd.ntmps9
  go_wp2_with fail
  refine (l1Source_any _ _ _ _ _ HR.out).mono ?_
  rintro e w1 ⟨g, rfl, hg, hS, hK⟩
  have S1 := Lib.hid hS
  have K1 := Lib.hid hK
  have hgl := hS.lt
  clear hS hK
  go_wp2_with fail
  refine (l11Line_any g a n c bs 0 _ S1.out (by omega)).mono ?_
  rintro e w2 ⟨l, rfl, hl, hS2, k2⟩
  have S2 := Lib.hid hS2
  have K2 := Lib.hid (K1.out.trans k2 (fun x hx hlt => by simp at hx; omega))
  have hsz : (strB l).size ≤ 33 := by rw [strB_size]; exact hl
  have e0 : Hid (⟨#[32]⟩ ++ strB l = strB (32 :: l)) := by show strB [32] ++ strB l = _; rw [strB_append]; rfl
  obtain ⟨T, hT⟩ : ∃ T, strB l = T := ⟨_, rfl⟩
  rw [hT] at hsz e0 ⊢
  have hl1 : Hid ((32 :: l).length ≤ 3001) := by show _ ≤ _; simp; omega
  clear hS2 k2 hT
  go_wp2_with fail
  refine (l1Chance_any g a n c bs (0 + 1) 25 _ S2.out (by omega) (by omega)).mono ?_
  rintro e w3 ⟨b, rfl, hS3, k3⟩
  have S3 := Lib.hid hS3
  have K3 := Lib.hid (K2.out.trans k3 (fun x hx hlt => by simp at hx; omega))
  clear hS3 k3
  cases b
  · go_wp2_with fail
    go_ret
    exact ⟨32 :: l, by rw [← e0.out]; rfl, by have := hl1.out; omega, K3.out⟩
  · rw [e0.out]
    go_wp2_with fail
    go_loopw [4] (fun t wr => ∃ (m : List UInt8) (at2 : Nat), t = .string (strB m) ∧ Hid (m.length ≤ 3001) ∧ Hid (at2 ≤ 2 + m.length) ∧ Hid (Src wr g a n c bs (at2 : Int)) ∧ Hid (Kept [] w wr)) (fun t _ => 3001 - strLn t)
    case atStart => exact ⟨32 :: l, 2, rfl, hl1, by show _ ≤ _; omega, S3.out, K3.out⟩
    case round =>
      obtain ⟨m, at2, rfl, hm, hat, hS, hK⟩ := hrel
      have hm0 := hm.out
      have hat0 := hat.out
      have hR := (Sl.ofBlk (Blk.new wr [3000, 3001]) (by simp)).rd
      have hpk := Lib.hid (l1Pick_any g a n c bs (at2 : Int) _ 2 2 [3000, 3001] _ (hS.out.kept0 ((Kept.refl [] wr).alloc (.cells #[.int .i64 3000, .int .i64 3001] 2))) (by omega) hR (fun _ y hy => by cases hy; have := hS.out.lt; simp; omega) (by omega))
      have hsz : (strB m).size = m.length := strB_size m
      have e1 : Hid (strB m ++ ⟨#[32]⟩ = strB (m ++ [32])) := by show strB m ++ strB [32] = _; rw [strB_append]
      obtain ⟨S, hSS⟩ : ∃ S, strB m = S := ⟨_, rfl⟩
      rw [hSS] at hsz e1 ⊢
      have HSS := Lib.hid hSS
      clear hR hSS
      go_wp2_with fail
      refine hpk.out.mono ?_
      rintro e w4 ⟨j, hj, rfl, hS4, k4⟩
      have hz : ([3000, 3001] : List Int).getD j 0 = 3000 ∨ ([3000, 3001] : List Int).getD j 0 = 3001 := by
        match j, hj with
        | 0, _ => exact .inl rfl
        | 1, _ => exact .inr rfl
        | n + 2, h => exact absurd h (by simp)
      generalize ([3000, 3001] : List Int).getD j 0 = z at hz
      have S4 := Lib.hid hS4
      have hgw : Hid (w.heap.size ≤ g) := by show _ ≤ _; omega
      have K4 := Lib.hid ((hK.out.alloc (.cells #[.int .i64 3000, .int .i64 3001] 2)).trans k4 (fun x hx hlt => by simp at hx; have := hgw.out; omega))
      clear hS4 k4 hK hS hpk
      by_cases hlt : (S.size : Int) < z
      · have hm2 : Hid ((m ++ [32]).length ≤ 3001) := by show _ ≤ _; simp; omega
        have hat2 : Hid (at2 + 1 ≤ 2 + (m ++ [32]).length) := by show _ ≤ _; simp; omega
        have hme : Hid (3001 - (m ++ [32]).length < 3001 - m.length) := by show _ < _; simp; omega
        have hz3 : ¬ 9223372036854775807 < S.size + 1 := by omega
        go_wp2_with fail
        go_roundw
        case rel => exact ⟨m ++ [32], at2 + 1, by rw [← e1.out], hm2, hat2, Lib.hid (by have := S4.out; rwa [show ((at2 + 1 : Nat) : Int) = (at2 : Int) + 1 by omega]), K4⟩
        case measure => rw [← HSS.out]; show 3001 - strLn (.string (strB m ++ strB [32])) < 3001 - strLn (.string (strB m)); rw [strB_append]; show 3001 - (strB (m ++ [32])).size < 3001 - (strB m).size; rw [strB_size, strB_size]; exact hme.out
      · go_wp2_with fail
        go_ret
        exact ⟨m, by rw [HSS.out]; rfl, by omega, K4.out⟩

end Go.Proofs.YtbkfjebmpccbladDoor
