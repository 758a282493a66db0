/-
  The draws of FnCoords: contracts of DrawCoordText, DrawReadCoord. Condition: the bytes are at most 1048576.
-/
import Derived.Test.YtbkfjebmpccblagDoorDrwP
import Derived.Test.YtbkfjebmpccblagDoorCooB
import Derived.Test.YtbkfjebmpccblagDoorCooQ
import Derived.Test.YtbkfjebmpccblagDoorStrS
namespace Go.Proofs.YtbkfjebmpccblagDoor
open Go.RowKit

theorem field_pt0 (v0 v1 : Value) (w : World) : Sem.run Tryd.prog (Instr.field 42 (.agg #[v0, v1]) 0) w = .ok v0 w := by kernel_rfl
theorem field_pt1 (v0 v1 : Value) (w : World) : Sem.run Tryd.prog (Instr.field 42 (.agg #[v0, v1]) 1) w = .ok v1 w := by kernel_rfl
attribute [local go_sem ↓] field_pt0 field_pt1

set_option maxHeartbeats 1000000 in
theorem DrawCoordText_any (a : Option Addr) (n c : Nat) (bs : List Int) (w : World) (h : Rd8 w a n bs) :
    Calls Tryd.prog 5 #[.slice a n c] w (fun e w' => ∃ x, e = .returned (.int .i64 x) ∧ -1000000000000000 ≤ x ∧ x ≤ 1000000000000000 ∧ Kept [] w w') := by
  have HR := Lib.hid h
  clear h
  go_enter Tryd.func5, Tryd.ntmps5
  go_wp2_with fail
  refine (l1Source_any _ _ _ _ _ HR.out).mono ?_
  rintro e w1 ⟨g, rfl, hg, hS, hK⟩
  have S1 := Lib.hid hS
  have K1 := Lib.hid hK
  have hgl := hS.lt
  clear hS hK
  go_wp2_with fail
  refine (l1Next_any g a n c bs 0 1000 _ S1.out (by omega) (by omega)).mono ?_
  rintro e w2 ⟨q, rfl, q0, q1, hS2, k2⟩
  have S2 := Lib.hid hS2
  have K2 := Lib.hid k2
  clear hS2 k2
  have e1 : IntKind.i64.wrap (q * 12345000) = q * 12345000 := IntWalk.i64_in _ (by omega)
  go_wp2_with fail
  have hR := (Sl.ofBlk (Blk.new w2 [0, 1, -1, 1500000000, -180000000000, 10, 999999999999999, 1000000000000000, -1000000000000000, q * 12345000]) (by simp)).rd
  refine (l1Pick_any g a n c bs (0 + 1) _ 10 _ [0, 1, -1, 1500000000, -180000000000, 10, 999999999999999, 1000000000000000, -1000000000000000, q * 12345000] _ (S2.out.kept0 ((Kept.refl [] w2).alloc _)) (by omega) hR (fun _ y hy => by cases hy; have := S2.out.lt; simp; omega) (by omega)).mono ?_
  rintro e w3 ⟨j, hj, rfl, hS3, k3⟩
  have hy : -1000000000000000 ≤ ([0, 1, -1, 1500000000, -180000000000, 10, 999999999999999, 1000000000000000, -1000000000000000, q * 12345000] : List Int).getD j 0 ∧ ([0, 1, -1, 1500000000, -180000000000, 10, 999999999999999, 1000000000000000, -1000000000000000, q * 12345000] : List Int).getD j 0 ≤ 1000000000000000 := by
    match j, hj with
    | 0, _ => simp
    | 1, _ => simp
    | 2, _ => simp
    | 3, _ => simp
    | 4, _ => simp
    | 5, _ => simp
    | 6, _ => simp
    | 7, _ => simp
    | 8, _ => simp
    | 9, _ => show (-1000000000000000 : Int) ≤ q * 12345000 ∧ q * 12345000 ≤ (1000000000000000 : Int); omega
    | n + 10, h => exact absurd h (by simp)
  generalize ([0, 1, -1, 1500000000, -180000000000, 10, 999999999999999, 1000000000000000, -1000000000000000, q * 12345000] : List Int).getD j 0 = y at hy
  clear hR
  go_wp2_with fail
  go_ret
  have hs := K1.out.size
  exact ⟨y, rfl, hy.1, hy.2, K1.out.trans ((K2.out.alloc (.cells #[.int .i64 0, .int .i64 1, .int .i64 (-1), .int .i64 1500000000, .int .i64 (-180000000000), .int .i64 10, .int .i64 999999999999999, .int .i64 1000000000000000, .int .i64 (-1000000000000000), .int .i64 (q * 12345000)] 2)).trans k3 (fun _ hx _ => hx)) (fun x hx hlt => by simp at hx; omega)⟩

/-- The texts that are drawn. -/
def drawnT : List (List UInt8) := [[48], [45, 48], [49, 46, 53], [45, 49, 46, 53, 48], [48, 48, 55], [46, 53], [49, 46], [], [45], [49, 46, 48, 48, 48, 48, 48, 48, 48, 48, 48, 49], [49, 46, 48, 48, 48, 48, 48, 48, 48, 48, 49], [57, 57, 57, 57, 57, 57], [49, 48, 48, 48, 48, 48, 48], [49, 101, 53], [43, 49], [49, 46, 50, 46, 51], [45, 45, 49], [48, 46, 48, 48, 48, 48, 48, 48, 48, 48, 48], [32, 49]]
theorem drawnT_len : ∀ x ∈ drawnT, x.length ≤ 12 := by decide

theorem drawnT_row (w : World) {W : World} (hW : W = w.alloc (.cells (drawnT.map strV).toArray 9)) (i : Nat) (hi : i < 19) : W.cell? ⟨w.heap.size, i, none⟩ = some (strV (drawnT.getD i [])) := by
  subst hW
  rw [World.cell?_alloc_new]
  have h19 : drawnT.length = 19 := rfl
  simp [List.getD_eq_getElem?_getD, h19, hi]

set_option maxHeartbeats 1000000 in
set_option maxRecDepth 20000 in
theorem DrawReadCoord_any (a : Option Addr) (n c : Nat) (bs : List Int) (w : World) (h : Rd8 w a n bs) :
    Calls Tryd.prog 7 #[.slice a n c] w (fun e w' => ∃ l, e = .returned (.string (strB l)) ∧ l.length ≤ 20 ∧ Kept [] w w') := by
  have HR := Lib.hid h
  clear h
  go_enter Tryd.func7, Tryd.ntmps7
  go_wp2_with fail
  refine (l1Source_any _ _ _ _ _ HR.out).mono ?_
  rintro e w1 ⟨g, rfl, hg, hS, hK⟩
  have S1 := Lib.hid hS
  have K1 := Lib.hid hK
  have hgl := hS.lt
  clear hS hK
  go_wp2_with fail
  refine (l1Chance_any g a n c bs 0 3 _ S1.out (by omega) (by omega)).mono ?_
  rintro e w2 ⟨b, rfl, hS2, k2⟩
  have S2 := Lib.hid hS2
  have K2 := Lib.hid (K1.out.trans k2 (fun x hx hlt => by simp at hx; omega))
  clear hS2 k2
  cases b
  · go_wp2_with fail
    obtain ⟨W, hW⟩ : ∃ W, W = w2.alloc (.cells (drawnT.map strV).toArray 9) := ⟨_, rfl⟩
    have hrow := Lib.hid (drawnT_row w2 hW)
    have kW : Kept [] w2 W := by rw [hW]; exact (Kept.refl _ _).alloc _
    have hlt : g < w2.heap.size := S2.out.lt
    have hl : Calls Tryd.prog 13 #[.pointer (some ⟨g, 0, none⟩), .int .i64 19] (w2.alloc (.cells (drawnT.map strV).toArray 9)) (NextR W g a n c bs (0 + 1) 19) := by
      rw [← hW]; exact l1Next_any g a n c bs (0 + 1) 19 W (S2.out.kept0 kW) (by omega) (by omega)
    refine hl.mono ?_
    rintro e w3 ⟨r, rfl, r0, r1, hS3, k3⟩
    obtain ⟨k, rfl⟩ := Int.eq_ofNat_of_zero_le r0
    have hk : k < 19 := by omega
    have hc := k3.cell (hrow.out k hk) (by simp; omega)
    unfold strV at hc
    have hm := drawnT_len (drawnT.getD k []) (by
      have h19 : drawnT.length = 19 := rfl
      rw [List.getD_eq_getElem?_getD, List.getElem?_eq_getElem (by omega)]; simp)
    obtain ⟨l, hl2⟩ : ∃ l, drawnT.getD k [] = l := ⟨_, rfl⟩
    rw [hl2] at hc hm
    have K3 := Lib.hid ((K2.out.trans0 kW).trans k3 (fun x hx hlt => by simp at hx; omega))
    clear hl hS3 k3 hl2 kW hW
    go_wp2_with fail
    go_ret
    exact ⟨l, rfl, by omega, K3.out⟩
  · go_wp2_with fail
    refine (l5Draw_any g a n c bs (0 + 1) _ S2.out (by omega)).mono ?_
    rintro e w3 ⟨x, y, at2, rfl, hx, hy, hS3, hat, k3⟩
    have K3 := Lib.hid (K2.out.trans k3 (fun x hx hlt => by simp at hx; omega))
    unfold InD at hx
    have HL := Lib.hid (coordT_len x (by omega) (by omega))
    clear hS3 k3 hy
    go_wp2_with fail
    refine (l8Coord_any x _ (by omega) (by omega)).mono ?_
    rintro e w4 ⟨rfl, k4⟩
    have K4 := Lib.hid (K3.out.trans0 k4)
    clear k4
    go_wp2_with fail
    go_ret
    exact ⟨_, rfl, by have := HL.out; omega, K4.out⟩

end Go.Proofs.YtbkfjebmpccblagDoor
