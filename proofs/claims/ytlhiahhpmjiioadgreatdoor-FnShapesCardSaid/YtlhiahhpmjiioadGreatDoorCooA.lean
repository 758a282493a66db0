/-
  Contracts of the model's l1Digits, l8Coord and CoordText. No condition.
-/
import Derived.Deep.RegionHeld3
import Derived.Deep.DrawnRows
import Derived.Deep.DeepCutAuto
import Derived.Test.YtlhiahhpmjiioadGreatDoorCooP
import Derived.Test.YtlhiahhpmjiioadGreatDoorJ1
namespace Go.Proofs.YtlhiahhpmjiioadGreatDoor
open Go.RowKit

theorem run_byteText (w : World) (g : Nat) (d : Int) (h : w.cell? ⟨g, 0, none⟩ = some (.int .u8 d)) : (convert 22 9 (.slice (some ⟨g, 0, none⟩) 1 1)).run Tryz.prog w = .ok (.string (strOfNums [d])) w :=
  run_convert_bytes_arg w 22 5 Tryz.underlying22 Tryz.underlying5 g 0 1 1 [d] rfl (fun i hi => by
    obtain rfl : i = 0 := by omega
    simpa using h) 9 Tryz.underlying9
theorem kAD {L : List Nat} {W w : World} {o : Obj} (h : Hid (Kept L W w.drew)) : Hid (Kept L W (w.alloc o).drew) :=
  Lib.hid ⟨h.out.os, h.out.tape, h.out.output, Nat.le_trans h.out.size (by show w.heap.size ≤ (w.alloc o).heap.size; simp), fun k hk hL => (Below.heap_alloc w o k (Nat.lt_of_lt_of_le hk h.out.size)).trans (h.out.block k hk hL)⟩
theorem kA1 {L : List Nat} {W w : World} {o : Obj} (h : Hid (Kept L W w)) : Hid (Kept L W (w.alloc o)) := Lib.hid (h.out.alloc o)
theorem topD {w w1 : World} {v : Value} {T : TypeId} (hk : Kept [] (w.alloc (.cells #[v] T)).drew w1) : w1.cell? ⟨w.heap.size, 0, none⟩ = some v :=
  (((Kept.refl [] _).drew.trans0 hk).top (g := w.heap.size) rfl (by simp) 0 (v := v) rfl).1
theorem one_text {d : Int} {u : Nat} (h : d = (u : Int) % 10) : strOfNums [48 + d] = strB [dg u] := by
  subst h
  unfold strOfNums strB dg
  have e : (48 + (u : Int) % 10).toNat = 48 + u % 10 := by omega
  simp only [List.map_cons, List.map_nil, e]

set_option maxHeartbeats 1000000 in
theorem l1Digits_small (u : Nat) (w : World) (hu : u < 10) :
    Calls Tryz.prog 76 #[.int .i64 (u : Int)] w (Ans w (.string (strB (Lib.decDigits u)))) := by
  have hv : Hid (strOfNums [48 + (u : Int)] = strB (Lib.decDigits u)) := by
    show _ = _
    rw [dec_one hu]; exact one_text (by omega)
  have e3 : IntKind.i64.wrap (48 + (u : Int)) = 48 + u := IntWalk.i64_in _ (by omega)
  have e4 : IntKind.u8.wrap (48 + (u : Int)) = 48 + u := IntWalk.u8_in _ (by omega)
  have hcv := run_byteText (w.alloc (.cells #[.int .u8 (48 + (u : Int))] 5)) w.heap.size (48 + (u : Int)) (by simp)
  have hlt : (u : Int) < 10 := by omega
  go_enter Tryz.func76, Tryz.ntmps76
  go_wp2_with fail
  go_ret
  exact ⟨by rw [← hv.out]; rfl, (Kept.refl _ _).alloc _⟩

set_option maxHeartbeats 400000 in
theorem l1Digits_any : ∀ (f : Nat) (u : Nat) (w : World), u ≤ f → u ≤ 9223372036854775807 →
    Calls Tryz.prog 76 #[.int .i64 (u : Int)] w (Ans w (.string (strB (Lib.decDigits u)))) := by
  intro f
  induction f with
  | zero =>
    intro u w hf hu
    exact l1Digits_small u w (by omega)
  | succ f ih =>
    intro u w hf hu
    by_cases h10 : u < 10
    · exact l1Digits_small u w h10
    have ihh := fun (w' : World) => ih (u / 10) w' (by omega) (by omega)
    have IH := Lib.hid ihh
    clear ih ihh hf
    obtain ⟨q, hq⟩ : ∃ q : Nat, q = u / 10 := ⟨_, rfl⟩
    obtain ⟨r, hr⟩ : ∃ r : Int, r = (u : Int) % 10 := ⟨_, rfl⟩
    have hv : Hid (strB (Lib.decDigits q) ++ strOfNums [48 + r] = strB (Lib.decDigits u)) := by
      show _ = _
      rw [one_text hr, strB_append, hq, ← dec_step (by omega)]
    have e1 : (u : Int).tdiv 10 = (q : Int) := by
      rw [Int.tdiv_eq_ediv_of_nonneg (by omega)]; omega
    have e2 : (u : Int).tmod 10 = r := by
      rw [Int.tmod_eq_emod_of_nonneg (by omega)]; omega
    have hr0 : 0 ≤ r := by omega
    have hr9 : r ≤ 9 := by omega
    have e3 : IntKind.i64.wrap (48 + r) = 48 + r := IntWalk.i64_in _ (by omega)
    have e4 : IntKind.u8.wrap (48 + r) = 48 + r := IntWalk.u8_in _ (by omega)
    have e5 : (u : Int) / 10 = (q : Int) := by omega
    have e6 : (u : Int) % 10 = r := hr.symm
    have e7 : IntKind.i64.wrap (q : Int) = q := IntWalk.i64_in _ (by omega)
    have h10' : ¬ (u : Int) < 10 := by omega
    have IHq : Hid (∀ w' : World, Calls Tryz.prog 76 #[.int .i64 (q : Int)] w' (Ans w' (.string (strB (Lib.decDigits q))))) := by subst hq; exact IH.out
    have hB := run_byteText (w.alloc (.cells #[.int .u8 (48 + r)] 5)).drew w.heap.size (48 + r) (by show (w.alloc (.cells #[.int .u8 (48 + r)] 5)).cell? ⟨w.heap.size, 0, none⟩ = _; simp)
    have z1 : (strB (Lib.decDigits q)).size ≤ 19 := by rw [strB_size]; exact decD_len (k := 19) (by omega) (by omega)
    have z2 : (strOfNums [48 + r]).size ≤ 1 := by rw [one_text hr, strB_size]; simp
    obtain ⟨T1, hT1⟩ : ∃ T, strB (Lib.decDigits q) = T := ⟨_, rfl⟩
    obtain ⟨T2, hT2⟩ : ∃ T, strOfNums [48 + r] = T := ⟨_, rfl⟩
    rw [hT1] at z1 hv IHq
    have HT2 := Lib.hid hT2
    rw [hT2] at z2 hv hB
    have z3 : ¬ 9223372036854775807 < T1.size + T2.size := by omega
    clear hq hr IH h10 hT1 hT2
    go_enter Tryz.func76, Tryz.ntmps76
    go_wp2_with fail
    go_region_with (first
      | (go_at_call 76; refine (IHq.out _).mono ?_; rintro e v1 ⟨rfl, hk1⟩; first | (have hC := run_byteText v1 w.heap.size (48 + r) (topD hk1); rw [HT2.out] at hC; have KK := Lib.hid ((((Kept.refl [] w).alloc _).drew).trans0 hk1)) | (have hA := run_byteText (v1.alloc (.cells #[.int .u8 (48 + r)] 5)) v1.heap.size (48 + r) (by simp); rw [HT2.out] at hA; have KK := Lib.hid (((Kept.refl [] w).drew.trans0 hk1).alloc (.cells #[.int .u8 (48 + r)] 5)))))
    all_goals
      go_wp2_with fail
      go_ret
      exact ⟨by rw [← hv.out]; rfl, Hid.out (by assumption)⟩

end Go.Proofs.YtlhiahhpmjiioadGreatDoor
