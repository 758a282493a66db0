/-
  Contracts of nameOf, parenthesesOf and PrintShape. Condition: the slice reads as a list of numbers, two a point; the library's table of powers of ten lies as its text lays it.
-/
import Derived.Deep.RegionHeld3
import Derived.Deep.DrawnRows
import Derived.Deep.DeepCutAuto
import Derived.Test.YtlhiahhpmjiioabDoorPrtP
import Derived.Test.YtlhiahhpmjiioabDoorCooC
namespace Go.Proofs.YtlhiahhpmjiioabDoor
open Go.RowKit

set_option maxHeartbeats 1000000 in
theorem nameOf_any (k : Int) (w : World) (hk : inK k = true) : Calls Tryd.prog 17 #[.int .i64 k] w (Ans w (.string (strB (nameT k)))) := by
  have hk' : 1 ≤ k ∧ k ≤ 4 := of_decide_eq_true hk
  rcases (by omega : k = 1 ∨ k = 2 ∨ k = 3 ∨ k = 4) with rfl | rfl | rfl | rfl
  all_goals
    go_enter Tryd.func17, Tryd.ntmps17
    go_wp2
    go_ret
    exact ⟨rfl, Kept.refl _ _⟩
set_option maxHeartbeats 1000000 in
theorem parenthesesOf_any (k : Int) (w : World) : Calls Tryd.prog 16 #[.int .i64 k] w (Ans w (.int .i64 (aroundN k : Int))) := by
  by_cases h4 : k = 4
  · subst h4
    go_enter Tryd.func16, Tryd.ntmps16
    go_wp2
    go_ret
    exact ⟨rfl, Kept.refl _ _⟩
  · have hv : Hid (aroundN k = 1) := by unfold aroundN; exact if_neg h4
    go_enter Tryd.func16, Tryd.ntmps16
    go_wp2
    go_ret
    exact ⟨by rw [hv.out]; rfl, Kept.refl _ _⟩
theorem repeat_same (c : UInt8) (k : Nat) : Lib.repeatL [c] k = List.replicate k c := by
  induction k with
  | zero => rfl
  | succ k ih => simp only [Lib.repeatL, ih, List.replicate_succ]; rfl
theorem Repeat_same (c : UInt8) (k : Nat) (w : World) (hk : k ≤ 1000) :
    Calls Tryd.prog 18 #[.string ⟨#[c]⟩, .int .i64 (k : Int)] w (Ans w (.string (strB (List.replicate k c)))) := by
  refine (Tryd.strings_Repeat ⟨#[c]⟩ k w (by omega) (by show 1 * k ≤ _; omega)).mono ?_
  rintro e w' ⟨rfl, hw⟩
  have : Lib.repeatL (⟨#[c]⟩ : ByteArray).data.toList k = List.replicate k c := repeat_same c k
  rw [this]
  exact ⟨rfl, Kept.ofBelow hw⟩
theorem Join_commas (v : Value) (B : Nat) (ts : List (List UInt8)) (w : World) (h : OwS B w v ts) (hn : 0 < ts.length) (hl : (joinC ts).length ≤ 1000000) (hm : ts.length ≤ 1000) :
    Calls Tryd.prog 19 #[v, .string ⟨#[44]⟩] w (Ans w (.string (strB (joinC ts)))) := by
  obtain ⟨g, c, rfl, hc1, hc2, hB, hg, hcell⟩ := h.form hn
  have hmap : (ts.map strB).map (·.data.toList) = ts := by rw [List.map_map]; exact List.map_id'' (fun _ => rfl) ts
  have hlen : (ts.map strB).length = ts.length := by simp
  have hj := Tryd.strings_Join g 0 c (ts.map strB) ⟨#[44]⟩ w (fun j x hx => by
    rw [List.getElem?_map] at hx
    obtain ⟨t, ht, rfl⟩ := Option.map_eq_some_iff.1 hx
    have hlt := (List.getElem?_eq_some_iff.1 ht).1
    have := hcell j hlt
    rw [Nat.zero_add, this]
    simp [List.getD_eq_getElem?_getD, ht, strV]) hg (by omega) (by omega) (by rw [hmap]; have : Lib.join ts (⟨#[44]⟩ : ByteArray).data.toList = joinC ts := rfl; rw [this]; omega)
  rw [hlen, hmap] at hj
  refine hj.mono ?_
  rintro e w' ⟨rfl, hw⟩
  exact ⟨rfl, Kept.ofBelow hw⟩

end Go.Proofs.YtlhiahhpmjiioabDoor
