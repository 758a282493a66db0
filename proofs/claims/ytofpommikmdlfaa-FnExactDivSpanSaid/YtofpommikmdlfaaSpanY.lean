/-
  Contracts of the least and the greatest of four bigs, the model's and the program's. Conditions: the bigs have 40 limbs at most.
-/
import Derived.Deep.RegionHeld3
import Derived.Deep.DrawnRows
import Derived.Deep.DeepCutAuto
import Derived.Test.YtofpommikmdlfaaSpanM
import Derived.Test.YtofpommikmdlfaaSpanW
namespace Go.Proofs.Ytofpommikmdlfaa
open Go.RowKit

theorem pick4_lt {e f g h : BE} : (pickF ltZ e [f, g, h]).z = minZ (minZ (minZ e.z f.z) g.z) h.z := by
  have s : ∀ a b : BE, (if ltZ b.z a.z = true then b else a).z = minZ a.z b.z := fun a b => by
    unfold ltZ minZ
    by_cases h : b.z < a.z
    · rw [if_pos (decide_eq_true h), if_pos h]
    · rw [if_neg (by simpa using h), if_neg h]
  simp only [pickF]
  rw [s, s, s]
theorem pick4_gt {e f g h : BE} : (pickF gtZ e [f, g, h]).z = maxZ (maxZ (maxZ e.z f.z) g.z) h.z := by
  have s : ∀ a b : BE, (if gtZ b.z a.z = true then b else a).z = maxZ a.z b.z := fun a b => by
    unfold gtZ maxZ
    by_cases h : a.z < b.z
    · rw [if_pos (decide_eq_true h), if_pos h]
    · rw [if_neg (by simpa using h), if_neg h]
  simp only [pickF]
  rw [s, s, s]
/-- A big as a value, told by its number. -/
def bz (z : Int) (a : Option Addr) (c : Nat) : BE := ⟨isNeg z, a, (mag z).length, c, mag z⟩
theorem bz_z (z : Int) (a : Option Addr) (c : Nat) : (bz z a c).z = z := sv_mag z
/-- Block g holds four bigs, told by their numbers. -/
theorem rowB4_at {U W : World} {g : Nat} {z1 z2 z3 z4 : Int} {a1 a2 a3 a4 : Option Addr} {c1 c2 c3 c4 : Nat} {T : TypeId}
    (hW : W = U.alloc (.cells #[.bool (isNeg z1), .slice a1 (mag z1).length c1, .bool (isNeg z2), .slice a2 (mag z2).length c2, .bool (isNeg z3), .slice a3 (mag z3).length c3, .bool (isNeg z4), .slice a4 (mag z4).length c4] T)) (hg : g = U.heap.size) :
    RowB W g [bz z1 a1 c1, bz z2 a2 c2, bz z3 a3 c3, bz z4 a4 c4] := by
  subst hW hg
  intro j hj
  match j, hj with
  | 0, _ => exact ⟨by rw [World.cell?_alloc_new]; rfl, by rw [World.cell?_alloc_new]; rfl⟩
  | 1, _ => exact ⟨by rw [World.cell?_alloc_new]; rfl, by rw [World.cell?_alloc_new]; rfl⟩
  | 2, _ => exact ⟨by rw [World.cell?_alloc_new]; rfl, by rw [World.cell?_alloc_new]; rfl⟩
  | 3, _ => exact ⟨by rw [World.cell?_alloc_new]; rfl, by rw [World.cell?_alloc_new]; rfl⟩
theorem okB4 {w : World} {z1 z2 z3 z4 : Int} {a1 a2 a3 a4 : Option Addr} {c1 c2 c3 c4 : Nat} (h1 : Sl w a1 (mag z1).length c1 (mag z1)) (h2 : Sl w a2 (mag z2).length c2 (mag z2)) (h3 : Sl w a3 (mag z3).length c3 (mag z3)) (h4 : Sl w a4 (mag z4).length c4 (mag z4))
    (o1 : (mag z1).length ≤ 40) (o2 : (mag z2).length ≤ 40) (o3 : (mag z3).length ≤ 40) (o4 : (mag z4).length ≤ 40) : OkB w [bz z1 a1 c1, bz z2 a2 c2, bz z3 a3 c3, bz z4 a4 c4] := fun u hu => by
  rcases List.mem_cons.1 hu with rfl | hu
  · exact ⟨h1, bigOk_of o1⟩
  · rcases List.mem_cons.1 hu with rfl | hu
    · exact ⟨h2, bigOk_of o2⟩
    · rcases List.mem_cons.1 hu with rfl | hu
      · exact ⟨h3, bigOk_of o3⟩
      · rcases List.mem_cons.1 hu with rfl | hu
        · exact ⟨h4, bigOk_of o4⟩
        · cases hu
def min4 (a b c d : Int) : Int := minZ (minZ (minZ a b) c) d
def max4 (a b c d : Int) : Int := maxZ (maxZ (maxZ a b) c) d
theorem l3Least_four (g : Nat) (z1 z2 z3 z4 t : Int) (a1 a2 a3 a4 : Option Addr) (c1 c2 c3 c4 : Nat) (w : World) (h : RowB w g [bz z1 a1 c1, bz z2 a2 c2, bz z3 a3 c3, bz z4 a4 c4]) (ho : OkB w [bz z1 a1 c1, bz z2 a2 c2, bz z3 a3 c3, bz z4 a4 c4]) (ht : t = min4 z1 z2 z3 z4) :
    Calls Try.prog 38 #[.slice (some ⟨g, 0, none⟩) 4 4] w (BigV w.heap.size w t) := by
  have e := l3Least_any g (bz z1 a1 c1) [bz z2 a2 c2, bz z3 a3 c3, bz z4 a4 c4] w h ho (by simp)
  rw [pick4_lt, bz_z, bz_z, bz_z, bz_z] at e
  subst ht
  exact e
theorem l3Most_four (g : Nat) (z1 z2 z3 z4 t : Int) (a1 a2 a3 a4 : Option Addr) (c1 c2 c3 c4 : Nat) (w : World) (h : RowB w g [bz z1 a1 c1, bz z2 a2 c2, bz z3 a3 c3, bz z4 a4 c4]) (ho : OkB w [bz z1 a1 c1, bz z2 a2 c2, bz z3 a3 c3, bz z4 a4 c4]) (ht : t = max4 z1 z2 z3 z4) :
    Calls Try.prog 37 #[.slice (some ⟨g, 0, none⟩) 4 4] w (BigV w.heap.size w t) := by
  have e := l3Most_any g (bz z1 a1 c1) [bz z2 a2 c2, bz z3 a3 c3, bz z4 a4 c4] w h ho (by simp)
  rw [pick4_gt, bz_z, bz_z, bz_z, bz_z] at e
  subst ht
  exact e
theorem leastOf_isBelow_four (g : Nat) (z1 z2 z3 z4 t : Int) (a1 a2 a3 a4 : Option Addr) (c1 c2 c3 c4 : Nat) (w : World) (h : RowB w g [bz z1 a1 c1, bz z2 a2 c2, bz z3 a3 c3, bz z4 a4 c4]) (ho : OkB w [bz z1 a1 c1, bz z2 a2 c2, bz z3 a3 c3, bz z4 a4 c4]) (ht : t = min4 z1 z2 z3 z4) :
    Calls Try.prog 30 #[.func (.func 31) #[] #[], .slice (some ⟨g, 0, none⟩) 4 4] w (BigN w t) := by
  have e := leastOf_isBelow g (bz z1 a1 c1) [bz z2 a2 c2, bz z3 a3 c3, bz z4 a4 c4] w h ho (by simp)
  have hm : pickF ltZ (bz z1 a1 c1) [bz z2 a2 c2, bz z3 a3 c3, bz z4 a4 c4] ∈ [bz z1 a1 c1, bz z2 a2 c2, bz z3 a3 c3, bz z4 a4 c4] := by
    rcases pick_mem ltZ [bz z2 a2 c2, bz z3 a3 c3, bz z4 a4 c4] (bz z1 a1 c1) with h | h
    · rw [h]; exact List.mem_cons_self
    · exact List.mem_cons_of_mem _ h
  have hz' : t = (pickF ltZ (bz z1 a1 c1) [bz z2 a2 c2, bz z3 a3 c3, bz z4 a4 c4]).z := by rw [pick4_lt, bz_z, bz_z, bz_z, bz_z]; exact ht
  subst hz'
  exact e.mono fun e9 w9 h9 => bigN_of hm ho h9
theorem leastOf_isAbove_four (g : Nat) (z1 z2 z3 z4 t : Int) (a1 a2 a3 a4 : Option Addr) (c1 c2 c3 c4 : Nat) (w : World) (h : RowB w g [bz z1 a1 c1, bz z2 a2 c2, bz z3 a3 c3, bz z4 a4 c4]) (ho : OkB w [bz z1 a1 c1, bz z2 a2 c2, bz z3 a3 c3, bz z4 a4 c4]) (ht : t = max4 z1 z2 z3 z4) :
    Calls Try.prog 30 #[.func (.func 32) #[] #[], .slice (some ⟨g, 0, none⟩) 4 4] w (BigN w t) := by
  have e := leastOf_isAbove g (bz z1 a1 c1) [bz z2 a2 c2, bz z3 a3 c3, bz z4 a4 c4] w h ho (by simp)
  have hm : pickF gtZ (bz z1 a1 c1) [bz z2 a2 c2, bz z3 a3 c3, bz z4 a4 c4] ∈ [bz z1 a1 c1, bz z2 a2 c2, bz z3 a3 c3, bz z4 a4 c4] := by
    rcases pick_mem gtZ [bz z2 a2 c2, bz z3 a3 c3, bz z4 a4 c4] (bz z1 a1 c1) with h | h
    · rw [h]; exact List.mem_cons_self
    · exact List.mem_cons_of_mem _ h
  have hz' : t = (pickF gtZ (bz z1 a1 c1) [bz z2 a2 c2, bz z3 a3 c3, bz z4 a4 c4]).z := by rw [pick4_gt, bz_z, bz_z, bz_z, bz_z]; exact ht
  subst hz'
  exact e.mono fun e9 w9 h9 => bigN_of hm ho h9

end Go.Proofs.Ytofpommikmdlfaa
