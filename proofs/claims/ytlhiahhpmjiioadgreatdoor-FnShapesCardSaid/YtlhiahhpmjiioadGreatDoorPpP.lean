/-
  Plain facts: the text of a shape without fault is read back as that shape, and it is no longer than 600 bytes. No program is walked here. No condition.
-/
import Derived.Test.YtlhiahhpmjiioadGreatDoorPrtP
import Derived.Test.YtlhiahhpmjiioadGreatDoorPshR
import Derived.Test.YtlhiahhpmjiioadGreatDoorOwP
namespace Go.Proofs.YtlhiahhpmjiioadGreatDoor
open Go.RowKit

/-- Coordinates that are written in no more than 17 bytes. -/
def InC (x : Int) : Prop := -999999999999999 ≤ x ∧ x ≤ 999999999999999
/-- The first n points of a list. -/
def pairsN (xs : List Int) (n : Nat) : List (Int × Int) := (List.range n).map fun i => (xs.getD (i * 2) 0, xs.getD (i * 2 + 1) 0)
theorem pairsN_len (xs : List Int) (n : Nat) : (pairsN xs n).length = n := by simp [pairsN]
theorem pairsN_succ (xs : List Int) (n : Nat) : pairsN xs (n + 1) = pairsN xs n ++ [(xs.getD (n * 2) 0, xs.getD (n * 2 + 1) 0)] := by
  unfold pairsN; rw [List.range_succ, List.map_append]; rfl
theorem flat_pairs (xs : List Int) : ∀ n : Nat, n * 2 ≤ xs.length → flatP (pairsN xs n) = xs.take (n * 2)
  | 0, _ => by simp [pairsN, flatP]
  | n + 1, h => by
    rw [pairsN_succ, flatP_app, flat_pairs xs n (by omega), show (n + 1) * 2 = n * 2 + 1 + 1 by omega]
    have h0 : xs.getD (n * 2) 0 = xs[n * 2] := by rw [List.getD_eq_getElem?_getD, List.getElem?_eq_getElem (by omega)]; rfl
    have h1 : xs.getD (n * 2 + 1) 0 = xs[n * 2 + 1] := by rw [List.getD_eq_getElem?_getD, List.getElem?_eq_getElem (by omega)]; rfl
    have e1 : xs.take (n * 2 + 1) = xs.take (n * 2) ++ [xs[n * 2]] := List.take_succ_eq_append_getElem (by omega)
    have e2 : xs.take (n * 2 + 1 + 1) = xs.take (n * 2 + 1) ++ [xs[n * 2 + 1]] := List.take_succ_eq_append_getElem (by omega)
    rw [e2, e1, h0, h1, List.append_assoc]; rfl
theorem flat_pairs_all {xs : List Int} {n : Nat} (h : xs.length = n * 2) : flatP (pairsN xs n) = xs := by
  rw [flat_pairs xs n (by omega), ← h, List.take_length]

theorem point_W {x y : Int} (hx : InC x) (hy : InC y) : PtW (pointT x y) (x, y) :=
  ⟨[], coordT x, [32], coordT y, [], AllB.nil, AllB.nil.cons, AllB.nil, by simp, coordT_back hx.1 hx.2, coordT_back hy.1 hy.2, by simp [pointT]⟩
theorem point_no44 {x y : Int} (hx : InC x) (hy : InC y) : ∀ b ∈ pointT x y, b ≠ 44 := by
  intro b hb
  unfold pointT at hb
  rcases List.mem_append.1 hb with hb | hb
  · exact (isC_not ((fullC_isC (coordT_back hx.1 hx.2)).2 b hb)).2
  · rcases List.mem_cons.1 hb with rfl | hb
    · decide
    · exact (isC_not ((fullC_isC (coordT_back hy.1 hy.2)).2 b hb)).2
theorem point_len {x y : Int} (hx : InC x) (hy : InC y) : (pointT x y).length ≤ 35 := by
  have h1 := coordT_len x hx.1 hx.2
  have h2 := coordT_len y hy.1 hy.2
  unfold pointT
  rw [List.length_append, List.length_cons]; omega
theorem joinC_two (t u : List UInt8) (r : List (List UInt8)) : joinC (t :: u :: r) = t ++ 44 :: joinC (u :: r) := by
  unfold joinC
  rw [Lib.join_cons, Lib.join_cons]
  unfold Lib.joinTail
  simp
theorem cut_join : ∀ ts : List (List UInt8), ts ≠ [] → (∀ t ∈ ts, ∀ b ∈ t, b ≠ 44) → cutL 44 (joinC ts) = ts
  | [], h, _ => absurd rfl h
  | [t], _, h => by rw [joinC_one, cutL_none 44 t (h t (by simp))]
  | t :: u :: r, _, h => by
    rw [joinC_two, cutL_at 44 t _ (h t (by simp)), cut_join (u :: r) (by simp) (fun x hx => h x (by simp [hx]))]
theorem parts_map {ι : Type} (f : ι → List UInt8) (g : ι → Int × Int) : ∀ L : List ι, (∀ i ∈ L, PtW (f i) (g i)) → partsM (L.map f) = some (L.map g)
  | [], _ => rfl
  | i :: L, h => by
    rw [List.map_cons, List.map_cons]
    simp only [partsM, part_of (h i (by simp)), Option.bind_some, parts_map f g L (fun j hj => h j (by simp [hj])), Option.map_some]
/-- The first n points are within the bounds. -/
def InCs (xs : List Int) (n : Nat) : Prop := ∀ i, i < n → InC (xs.getD (i * 2) 0) ∧ InC (xs.getD (i * 2 + 1) 0)
theorem points_join {xs : List Int} {n : Nat} (h : InCs xs n) (h1 : 1 ≤ n) : pointsM (joinC (ptsT xs n)) = some (pairsN xs n) := by
  unfold pointsM
  have hne : ptsT xs n ≠ [] := by intro e; have := ptsT_len xs n; rw [e] at this; simp at this; omega
  rw [cut_join _ hne (fun t ht b hb => ?_)]
  · exact parts_map _ _ _ (fun i hi => point_W (h i (List.mem_range.1 hi)).1 (h i (List.mem_range.1 hi)).2)
  · unfold ptsT at ht
    obtain ⟨i, hi, rfl⟩ := List.mem_map.1 ht
    exact point_no44 (h i (List.mem_range.1 hi)).1 (h i (List.mem_range.1 hi)).2 b hb
theorem join_len {xs : List Int} {n : Nat} (h : InCs xs n) : (joinC (ptsT xs n)).length ≤ n * 36 := by
  have := joinC_len 35 (ptsT xs n) (fun t ht => by
    unfold ptsT at ht
    obtain ⟨i, hi, rfl⟩ := List.mem_map.1 ht
    exact point_len (h i (List.mem_range.1 hi)).1 (h i (List.mem_range.1 hi)).2)
  rwa [ptsT_len] at this
theorem nameT_eq {k : Int} (h1 : 1 ≤ k) (h4 : k ≤ 4) : nameT k = nmK k := by
  rcases (by omega : k = 1 ∨ k = 2 ∨ k = 3 ∨ k = 4) with rfl | rfl | rfl | rfl <;> rfl
theorem nmK_len (k : Int) : (nmK k).length ≤ 10 := by
  unfold nmK
  split
  · simp [nmP]
  · split
    · simp [nmM]
    · split
      · simp [nmL]
      · simp [nmR]
theorem print_len {k : Int} {xs : List Int} {n : Nat} (h1 : 1 ≤ k) (h4 : k ≤ 4) (h : InCs xs n) (hn : n ≤ 12) : (printT k xs n).length ≤ 446 := by
  have h2 := join_len h
  have h3 := nmK_len k
  have h5 : aroundN k ≤ 2 := by unfold aroundN; split <;> omega
  unfold printT
  rw [nameT_eq h1 h4]
  simp only [List.length_append, List.length_replicate]
  omega
theorem parse_print {k : Int} {xs : List Int} {n : Nat} (h1 : 1 ≤ k) (h4 : k ≤ 4) (h : InCs xs n) (hn : 1 ≤ n) : parseM (printT k xs n) = some (k, pairsN xs n) := by
  have hp := points_join h hn
  obtain ⟨J, hJ⟩ : ∃ J, joinC (ptsT xs n) = J := ⟨_, rfl⟩
  rw [hJ] at hp
  by_cases hk : k = 4
  · subst hk
    have el : printT 4 xs n = [] ++ ((nmK 4 ++ ([] ++ (40 :: (([] ++ (40 :: (J ++ [41]) ++ [])) ++ [41]) ++ []))) ++ []) := by
      unfold printT
      rw [nameT_eq h1 h4, hJ, show aroundN 4 = 2 from rfl]
      simp [List.replicate_succ]
    have eg : (nmK 4 ++ ([] ++ (40 :: (([] ++ (40 :: (J ++ [41]) ++ [])) ++ [41]) ++ []))).getLast? ≠ some 32 := by
      rw [show nmK 4 ++ ([] ++ (40 :: (([] ++ (40 :: (J ++ [41]) ++ [])) ++ [41]) ++ [])) = (nmK 4 ++ (40 :: (40 :: (J ++ [41])))) ++ [41] by simp, getLast_app (by simp)]
      decide
    unfold parseM
    rw [el, strip_at AllB.nil AllB.nil (nmK_head _ _) eg (by simp), kindR_at 4 (by omega) (by omega)]
    simp only [Option.bind_some, if_true]
    rw [inner_at AllB.nil AllB.nil]
    simp only [Option.bind_some]
    rw [inner_at AllB.nil AllB.nil]
    simp only [Option.bind_some, hp, Option.map_some]
  · have el : printT k xs n = [] ++ ((nmK k ++ ([] ++ (40 :: (J ++ [41]) ++ []))) ++ []) := by
      unfold printT
      rw [nameT_eq h1 h4, hJ, show aroundN k = 1 from if_neg hk]
      simp [List.replicate_succ]
    have eg : (nmK k ++ ([] ++ (40 :: (J ++ [41]) ++ []))).getLast? ≠ some 32 := by
      rw [show nmK k ++ ([] ++ (40 :: (J ++ [41]) ++ [])) = (nmK k ++ (40 :: J)) ++ [41] by simp, getLast_app (by simp)]
      decide
    unfold parseM
    rw [el, strip_at AllB.nil AllB.nil (nmK_head _ _) eg (by simp), kindR_at k h1 h4]
    simp only [Option.bind_some, if_neg hk]
    rw [inner_at AllB.nil AllB.nil]
    simp only [Option.bind_some, hp, Option.map_some]

/-- What stands on a shape without fault. -/
theorem shape_ok {k : Int} {xs : List Int} {n : Nat} (h : shapeC k xs n = 0) : (1 ≤ k ∧ k ≤ 4) ∧ (1 ≤ n ∧ n ≤ 12) ∧ InCs xs n := by
  unfold shapeC at h
  split at h
  · omega
  · rename_i hk
    split at h
    · omega
    · rename_i hp
      have hp : ptsFault xs n = 0 := Decidable.of_not_not hp
      have hn := ptsFault_len hp
      refine ⟨?_, hn, ?_⟩
      · unfold inK at hk
        exact of_decide_eq_true (by simpa using hk)
      · rw [ptsFault_in (by omega)] at hp
        unfold ptsFirst at hp
        split at hp
        · rename_i hP
          intro i hi
          have := hP i hi
          unfold ptFault at this
          split at this
          · rename_i hI
            unfold InPt at hI
            exact ⟨⟨by omega, by omega⟩, ⟨by omega, by omega⟩⟩
          · omega
        · omega
theorem print_back {k : Int} {xs : List Int} {n : Nat} (h : shapeC k xs n = 0) : shapeR (printT k xs n) = some (k, pairsN xs n) ∧ (printT k xs n).length ≤ 446 := by
  obtain ⟨⟨h1, h4⟩, ⟨n1, n12⟩, hi⟩ := shape_ok h
  exact ⟨by rw [shapeR_eq]; exact parse_print h1 h4 hi n1, print_len h1 h4 hi n12⟩

end Go.Proofs.YtlhiahhpmjiioadGreatDoor
