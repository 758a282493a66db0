/-
  A shape read from the front on is the shape read by stripping and cutting, at every text. No program is walked here. No condition.
-/
import Derived.Test.YtlhiahhpmjiioacGreatDoorPshQ
namespace Go.Proofs.YtlhiahhpmjiioacGreatDoor
open Go.RowKit

theorem preB_iff {p l : List UInt8} : preB p l = true ↔ ∃ r, l = p ++ r := by
  unfold preB
  rw [decide_eq_true_eq]
  constructor
  · intro h
    exact ⟨l.drop p.length, by have := List.take_append_drop p.length l; rw [h] at this; exact this.symm⟩
  · rintro ⟨r, rfl⟩
    simp
theorem preB_no {p l : List UInt8} (h : ¬ ∃ r, l = p ++ r) : preB p l = false := by
  cases hb : preB p l with
  | false => rfl
  | true => exact absurd (preB_iff.1 hb) h
/-- The name of a kind. -/
def nmK (k : Int) : List UInt8 := if k = 1 then nmP else if k = 2 then nmM else if k = 3 then nmL else nmR
theorem kindR_at (k : Int) (h1 : 1 ≤ k) (h4 : k ≤ 4) (t : List UInt8) : kindR (nmK k ++ t) = some (k, t) := by
  rcases (by omega : k = 1 ∨ k = 2 ∨ k = 3 ∨ k = 4) with rfl | rfl | rfl | rfl <;> rfl
theorem kindR_some {l t : List UInt8} {k : Int} (h : kindR l = some (k, t)) : 1 ≤ k ∧ k ≤ 4 ∧ l = nmK k ++ t := by
  unfold kindR at h
  split at h
  · rename_i hp
    obtain ⟨r, rfl⟩ := preB_iff.1 hp
    simp only [Option.some.injEq, Prod.mk.injEq] at h
    obtain ⟨rfl, rfl⟩ := h
    exact ⟨by omega, by omega, rfl⟩
  · split at h
    · rename_i hp
      obtain ⟨r, rfl⟩ := preB_iff.1 hp
      simp only [Option.some.injEq, Prod.mk.injEq] at h
      obtain ⟨rfl, rfl⟩ := h
      exact ⟨by omega, by omega, rfl⟩
    · split at h
      · rename_i hp
        obtain ⟨r, rfl⟩ := preB_iff.1 hp
        simp only [Option.some.injEq, Prod.mk.injEq] at h
        obtain ⟨rfl, rfl⟩ := h
        exact ⟨by omega, by omega, rfl⟩
      · split at h
        · rename_i hp
          obtain ⟨r, rfl⟩ := preB_iff.1 hp
          simp only [Option.some.injEq, Prod.mk.injEq] at h
          obtain ⟨rfl, rfl⟩ := h
          exact ⟨by omega, by omega, rfl⟩
        · cases h
theorem nmK_head (k : Int) (t : List UInt8) : (nmK k ++ t).head? ≠ some 32 := by
  unfold nmK
  split
  · simp [nmP]
  · split
    · simp [nmM]
    · split
      · simp [nmL]
      · simp [nmR]
theorem ptsR_head : ∀ (f : Nat) (l r : List UInt8) (ps : List (Int × Int)), ptsR f l = some (ps, r) → r.head? ≠ some 32
  | 0, _, _, _, h => by cases h
  | f + 1, l, r, ps, h => by
    obtain ⟨b, hb, e, h32⟩ := blk_split l
    unfold ptsR at h
    split at h
    · cases hp : pointR ((blk l).drop 1) with
      | none => rw [hp] at h; cases h
      | some x =>
        rw [hp] at h
        simp only [Option.bind_some] at h
        cases hq : ptsR f x.2 with
        | none => rw [hq] at h; cases h
        | some y =>
          rw [hq] at h
          simp only [Option.map_some, Option.some.injEq, Prod.mk.injEq] at h
          rw [← h.2]
          exact ptsR_head f x.2 y.2 y.1 hq
    · simp only [Option.some.injEq, Prod.mk.injEq] at h
      rw [← h.2]; exact h32
theorem no_blank {b r : List UInt8} (hb : AllB b) (h : (b ++ r).head? ≠ some 32) : b = [] := by
  cases b with
  | nil => rfl
  | cons x b => obtain ⟨rfl, _⟩ := hb.tail; exact absurd rfl h

theorem getLast_app {l : List UInt8} (h : l ≠ []) (p : List UInt8) : (p ++ l).getLast? = l.getLast? := by
  rw [List.getLast?_append]
  cases hl : l.getLast? with
  | none => rw [List.getLast?_eq_none_iff] at hl; exact absurd hl h
  | some x => rfl
theorem AllB.rev {b : List UInt8} (h : AllB b) : AllB b.reverse := fun x hx => h x (List.mem_reverse.1 hx)
theorem endB_at {l b : List UInt8} (hb : AllB b) (hl : l.getLast? ≠ some 32) : endB (l ++ b) = l := by
  unfold endB
  rw [List.reverse_append, blk_at hb.rev (by rw [List.head?_reverse]; exact hl), List.reverse_reverse]
theorem endB_split (l : List UInt8) : ∃ b, AllB b ∧ l = endB l ++ b ∧ (endB l).getLast? ≠ some 32 := by
  obtain ⟨b, h1, h2, h3⟩ := blk_split l.reverse
  refine ⟨b.reverse, h1.rev, ?_, ?_⟩
  · have := congrArg List.reverse h2
    rw [List.reverse_reverse, List.reverse_append] at this
    exact this
  · unfold endB
    rw [List.getLast?_reverse]; exact h3
theorem strip_at {b l b' : List UInt8} (hb : AllB b) (hb' : AllB b') (h1 : l.head? ≠ some 32) (h2 : l.getLast? ≠ some 32) (h0 : l ≠ []) : stripM (b ++ (l ++ b')) = l := by
  unfold stripM
  rw [blk_at hb ?_, endB_at hb' h2]
  cases l with
  | nil => exact absurd rfl h0
  | cons x l => exact h1
theorem strip_split (l : List UInt8) : ∃ b b', AllB b ∧ AllB b' ∧ l = b ++ (stripM l ++ b') := by
  obtain ⟨b, h1, h2, _⟩ := blk_split l
  obtain ⟨b', h3, h4, _⟩ := endB_split (blk l)
  exact ⟨b, b', h1, h3, by unfold stripM; rw [← h4, ← h2]⟩
theorem inner_at {b i b' : List UInt8} (hb : AllB b) (hb' : AllB b') : innerM (b ++ (40 :: (i ++ [41]) ++ b')) = some i := by
  have hl : (40 :: (i ++ [41]) : List UInt8).getLast? = some 41 := by
    rw [← List.cons_append, getLast_app (by simp)]; rfl
  have hs : stripM (b ++ (40 :: (i ++ [41]) ++ b')) = 40 :: (i ++ [41]) := strip_at hb hb' (by simp) (by rw [hl]; decide) (by simp)
  unfold innerM
  rw [hs, if_pos ⟨by simp, rfl, hl⟩]
  simp
theorem inner_some {l i : List UInt8} (h : innerM l = some i) : ∃ b b', AllB b ∧ AllB b' ∧ l = b ++ (40 :: (i ++ [41]) ++ b') := by
  unfold innerM at h
  split at h
  · rename_i hc
    obtain ⟨h2, hh, hg⟩ := hc
    obtain ⟨b, b', q1, q2, q3⟩ := strip_split l
    generalize stripM l = s at *
    simp only [Option.some.injEq] at h
    refine ⟨b, b', q1, q2, ?_⟩
    rw [q3]
    cases s with
    | nil => cases hh
    | cons x s =>
      simp at hh; subst hh
      have hs : s ≠ [] := by rintro rfl; simp at h2
      have hg2 : s.getLast? = some 41 := by
        rw [show (40 :: s : List UInt8) = [40] ++ s from rfl, getLast_app hs] at hg; exact hg
      have he : s.dropLast ++ [41] = s := by
        have := List.dropLast_concat_getLast hs
        rw [List.getLast?_eq_some_getLast hs, Option.some.injEq] at hg2
        rw [hg2] at this; exact this
      simp only [List.drop_succ_cons, List.drop_zero] at h
      rw [← h, he]
  · cases h

/-- The marks ahead of the points, and behind them. -/
def Ahead (n : Nat) (l r : List UInt8) : Prop := (n = 1 ∧ ∃ b, AllB b ∧ l = b ++ 40 :: r) ∨ (n = 2 ∧ ∃ b b', AllB b ∧ AllB b' ∧ l = b ++ 40 :: (b' ++ 40 :: r))
theorem openR_one {c : UInt8} {l r : List UInt8} (h : openR c 1 l = some r) : ∃ b, AllB b ∧ l = b ++ c :: r := by
  obtain ⟨b, h1, h2, _⟩ := blk_split l
  unfold openR at h
  split at h
  · rename_i hh
    simp only [openR, Option.some.injEq] at h
    refine ⟨b, h1, ?_⟩
    cases hb : blk l with
    | nil => rw [hb] at hh; cases hh
    | cons x m => rw [hb] at hh h h2; simp at hh; subst hh; simp at h; rw [h2, h]
  · cases h
theorem openR_two {c : UInt8} {l r : List UInt8} (h : openR c 2 l = some r) : ∃ b b', AllB b ∧ AllB b' ∧ l = b ++ c :: (b' ++ c :: r) := by
  obtain ⟨b, h1, h2, _⟩ := blk_split l
  unfold openR at h
  split at h
  · rename_i hh
    obtain ⟨b', h3, h4⟩ := openR_one h
    refine ⟨b, b', h1, h3, ?_⟩
    cases hb : blk l with
    | nil => rw [hb] at hh; cases hh
    | cons x m => rw [hb] at hh h2 h4; simp at hh; subst hh; simp at h4; rw [h2, h4]
  · cases h
theorem openR_app {c : UInt8} (hc : c ≠ 32) {b : List UInt8} (hb : AllB b) (n : Nat) (r : List UInt8) : openR c (n + 1) (b ++ c :: r) = openR c n r := by
  have e : blk (b ++ c :: r) = c :: r := blk_at hb (by simpa using hc)
  rw [openR, e]
  simp

theorem shape_forward {l : List UInt8} {v : Int × List (Int × Int)} (h : shapeR l = some v) : parseM l = some v := by
  obtain ⟨b0, hb0, e0, _⟩ := blk_split l
  unfold shapeR at h
  cases hk : kindR (blk l) with
  | none => rw [hk] at h; cases h
  | some x =>
    obtain ⟨k, t⟩ := x
    rw [hk] at h
    simp only [Option.bind_some] at h
    obtain ⟨k1, k4, ek⟩ := kindR_some hk
    cases ho : openR 40 (parK k) t with
    | none => rw [ho] at h; cases h
    | some t1 =>
      rw [ho] at h
      simp only [Option.bind_some] at h
      cases hp : pointR t1 with
      | none => rw [hp] at h; cases h
      | some y =>
        obtain ⟨p, t2⟩ := y
        rw [hp] at h
        simp only [Option.bind_some] at h
        cases hq : ptsR (t2.length + 1) t2 with
        | none => rw [hq] at h; cases h
        | some z =>
          obtain ⟨ps, t3⟩ := z
          rw [hq] at h
          simp only [Option.bind_some] at h
          cases hc : openR 41 (parK k) t3 with
          | none => rw [hc] at h; cases h
          | some u =>
            rw [hc] at h
            simp only [Option.bind_some] at h
            split at h
            · rename_i hu
              have hu := blk_all hu
              simp only [Option.some.injEq] at h
              subst h
              obtain ⟨c1, e1, w1, n1, _⟩ := pointR_some hp
              obtain ⟨c2, e2, w2⟩ := ptsR_some _ _ _ _ hq
              have hX := w2 c1 p w1 n1
              have h32 := ptsR_head _ _ _ _ hq
              by_cases h4 : k = 4
              · subst h4
                obtain ⟨b1, b2, q1, q2, q3⟩ := openR_two ho
                obtain ⟨b3, b4, q4, q5, q6⟩ := openR_two hc
                rw [q6] at h32
                have hb3 := no_blank q4 h32
                subst hb3
                have el : l = b0 ++ ((nmK 4 ++ (b1 ++ (40 :: ((b2 ++ (40 :: ((c1 ++ c2) ++ [41]) ++ b4)) ++ [41]) ++ []))) ++ u) := by
                  rw [e0, ek, q3, e1, e2, q6]; simp
                have eg : (nmK 4 ++ (b1 ++ (40 :: ((b2 ++ (40 :: ((c1 ++ c2) ++ [41]) ++ b4)) ++ [41]) ++ []))).getLast? ≠ some 32 := by
                  rw [show nmK 4 ++ (b1 ++ (40 :: ((b2 ++ (40 :: ((c1 ++ c2) ++ [41]) ++ b4)) ++ [41]) ++ [])) = (nmK 4 ++ (b1 ++ (40 :: (b2 ++ (40 :: ((c1 ++ c2) ++ [41]) ++ b4))))) ++ [41] by simp, getLast_app (by simp)]
                  decide
                unfold parseM
                rw [el, strip_at hb0 hu (nmK_head _ _) eg (by simp), kindR_at 4 (by omega) (by omega)]
                simp only [Option.bind_some, if_true]
                rw [inner_at q1 AllB.nil]
                simp only [Option.bind_some]
                rw [inner_at q2 q5]
                simp only [Option.bind_some, hX, Option.map_some]
              · have hn : parK k = 1 := if_neg h4
                rw [hn] at ho hc
                obtain ⟨b1, q1, q3⟩ := openR_one ho
                obtain ⟨b3, q4, q6⟩ := openR_one hc
                rw [q6] at h32
                have hb3 := no_blank q4 h32
                subst hb3
                have el : l = b0 ++ ((nmK k ++ (b1 ++ (40 :: ((c1 ++ c2) ++ [41]) ++ []))) ++ u) := by
                  rw [e0, ek, q3, e1, e2, q6]; simp
                have eg : (nmK k ++ (b1 ++ (40 :: ((c1 ++ c2) ++ [41]) ++ []))).getLast? ≠ some 32 := by
                  rw [show nmK k ++ (b1 ++ (40 :: ((c1 ++ c2) ++ [41]) ++ [])) = (nmK k ++ (b1 ++ (40 :: (c1 ++ c2)))) ++ [41] by simp, getLast_app (by simp)]
                  decide
                unfold parseM
                rw [el, strip_at hb0 hu (nmK_head _ _) eg (by simp), kindR_at k k1 k4]
                simp only [Option.bind_some, if_neg h4]
                rw [inner_at q1 AllB.nil]
                simp only [Option.bind_some, hX, Option.map_some]
            · cases h

theorem shape_back {l : List UInt8} {v : Int × List (Int × Int)} (h : parseM l = some v) : shapeR l = some v := by
  obtain ⟨b0, b9, hb0, hb9, e0⟩ := strip_split l
  unfold parseM at h
  generalize stripM l = m at *
  cases hk : kindR m with
  | none => rw [hk] at h; cases h
  | some x =>
    obtain ⟨k, t⟩ := x
    rw [hk] at h
    simp only [Option.bind_some] at h
    obtain ⟨k1, k4, ek⟩ := kindR_some hk
    cases hi : innerM t with
    | none => rw [hi] at h; cases h
    | some i =>
      rw [hi] at h
      simp only [Option.bind_some] at h
      obtain ⟨b1, b2, q1, q2, q3⟩ := inner_some hi
      by_cases h4 : k = 4
      · subst h4
        simp only [if_true] at h
        cases hj : innerM i with
        | none => rw [hj] at h; cases h
        | some j =>
          rw [hj] at h
          simp only [Option.bind_some] at h
          obtain ⟨b3, b4, q4, q5, q6⟩ := inner_some hj
          cases hp : pointsM j with
          | none => rw [hp] at h; cases h
          | some qs =>
            rw [hp] at h
            simp only [Option.map_some, Option.some.injEq] at h
            subst h
            have el : l = b0 ++ (nmK 4 ++ (b1 ++ 40 :: (b3 ++ 40 :: (j ++ (41 :: (b4 ++ 41 :: (b2 ++ b9))))))) := by
              rw [e0, ek, q3, q6]; simp
            obtain ⟨p, ps, t2, e1, e2, e3⟩ := ptsR_app j.length j (Nat.le_refl _) qs (41 :: (b4 ++ 41 :: (b2 ++ b9))) hp rfl
            have a1 : openR 40 (1 + 1) (b1 ++ 40 :: (b3 ++ 40 :: (j ++ (41 :: (b4 ++ 41 :: (b2 ++ b9)))))) = some (j ++ (41 :: (b4 ++ 41 :: (b2 ++ b9)))) := by
              rw [openR_app (by decide) q1]; exact openR_app (by decide) q4 0 _
            have o1 := openR_app (c := 41) (by decide) AllB.nil 1 (b4 ++ 41 :: (b2 ++ b9))
            rw [List.nil_append] at o1
            have o3 : openR 41 (1 + 1) (41 :: (b4 ++ 41 :: (b2 ++ b9))) = some (b2 ++ b9) := by rw [o1]; exact openR_app (c := 41) (by decide) q5 0 (b2 ++ b9)
            have o4 : blk (b2 ++ b9) = [] := by
              have := blk_app (q2.app hb9) []
              rw [List.append_nil] at this; exact this
            have hn : parK 4 = 1 + 1 := rfl
            unfold shapeR
            rw [el, blk_at hb0 (nmK_head _ _), kindR_at 4 (by omega) (by omega)]
            simp only [Option.bind_some]
            rw [hn, a1]
            simp only [Option.bind_some, e2, e3 _ (Nat.lt_succ_self _), o3, o4, if_true, e1]
      · simp only [if_neg h4, Option.bind_some] at h
        cases hp : pointsM i with
        | none => rw [hp] at h; cases h
        | some qs =>
          rw [hp] at h
          simp only [Option.map_some, Option.some.injEq] at h
          subst h
          have el : l = b0 ++ (nmK k ++ (b1 ++ 40 :: (i ++ (41 :: (b2 ++ b9))))) := by
            rw [e0, ek, q3]; simp
          obtain ⟨p, ps, t2, e1, e2, e3⟩ := ptsR_app i.length i (Nat.le_refl _) qs (41 :: (b2 ++ b9)) hp rfl
          have a1 : openR 40 (0 + 1) (b1 ++ 40 :: (i ++ (41 :: (b2 ++ b9)))) = some (i ++ (41 :: (b2 ++ b9))) := openR_app (by decide) q1 0 _
          have o1 := openR_app (c := 41) (by decide) AllB.nil 0 (b2 ++ b9)
          rw [List.nil_append] at o1
          have o3 : openR 41 (0 + 1) (41 :: (b2 ++ b9)) = some (b2 ++ b9) := o1
          have o4 : blk (b2 ++ b9) = [] := by
            have := blk_app (q2.app hb9) []
            rw [List.append_nil] at this; exact this
          have hn : parK k = 0 + 1 := if_neg h4
          unfold shapeR
          rw [el, blk_at hb0 (nmK_head _ _), kindR_at k k1 k4]
          simp only [Option.bind_some]
          rw [hn, a1]
          simp only [Option.bind_some, e2, e3 _ (Nat.lt_succ_self _), o3, o4, if_true, e1]

/-- Both ways of reading a shape are one. -/
theorem shapeR_eq (l : List UInt8) : shapeR l = parseM l := by
  cases h : parseM l with
  | some v => exact shape_back h
  | none =>
    cases h2 : shapeR l with
    | none => rfl
    | some v => rw [shape_forward h2] at h; cases h

end Go.Proofs.YtlhiahhpmjiioacGreatDoor
