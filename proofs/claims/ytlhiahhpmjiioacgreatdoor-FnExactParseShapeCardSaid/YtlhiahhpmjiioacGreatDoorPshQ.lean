/-
  Plain facts: a shape read from the front on, and a shape read by stripping and cutting, are the same. No program is walked here. No condition.
-/
import Derived.Test.YtlhiahhpmjiioacGreatDoorPshP
namespace Go.Proofs.YtlhiahhpmjiioacGreatDoor
open Go.RowKit

/-- A point, read from the front on. -/
def pointR (l : List UInt8) : Option ((Int × Int) × List UInt8) :=
  (coordR (blk l)).bind fun x => if x.2.head? = some 32 then (coordR (blk x.2)).map fun y => ((x.1, y.1), y.2) else none
/-- The points behind the first one, and the text behind them and the blanks. -/
def ptsR : Nat → List UInt8 → Option (List (Int × Int) × List UInt8)
  | 0, _ => none
  | f + 1, l => if (blk l).head? = some 44 then (pointR ((blk l).drop 1)).bind fun p => (ptsR f p.2).map fun q => (p.1 :: q.1, q.2) else some ([], blk l)
/-- So many marks, each behind blanks. -/
def openR (c : UInt8) : Nat → List UInt8 → Option (List UInt8)
  | 0, l => some l
  | n + 1, l => if (blk l).head? = some c then openR c n ((blk l).drop 1) else none
def preB (p l : List UInt8) : Bool := decide (l.take p.length = p)
def nmP : List UInt8 := [80, 79, 73, 78, 84]
def nmM : List UInt8 := [77, 85, 76, 84, 73, 80, 79, 73, 78, 84]
def nmL : List UInt8 := [76, 73, 78, 69, 83, 84, 82, 73, 78, 71]
def nmR : List UInt8 := [80, 79, 76, 89, 71, 79, 78]
/-- The kind whose name stands in front. -/
def kindR (l : List UInt8) : Option (Int × List UInt8) :=
  if preB nmP l then some (1, l.drop 5) else if preB nmM l then some (2, l.drop 10) else if preB nmL l then some (3, l.drop 10) else if preB nmR l then some (4, l.drop 7) else none
def parK (k : Int) : Nat := if k = 4 then 2 else 1
/-- A shape, read from the front on. -/
def shapeR (l : List UInt8) : Option (Int × List (Int × Int)) :=
  (kindR (blk l)).bind fun k => (openR 40 (parK k.1) k.2).bind fun t => (pointR t).bind fun p => (ptsR (p.2.length + 1) p.2).bind fun q => (openR 41 (parK k.1) q.2).bind fun u => if blk u = [] then some (k.1, p.1 :: q.1) else none

/-- Without blanks behind. -/
def endB (l : List UInt8) : List UInt8 := (blk l.reverse).reverse
def stripM (l : List UInt8) : List UInt8 := endB (blk l)
def innerM (l : List UInt8) : Option (List UInt8) :=
  if 2 ≤ (stripM l).length ∧ (stripM l).head? = some 40 ∧ (stripM l).getLast? = some 41 then some (((stripM l).drop 1).dropLast) else none
/-- The points of a list. -/
def partsM : List (List UInt8) → Option (List (Int × Int))
  | [] => some []
  | x :: xs => (partM x).bind fun p => (partsM xs).map fun q => p :: q
def pointsM (l : List UInt8) : Option (List (Int × Int)) := partsM (cutL 44 l)
/-- A shape, read by stripping and cutting. -/
def parseM (l : List UInt8) : Option (Int × List (Int × Int)) :=
  (kindR (stripM l)).bind fun k => (innerM k.2).bind fun i => (if k.1 = 4 then innerM i else some i).bind fun j => (pointsM j).map fun q => (k.1, q)

theorem pointR_some {l r : List UInt8} {p : Int × Int} (h : pointR l = some (p, r)) : ∃ c, l = c ++ r ∧ PtW c p ∧ (∀ b ∈ c, b ≠ 44) ∧ r.length < l.length := by
  unfold pointR at h
  obtain ⟨b1, h1, e1, _⟩ := blk_split l
  cases hc : coordR (blk l) with
  | none => rw [hc] at h; cases h
  | some x =>
    obtain ⟨x, r1⟩ := x
    rw [hc] at h
    simp only [Option.bind_some] at h
    split at h
    · rename_i hh
      obtain ⟨b2, h2, e2, _⟩ := blk_split r1
      cases hd : coordR (blk r1) with
      | none => rw [hd] at h; cases h
      | some y =>
        obtain ⟨y, r2⟩ := y
        rw [hd] at h
        simp only [Option.map_some, Option.some.injEq, Prod.mk.injEq] at h
        obtain ⟨hp, rfl⟩ := h
        obtain ⟨c1, q1, f1, n1, i1⟩ := coordR_some hc
        obtain ⟨c2, q2, f2, n2, i2⟩ := coordR_some hd
        have hne : b2 ≠ [] := by
          rintro rfl
          rw [List.nil_append] at e2
          rw [e2, q2] at hh
          cases c2 with
          | nil => exact n2 rfl
          | cons z c => simp at hh; exact (isC_not (i2 z (by simp))).1 hh
        have hl : l = (b1 ++ (c1 ++ (b2 ++ (c2 ++ [])))) ++ r2 := by
          rw [e1, q1, e2, q2]; simp
        refine ⟨_, hl, ⟨b1, c1, b2, c2, [], h1, h2, AllB.nil, hne, by rw [← hp]; exact f1, by rw [← hp]; exact f2, rfl⟩, ?_, ?_⟩
        · intro b hb
          simp only [List.append_nil, List.mem_append] at hb
          rcases hb with hb | hb | hb | hb
          · rw [h1 b hb]; decide
          · exact (isC_not (i1 b hb)).2
          · rw [h2 b hb]; decide
          · exact (isC_not (i2 b hb)).2
        · have := congrArg List.length hl
          have h0 : 0 < c1.length := List.length_pos_iff.2 n1
          simp only [List.length_append] at this
          omega
    · cases h
theorem mark_not {b : UInt8} (h : b = 32 ∨ b = 44 ∨ b = 41) : isD b = false ∧ b ≠ 46 := by
  rcases h with rfl | rfl | rfl <;> decide
theorem head_isC {c r : List UInt8} {v : Int} (h : fullC c = some v) : (c ++ r).head? ≠ some 32 := by
  obtain ⟨n, i⟩ := fullC_isC h
  cases c with
  | nil => exact absurd rfl n
  | cons b c => intro e; simp at e; exact (isC_not (i b (by simp))).1 e
theorem pointR_app {l r : List UInt8} {p : Int × Int} (h : PtW l p) (hr : r.head? = some 44 ∨ r.head? = some 41) : ∃ b, AllB b ∧ pointR (l ++ r) = some (p, b ++ r) := by
  obtain ⟨b1, c1, b2, c2, b3, h1, h2, h3, h0, f1, f2, rfl⟩ := h
  refine ⟨b3, h3, ?_⟩
  unfold pointR
  have e : b1 ++ (c1 ++ (b2 ++ (c2 ++ b3))) ++ r = b1 ++ (c1 ++ (b2 ++ (c2 ++ (b3 ++ r)))) := by simp
  rw [e, blk_at h1 (head_isC f1), coordR_app f1 (fun b hb => mark_not (.inl (by rw [head_blank h2 h0] at hb; simpa using hb.symm)))]
  simp only [Option.bind_some]
  rw [if_pos (head_blank h2 h0), blk_at h2 (head_isC f2), coordR_app f2 (fun b hb => ?_)]
  · rfl
  · cases b3 with
    | nil => 
      rw [List.nil_append] at hb
      rcases hr with hr | hr
      · rw [hr] at hb; exact mark_not (.inr (.inl (by simpa using hb.symm)))
      · rw [hr] at hb; exact mark_not (.inr (.inr (by simpa using hb.symm)))
    | cons x b3 =>
      obtain ⟨rfl, _⟩ := h3.tail
      simp at hb
      exact mark_not (.inl hb.symm)
theorem PtW.blanks {l b : List UInt8} {p : Int × Int} (h : PtW l p) (hb : AllB b) : PtW (l ++ b) p := by
  obtain ⟨b1, c1, b2, c2, b3, h1, h2, h3, h0, f1, f2, rfl⟩ := h
  exact ⟨b1, c1, b2, c2, b3 ++ b, h1, h2, h3.app hb, h0, f1, f2, by simp⟩
theorem AllB.no {b : List UInt8} (h : AllB b) {c : UInt8} (hc : c ≠ 32) : ∀ x ∈ b, x ≠ c := fun x hx => by rw [h x hx]; exact hc.symm
/-- Forward: what the points' reading took is a list of points by commas. -/
theorem ptsR_some : ∀ (f : Nat) (l r : List UInt8) (ps : List (Int × Int)), ptsR f l = some (ps, r) →
    ∃ c, l = c ++ r ∧ ∀ c0 p, PtW c0 p → (∀ b ∈ c0, b ≠ 44) → pointsM (c0 ++ c) = some (p :: ps)
  | 0, _, _, _, h => by cases h
  | f + 1, l, r, ps, h => by
    obtain ⟨b, hb, e, _⟩ := blk_split l
    unfold ptsR at h
    split at h
    · rename_i hh
      cases hp : pointR ((blk l).drop 1) with
      | none => rw [hp] at h; cases h
      | some x =>
        obtain ⟨p, t⟩ := x
        rw [hp] at h
        simp only [Option.bind_some] at h
        cases hq : ptsR f t with
        | none => rw [hq] at h; cases h
        | some y =>
          obtain ⟨qs, u⟩ := y
          rw [hq] at h
          simp only [Option.map_some, Option.some.injEq, Prod.mk.injEq] at h
          obtain ⟨rfl, rfl⟩ := h
          obtain ⟨c1, e1, w1, n1, _⟩ := pointR_some hp
          obtain ⟨c2, e2, w2⟩ := ptsR_some f t u qs hq
          have e3 : blk l = 44 :: (c1 ++ (c2 ++ u)) := by
            cases hbl : blk l with
            | nil => rw [hbl] at hh; cases hh
            | cons z m => rw [hbl] at hh e1; simp at hh; subst hh; simp at e1; rw [e1, e2]
          refine ⟨b ++ 44 :: (c1 ++ c2), by rw [e, e3]; simp, fun c0 p0 hw hn => ?_⟩
          unfold pointsM
          rw [show c0 ++ (b ++ 44 :: (c1 ++ c2)) = (c0 ++ b) ++ 44 :: (c1 ++ c2) by simp]
          rw [cutL_at 44 (c0 ++ b) _ (fun x hx => (List.mem_append.1 hx).elim (hn x) (hb.no (by decide) x))]
          have := w2 c1 p w1 n1
          unfold pointsM at this
          simp only [partsM, part_of (hw.blanks hb), Option.bind_some, this, Option.map_some]
    · simp only [Option.some.injEq, Prod.mk.injEq] at h
      obtain ⟨rfl, rfl⟩ := h
      refine ⟨b, e, fun c0 p0 hw hn => ?_⟩
      unfold pointsM
      rw [cutL_none 44 _ (fun x hx => (List.mem_append.1 hx).elim (hn x) (hb.no (by decide) x))]
      simp only [partsM, part_of (hw.blanks hb), Option.bind_some, Option.map_some]
/-- Back: a list of points by commas is what the reading takes, up to a closing mark. -/
theorem ptsR_app : ∀ (n : Nat) (l : List UInt8), l.length ≤ n → ∀ (qs : List (Int × Int)) (r : List UInt8), pointsM l = some qs → r.head? = some 41 →
    ∃ p ps t, qs = p :: ps ∧ pointR (l ++ r) = some (p, t) ∧ ∀ f, t.length < f → ptsR f t = some (ps, r)
  | n, l, hn, qs, r, h, hr => by
    have hr32 : r.head? ≠ some 32 := by rw [hr]; decide
    have hr44 : ¬ r.head? = some 44 := by rw [hr]; decide
    obtain ⟨c, hc, hl⟩ := cut_split 44 l
    unfold pointsM at h
    rcases hl with rfl | ⟨m, rfl⟩
    · rw [cutL_none 44 l hc] at h
      cases hp : partM l with
      | none => simp only [partsM, hp] at h; cases h
      | some p =>
        simp only [partsM, hp, Option.bind_some, Option.map_some, Option.some.injEq] at h
        obtain ⟨b, hb, e⟩ := pointR_app (of_part hp) (.inr hr)
        refine ⟨p, [], b ++ r, h.symm, e, fun f hf => ?_⟩
        cases f with
        | zero => omega
        | succ f =>
          unfold ptsR
          rw [blk_at hb hr32, if_neg hr44]
    · rw [cutL_at 44 c m hc] at h
      cases hp : partM c with
      | none => simp only [partsM, hp] at h; cases h
      | some p =>
        cases hq : partsM (cutL 44 m) with
        | none => simp only [partsM, hp, hq] at h; cases h
        | some ps =>
          simp only [partsM, hp, hq, Option.bind_some, Option.map_some, Option.some.injEq] at h
          cases n with
          | zero => simp at hn
          | succ n =>
            obtain ⟨p2, ps2, t, e1, e2, e3⟩ := ptsR_app n m (by simp at hn; omega) ps r hq hr
            obtain ⟨b, hb, e⟩ := pointR_app (r := 44 :: (m ++ r)) (of_part hp) (.inl rfl)
            refine ⟨p, ps, b ++ 44 :: (m ++ r), h.symm, by rw [← e]; simp, fun f hf => ?_⟩
            cases f with
            | zero => omega
            | succ f =>
              unfold ptsR
              rw [blk_at hb (by simp), if_pos (by simp), List.drop_succ_cons, List.drop_zero, e2]
              simp only [Option.bind_some]
              obtain ⟨_, q1, _, _, q2⟩ := pointR_some e2
              rw [e3 f (by simp only [List.length_append, List.length_cons] at hf q2; omega), e1]
              rfl

end Go.Proofs.YtlhiahhpmjiioacGreatDoor
