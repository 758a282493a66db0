/-
  Several of my texts joined: the contracts of the functions that they name, each with the conditions that it states.
-/
import Derived.Test.YtlhiahhpmjiioadGreatDoorRdP
namespace Go.Proofs.YtlhiahhpmjiioadGreatDoor
open Go.RowKit

/-- Nothing but blanks. -/
def AllB (l : List UInt8) : Prop := ∀ b ∈ l, b = 32
theorem AllB.nil : AllB [] := by intro b h; cases h
theorem AllB.app {a b : List UInt8} (h : AllB a) (h' : AllB b) : AllB (a ++ b) := fun x hx => (List.mem_append.1 hx).elim (h x) (h' x)
theorem AllB.cons {l : List UInt8} (h : AllB l) : AllB (32 :: l) := fun x hx => (List.mem_cons.1 hx).elim id (h x)
theorem AllB.tail {b : UInt8} {l : List UInt8} (h : AllB (b :: l)) : b = 32 ∧ AllB l := ⟨h b (by simp), fun x hx => h x (by simp [hx])⟩
/-- The text behind the blanks in front. -/
def blk : List UInt8 → List UInt8
  | [] => []
  | b :: l => if b = 32 then blk l else b :: l
theorem blk_app {p : List UInt8} (h : AllB p) (r : List UInt8) : blk (p ++ r) = blk r := by
  induction p with
  | nil => rfl
  | cons b p ih =>
    obtain ⟨rfl, h2⟩ := h.tail
    rw [List.cons_append, blk, if_pos rfl, ih h2]
theorem blk_id {r : List UInt8} (h : r.head? ≠ some 32) : blk r = r := by
  cases r with
  | nil => rfl
  | cons b r => rw [blk, if_neg (by simpa using h)]
theorem blk_at {p r : List UInt8} (h : AllB p) (hr : r.head? ≠ some 32) : blk (p ++ r) = r := by rw [blk_app h, blk_id hr]
theorem blk_split : ∀ l : List UInt8, ∃ p, AllB p ∧ l = p ++ blk l ∧ (blk l).head? ≠ some 32
  | [] => ⟨[], AllB.nil, rfl, by simp [blk]⟩
  | b :: l => by
    by_cases hb : b = 32
    · subst hb
      obtain ⟨p, h1, h2, h3⟩ := blk_split l
      have e : blk (32 :: l) = blk l := by rw [blk, if_pos rfl]
      exact ⟨32 :: p, h1.cons, by rw [e, List.cons_append, ← h2], by rw [e]; exact h3⟩
    · have e : blk (b :: l) = b :: l := by rw [blk, if_neg hb]
      exact ⟨[], AllB.nil, by rw [e]; rfl, by rw [e]; simpa using hb⟩
theorem blk_all {l : List UInt8} (h : blk l = []) : AllB l := by
  obtain ⟨p, h1, h2, _⟩ := blk_split l
  rw [h, List.append_nil] at h2
  rw [h2]; exact h1
theorem blk_len (l : List UInt8) : (blk l).length ≤ l.length := by
  obtain ⟨p, _, h2, _⟩ := blk_split l
  have := congrArg List.length h2
  rw [List.length_append] at this; omega

/-- A byte that stands in a coordinate. -/
def isC (b : UInt8) : Prop := isD b = true ∨ b = 45 ∨ b = 46
theorem isC_not {b : UInt8} (h : isC b) : b ≠ 32 ∧ b ≠ 44 := by
  rcases h with h | rfl | rfl
  · have := isD_iff.1 h
    constructor <;> (rintro rfl; revert this; decide)
  · decide
  · decide
theorem decR_some {m p : Nat} {l r : List UInt8} {v : Nat} (h : decR m p l = some (v, r)) : ∃ c, l = c ++ r ∧ decR m p c = some (v, []) ∧ c ≠ [] ∧ (∀ b ∈ c, isD b = true ∨ b = 46) ∧ ∃ b c', c = b :: c' ∧ isD b = true := by
  unfold decR at h
  cases hd : digR m l with
  | none => rw [hd] at h; cases h
  | some xr =>
    obtain ⟨x, r1⟩ := xr
    rw [hd] at h
    simp only [Option.bind_some] at h
    obtain ⟨hl, ho⟩ := digR_some hd
    have hx := okNum_iff.1 ho
    obtain ⟨b0, x', hx0⟩ : ∃ b c', x = b :: c' := by
      cases x with
      | nil => simp at hx
      | cons b c => exact ⟨b, c, rfl⟩
    by_cases hh : r1.head? = some 46
    · rw [takeR_yes hh] at h
      simp only [if_true] at h
      cases hd2 : digR p (r1.drop 1) with
      | none => rw [hd2] at h; cases h
      | some ys =>
        obtain ⟨y, s⟩ := ys
        rw [hd2] at h
        simp only [Option.bind_some, Option.some.injEq, Prod.mk.injEq] at h
        obtain ⟨hv, rfl⟩ := h
        obtain ⟨hl2, ho2⟩ := digR_some hd2
        have hy := okNum_iff.1 ho2
        have hr : r1 = 46 :: (y ++ s) := by
          cases r1 with
          | nil => cases hh
          | cons b r => simp at hh; subst hh; simp at hl2; rw [hl2]
        refine ⟨x ++ 46 :: y, by rw [hl, hr]; simp, ?_, by simp, ?_, b0, x' ++ 46 :: y, by rw [hx0]; rfl, hx.2.2 b0 (by rw [hx0]; simp)⟩
        · unfold decR
          rw [digR_ok ho dot_head]
          simp only [Option.bind_some]
          rw [takeR_yes (by simp)]
          have := digR_ok (r := []) ho2 (by simp)
          rw [List.append_nil] at this
          simp only [if_true, List.drop_succ_cons, List.drop_zero, this, Option.bind_some, ← hv]
        · intro b hb
          rcases List.mem_append.1 hb with hb | hb
          · exact .inl (hx.2.2 b hb)
          · rcases List.mem_cons.1 hb with rfl | hb
            · exact .inr rfl
            · exact .inl (hy.2.2 b hb)
    · rw [takeR_no hh] at h
      simp only [Bool.false_eq_true, if_false, Option.some.injEq, Prod.mk.injEq] at h
      obtain ⟨hv, rfl⟩ := h
      refine ⟨x, hl, ?_, by rw [hx0]; simp, fun b hb => .inl (hx.2.2 b hb), b0, x', hx0, hx.2.2 b0 (by rw [hx0]; simp)⟩
      unfold decR
      have := digR_ok (r := []) ho (by simp)
      rw [List.append_nil] at this
      rw [this]
      simp only [Option.bind_some]
      rw [takeR_no (by simp)]
      simp only [Bool.false_eq_true, if_false, ← hv]
theorem decR_app {m p : Nat} {c r : List UInt8} {v : Nat} (h : decR m p c = some (v, [])) (hr : ∀ b, r.head? = some b → isD b = false ∧ b ≠ 46) : decR m p (c ++ r) = some (v, r) := by
  have hrd : ∀ b, r.head? = some b → isD b = false := fun b hb => (hr b hb).1
  have hr46 : ¬ r.head? = some 46 := fun e => (hr 46 e).2 rfl
  unfold decR at h
  cases hd : digR m c with
  | none => rw [hd] at h; cases h
  | some xr =>
    obtain ⟨x, r1⟩ := xr
    rw [hd] at h
    simp only [Option.bind_some] at h
    obtain ⟨hl, ho⟩ := digR_some hd
    by_cases hh : r1.head? = some 46
    · rw [takeR_yes hh] at h
      simp only [if_true] at h
      cases hd2 : digR p (r1.drop 1) with
      | none => rw [hd2] at h; cases h
      | some ys =>
        obtain ⟨y, s⟩ := ys
        rw [hd2] at h
        simp only [Option.bind_some, Option.some.injEq, Prod.mk.injEq] at h
        obtain ⟨hv, rfl⟩ := h
        obtain ⟨hl2, ho2⟩ := digR_some hd2
        rw [List.append_nil] at hl2
        have hr1 : r1 = 46 :: y := by
          cases r1 with
          | nil => cases hh
          | cons b r => simp at hh; subst hh; simp at hl2; rw [hl2]
        subst hl hr1
        unfold decR
        rw [List.append_assoc, List.cons_append, digR_ok ho dot_head]
        simp only [Option.bind_some]
        rw [takeR_yes (by simp)]
        simp only [if_true, List.drop_succ_cons, List.drop_zero, digR_ok ho2 hrd, Option.bind_some, ← hv]
    · rw [takeR_no hh] at h
      simp only [Bool.false_eq_true, if_false, Option.some.injEq, Prod.mk.injEq] at h
      obtain ⟨hv, rfl⟩ := h
      rw [List.append_nil] at hl
      subst hl
      unfold decR
      rw [digR_ok ho hrd]
      simp only [Option.bind_some]
      rw [takeR_no hr46]
      simp only [Bool.false_eq_true, if_false, ← hv]
theorem isD_ne45 {b : UInt8} (h : isD b = true) : b ≠ 45 := by
  rintro rfl; exact absurd h (by decide)
theorem coordR_some {l r : List UInt8} {v : Int} (h : coordR l = some (v, r)) : ∃ c, l = c ++ r ∧ fullC c = some v ∧ c ≠ [] ∧ ∀ b ∈ c, isC b := by
  unfold coordR at h
  by_cases hh : l.head? = some 45
  · rw [takeR_yes hh] at h
    simp only [if_true] at h
    cases hd : decR 6 9 (l.drop 1) with
    | none => rw [hd] at h; cases h
    | some x =>
      obtain ⟨u, r1⟩ := x
      rw [hd] at h
      simp only [Option.bind_some, Option.some.injEq, Prod.mk.injEq] at h
      obtain ⟨hv, rfl⟩ := h
      obtain ⟨c, h1, h2, h3, h4, _⟩ := decR_some hd
      have hl : l = 45 :: (c ++ r1) := by
        cases l with
        | nil => cases hh
        | cons b r => simp at hh; subst hh; simp at h1; rw [h1]
      refine ⟨45 :: c, hl, ?_, by simp, ?_⟩
      · unfold fullC coordR
        rw [takeR_yes (by simp)]
        simp only [if_true, List.drop_succ_cons, List.drop_zero, h2, Option.bind_some, ← hv]
      · intro b hb
        rcases List.mem_cons.1 hb with rfl | hb
        · exact .inr (.inl rfl)
        · rcases h4 b hb with h | h
          · exact .inl h
          · exact .inr (.inr h)
  · rw [takeR_no hh] at h
    simp only [Bool.false_eq_true, if_false] at h
    cases hd : decR 6 9 l with
    | none => rw [hd] at h; cases h
    | some x =>
      obtain ⟨u, r1⟩ := x
      rw [hd] at h
      simp only [Option.bind_some, Option.some.injEq, Prod.mk.injEq] at h
      obtain ⟨hv, rfl⟩ := h
      obtain ⟨c, h1, h2, h3, h4, b0, c', h5, h6⟩ := decR_some hd
      refine ⟨c, h1, ?_, h3, ?_⟩
      · unfold fullC coordR
        rw [takeR_no (by rw [h5]; simpa using isD_ne45 h6)]
        simp only [Bool.false_eq_true, if_false, h2, Option.bind_some, if_true, ← hv]
      · intro b hb
        rcases h4 b hb with h | h
        · exact .inl h
        · exact .inr (.inr h)
theorem fullC_some {c : List UInt8} {v : Int} (h : fullC c = some v) : coordR c = some (v, []) := by
  unfold fullC at h
  cases hc : coordR c with
  | none => rw [hc] at h; cases h
  | some x =>
    obtain ⟨u, r⟩ := x
    rw [hc] at h
    simp only [Option.bind_some] at h
    split at h
    · rename_i hr
      subst hr
      simp only [Option.some.injEq] at h
      rw [h]
    · cases h
theorem fullC_isC {c : List UInt8} {v : Int} (h : fullC c = some v) : c ≠ [] ∧ ∀ b ∈ c, isC b := by
  obtain ⟨c', h1, _, h3, h4⟩ := coordR_some (fullC_some h)
  rw [List.append_nil] at h1
  subst h1
  exact ⟨h3, h4⟩
theorem coordR_app {c r : List UInt8} {v : Int} (h : fullC c = some v) (hr : ∀ b, r.head? = some b → isD b = false ∧ b ≠ 46) : coordR (c ++ r) = some (v, r) := by
  have h := fullC_some h
  unfold coordR at h
  have hne : c ≠ [] := by
    rintro rfl
    rw [takeR_no (by simp)] at h
    have : decR 6 9 [] = none := rfl
    simp only [this] at h
    cases h
  have hhd : (c ++ r).head? = c.head? := by
    cases c with
    | nil => exact absurd rfl hne
    | cons b c => rfl
  unfold coordR
  by_cases hh : c.head? = some 45
  · rw [takeR_yes hh] at h
    rw [takeR_yes (by rw [hhd]; exact hh)]
    have hdr : (c ++ r).drop 1 = c.drop 1 ++ r := by
      cases c with
      | nil => exact absurd rfl hne
      | cons b c => rfl
    simp only [if_true] at h ⊢
    rw [hdr]
    cases hd : decR 6 9 (c.drop 1) with
    | none => rw [hd] at h; cases h
    | some x =>
      obtain ⟨u, r1⟩ := x
      rw [hd] at h
      simp only [Option.bind_some, Option.some.injEq, Prod.mk.injEq] at h
      obtain ⟨hv, rfl⟩ := h
      rw [decR_app hd hr]
      simp only [Option.bind_some, hv]
  · rw [takeR_no hh] at h
    rw [takeR_no (by rw [hhd]; exact hh)]
    simp only [Bool.false_eq_true, if_false] at h ⊢
    cases hd : decR 6 9 c with
    | none => rw [hd] at h; cases h
    | some x =>
      obtain ⟨u, r1⟩ := x
      rw [hd] at h
      simp only [Option.bind_some, Option.some.injEq, Prod.mk.injEq] at h
      obtain ⟨hv, rfl⟩ := h
      rw [decR_app hd hr]
      simp only [Option.bind_some, hv]

/-- The words of a text. -/
def wordsM (l : List UInt8) : List (List UInt8) := (cutL 32 l).filter fun x => !x.isEmpty
theorem words_nil : wordsM [] = [] := rfl
theorem words_at {p : List UInt8} (h0 : p ≠ []) (h : ∀ b ∈ p, b ≠ 32) (r : List UInt8) : wordsM (p ++ 32 :: r) = p :: wordsM r := by
  unfold wordsM
  rw [cutL_at 32 p r h, List.filter_cons_of_pos]
  cases p with
  | nil => exact absurd rfl h0
  | cons b p => rfl
theorem words_one {p : List UInt8} (h0 : p ≠ []) (h : ∀ b ∈ p, b ≠ 32) : wordsM p = [p] := by
  unfold wordsM
  rw [cutL_none 32 p h]
  cases p with
  | nil => exact absurd rfl h0
  | cons b p => rfl
theorem words_blank (r : List UInt8) : wordsM (32 :: r) = wordsM r := by
  unfold wordsM
  have : cutL 32 (32 :: r) = [] :: cutL 32 r := by simp [cutL]
  rw [this]; rfl
theorem words_app {p : List UInt8} (h : AllB p) (r : List UInt8) : wordsM (p ++ r) = wordsM r := by
  induction p with
  | nil => rfl
  | cons b p ih =>
    obtain ⟨rfl, h2⟩ := h.tail
    rw [List.cons_append, words_blank, ih h2]
theorem words_all {p : List UInt8} (h : AllB p) : wordsM p = [] := by
  have := words_app h []
  rw [List.append_nil] at this
  exact this
theorem words_then {p q : List UInt8} (h0 : p ≠ []) (h : ∀ b ∈ p, b ≠ 32) (hq : q = [] ∨ q.head? = some 32) : wordsM (p ++ q) = p :: wordsM q := by
  rcases hq with rfl | hq
  · rw [List.append_nil, words_one h0 h]; rfl
  · cases q with
    | nil => cases hq
    | cons b q =>
      simp at hq; subst hq
      rw [words_at h0 h, words_blank]
/-- The first word, and what comes behind it. -/
theorem words_first (l : List UInt8) : AllB l ∨ ∃ b p r, AllB b ∧ p ≠ [] ∧ (∀ x ∈ p, x ≠ 32) ∧ l = b ++ (p ++ r) ∧ (r = [] ∨ r.head? = some 32) ∧ wordsM l = p :: wordsM r := by
  obtain ⟨b, h1, h2, h3⟩ := blk_split l
  cases hb : blk l with
  | nil => exact .inl (blk_all hb)
  | cons c m =>
    rw [hb] at h2 h3
    obtain ⟨p, hp, hr⟩ := cut_split 32 (c :: m)
    have hne : p ≠ [] := by
      rintro rfl
      rcases hr with hr | ⟨r, hr⟩
      · cases hr
      · simp at hr; exact h3 (by simp [hr.1])
    rcases hr with hr | ⟨r, hr⟩
    · refine .inr ⟨b, p, [], h1, hne, hp, by rw [h2, hr]; simp, .inl rfl, ?_⟩
      rw [h2, hr, words_app h1, words_one hne hp]; rfl
    · refine .inr ⟨b, p, 32 :: r, h1, hne, hp, by rw [h2, hr], .inr rfl, ?_⟩
      rw [h2, hr, words_app h1, words_at hne hp, words_blank]

/-- The point in a part of the text between two commas. -/
def partM (l : List UInt8) : Option (Int × Int) :=
  match wordsM l with
  | [a, b] => (fullC a).bind fun x => (fullC b).map fun y => (x, y)
  | _ => none
/-- A point as it is written: blanks, a coordinate, blanks, a coordinate, blanks. -/
def PtW (l : List UInt8) (p : Int × Int) : Prop :=
  ∃ b1 c1 b2 c2 b3, AllB b1 ∧ AllB b2 ∧ AllB b3 ∧ b2 ≠ [] ∧ fullC c1 = some p.1 ∧ fullC c2 = some p.2 ∧ l = b1 ++ (c1 ++ (b2 ++ (c2 ++ b3)))
theorem head_blank {b r : List UInt8} (h : AllB b) (h0 : b ≠ []) : (b ++ r).head? = some 32 := by
  cases b with
  | nil => exact absurd rfl h0
  | cons x b => obtain ⟨rfl, _⟩ := h.tail; rfl
theorem part_of {l : List UInt8} {p : Int × Int} (h : PtW l p) : partM l = some p := by
  obtain ⟨b1, c1, b2, c2, b3, h1, h2, h3, h0, f1, f2, rfl⟩ := h
  obtain ⟨n1, i1⟩ := fullC_isC f1
  obtain ⟨n2, i2⟩ := fullC_isC f2
  have e : wordsM (b1 ++ (c1 ++ (b2 ++ (c2 ++ b3)))) = [c1, c2] := by
    rw [words_app h1, words_then n1 (fun b hb => (isC_not (i1 b hb)).1) (.inr (head_blank h2 h0)), words_app h2, words_then n2 (fun b hb => (isC_not (i2 b hb)).1), words_all h3]
    cases b3 with
    | nil => exact .inl rfl
    | cons x b3 => exact .inr (by obtain ⟨rfl, _⟩ := h3.tail; rfl)
  unfold partM
  rw [e]
  simp only [f1, f2, Option.bind_some, Option.map_some]
theorem of_part {l : List UInt8} {p : Int × Int} (h : partM l = some p) : PtW l p := by
  unfold partM at h
  rcases words_first l with hl | ⟨b1, c1, r1, h1, n1, i1, rfl, hr1, hw⟩
  · rw [words_all hl] at h; cases h
  rw [hw] at h
  rcases words_first r1 with hl | ⟨b2, c2, r2, h2, n2, i2, rfl, hr2, hw2⟩
  · rw [words_all hl] at h; cases h
  rw [hw2] at h
  rcases words_first r2 with hl | ⟨b3, c3, r3, h3, n3, i3, rfl, hr3, hw3⟩
  · rw [words_all hl] at h
    simp only at h
    cases f1 : fullC c1 with
    | none => rw [f1] at h; cases h
    | some x =>
      cases f2 : fullC c2 with
      | none => rw [f1, f2] at h; cases h
      | some y =>
        rw [f1, f2] at h
        simp only [Option.bind_some, Option.map_some, Option.some.injEq] at h
        subst h
        refine ⟨b1, c1, b2, c2, r2, h1, h2, hl, ?_, f1, f2, rfl⟩
        rintro rfl
        rcases hr1 with hr1 | hr1
        · simp at hr1; exact n2 hr1.1
        · cases c2 with
          | nil => exact n2 rfl
          | cons x c => simp at hr1; exact i2 x (by simp) hr1
  · rw [hw3] at h; cases h

end Go.Proofs.YtlhiahhpmjiioadGreatDoor

namespace Go.Proofs.YtlhiahhpmjiioadGreatDoor
open Go.RowKit

/-- A point, read from the front on. -/
def pointR (l : List UInt8) : Option ((Int × Int) × List UInt8) :=
  (coordR (blk l)).bind fun x => if x.2.head? = some 32 then (coordR (blk x.2)).map fun y => ((x.1, y.1), y.2) else none
/-- The points behind the first one, and the text behind them and the blanks. -/
def ptsR : Nat → List UInt8 → Option (List (Int × Int) × List UInt8)
  | 0, _ => none
  | f + 1, l => if (blk l).head? = some 44 then (pointR ((blk l).drop 1)).bind fun p => (ptsR f p.2).map fun q => (p.1 :: q.1, q.2) else some ([], blk l)
/-- So many marks, each behind blanks. -/
def openR (c : UInt8) : Nat → List UInt8 → Option (List UInt8)
  | 0, l => some l
  | n + 1, l => if (blk l).head? = some c then openR c n ((blk l).drop 1) else none
def preB (p l : List UInt8) : Bool := decide (l.take p.length = p)
def nmP : List UInt8 := [80, 79, 73, 78, 84]
def nmM : List UInt8 := [77, 85, 76, 84, 73, 80, 79, 73, 78, 84]
def nmL : List UInt8 := [76, 73, 78, 69, 83, 84, 82, 73, 78, 71]
def nmR : List UInt8 := [80, 79, 76, 89, 71, 79, 78]
/-- The kind whose name stands in front. -/
def kindR (l : List UInt8) : Option (Int × List UInt8) :=
  if preB nmP l then some (1, l.drop 5) else if preB nmM l then some (2, l.drop 10) else if preB nmL l then some (3, l.drop 10) else if preB nmR l then some (4, l.drop 7) else none
def parK (k : Int) : Nat := if k = 4 then 2 else 1
/-- A shape, read from the front on. -/
def shapeR (l : List UInt8) : Option (Int × List (Int × Int)) :=
  (kindR (blk l)).bind fun k => (openR 40 (parK k.1) k.2).bind fun t => (pointR t).bind fun p => (ptsR (p.2.length + 1) p.2).bind fun q => (openR 41 (parK k.1) q.2).bind fun u => if blk u = [] then some (k.1, p.1 :: q.1) else none

/-- Without blanks behind. -/
def endB (l : List UInt8) : List UInt8 := (blk l.reverse).reverse
def stripM (l : List UInt8) : List UInt8 := endB (blk l)
def innerM (l : List UInt8) : Option (List UInt8) :=
  if 2 ≤ (stripM l).length ∧ (stripM l).head? = some 40 ∧ (stripM l).getLast? = some 41 then some (((stripM l).drop 1).dropLast) else none
/-- The points of a list. -/
def partsM : List (List UInt8) → Option (List (Int × Int))
  | [] => some []
  | x :: xs => (partM x).bind fun p => (partsM xs).map fun q => p :: q
def pointsM (l : List UInt8) : Option (List (Int × Int)) := partsM (cutL 44 l)
/-- A shape, read by stripping and cutting. -/
def parseM (l : List UInt8) : Option (Int × List (Int × Int)) :=
  (kindR (stripM l)).bind fun k => (innerM k.2).bind fun i => (if k.1 = 4 then innerM i else some i).bind fun j => (pointsM j).map fun q => (k.1, q)

theorem pointR_some {l r : List UInt8} {p : Int × Int} (h : pointR l = some (p, r)) : ∃ c, l = c ++ r ∧ PtW c p ∧ (∀ b ∈ c, b ≠ 44) ∧ r.length < l.length := by
  unfold pointR at h
  obtain ⟨b1, h1, e1, _⟩ := blk_split l
  cases hc : coordR (blk l) with
  | none => rw [hc] at h; cases h
  | some x =>
    obtain ⟨x, r1⟩ := x
    rw [hc] at h
    simp only [Option.bind_some] at h
    split at h
    · rename_i hh
      obtain ⟨b2, h2, e2, _⟩ := blk_split r1
      cases hd : coordR (blk r1) with
      | none => rw [hd] at h; cases h
      | some y =>
        obtain ⟨y, r2⟩ := y
        rw [hd] at h
        simp only [Option.map_some, Option.some.injEq, Prod.mk.injEq] at h
        obtain ⟨hp, rfl⟩ := h
        obtain ⟨c1, q1, f1, n1, i1⟩ := coordR_some hc
        obtain ⟨c2, q2, f2, n2, i2⟩ := coordR_some hd
        have hne : b2 ≠ [] := by
          rintro rfl
          rw [List.nil_append] at e2
          rw [e2, q2] at hh
          cases c2 with
          | nil => exact n2 rfl
          | cons z c => simp at hh; exact (isC_not (i2 z (by simp))).1 hh
        have hl : l = (b1 ++ (c1 ++ (b2 ++ (c2 ++ [])))) ++ r2 := by
          rw [e1, q1, e2, q2]; simp
        refine ⟨_, hl, ⟨b1, c1, b2, c2, [], h1, h2, AllB.nil, hne, by rw [← hp]; exact f1, by rw [← hp]; exact f2, rfl⟩, ?_, ?_⟩
        · intro b hb
          simp only [List.append_nil, List.mem_append] at hb
          rcases hb with hb | hb | hb | hb
          · rw [h1 b hb]; decide
          · exact (isC_not (i1 b hb)).2
          · rw [h2 b hb]; decide
          · exact (isC_not (i2 b hb)).2
        · have := congrArg List.length hl
          have h0 : 0 < c1.length := List.length_pos_iff.2 n1
          simp only [List.length_append] at this
          omega
    · cases h
theorem mark_not {b : UInt8} (h : b = 32 ∨ b = 44 ∨ b = 41) : isD b = false ∧ b ≠ 46 := by
  rcases h with rfl | rfl | rfl <;> decide
theorem head_isC {c r : List UInt8} {v : Int} (h : fullC c = some v) : (c ++ r).head? ≠ some 32 := by
  obtain ⟨n, i⟩ := fullC_isC h
  cases c with
  | nil => exact absurd rfl n
  | cons b c => intro e; simp at e; exact (isC_not (i b (by simp))).1 e
theorem pointR_app {l r : List UInt8} {p : Int × Int} (h : PtW l p) (hr : r.head? = some 44 ∨ r.head? = some 41) : ∃ b, AllB b ∧ pointR (l ++ r) = some (p, b ++ r) := by
  obtain ⟨b1, c1, b2, c2, b3, h1, h2, h3, h0, f1, f2, rfl⟩ := h
  refine ⟨b3, h3, ?_⟩
  unfold pointR
  have e : b1 ++ (c1 ++ (b2 ++ (c2 ++ b3))) ++ r = b1 ++ (c1 ++ (b2 ++ (c2 ++ (b3 ++ r)))) := by simp
  rw [e, blk_at h1 (head_isC f1), coordR_app f1 (fun b hb => mark_not (.inl (by rw [head_blank h2 h0] at hb; simpa using hb.symm)))]
  simp only [Option.bind_some]
  rw [if_pos (head_blank h2 h0), blk_at h2 (head_isC f2), coordR_app f2 (fun b hb => ?_)]
  · rfl
  · cases b3 with
    | nil => 
      rw [List.nil_append] at hb
      rcases hr with hr | hr
      · rw [hr] at hb; exact mark_not (.inr (.inl (by simpa using hb.symm)))
      · rw [hr] at hb; exact mark_not (.inr (.inr (by simpa using hb.symm)))
    | cons x b3 =>
      obtain ⟨rfl, _⟩ := h3.tail
      simp at hb
      exact mark_not (.inl hb.symm)
theorem PtW.blanks {l b : List UInt8} {p : Int × Int} (h : PtW l p) (hb : AllB b) : PtW (l ++ b) p := by
  obtain ⟨b1, c1, b2, c2, b3, h1, h2, h3, h0, f1, f2, rfl⟩ := h
  exact ⟨b1, c1, b2, c2, b3 ++ b, h1, h2, h3.app hb, h0, f1, f2, by simp⟩
theorem AllB.no {b : List UInt8} (h : AllB b) {c : UInt8} (hc : c ≠ 32) : ∀ x ∈ b, x ≠ c := fun x hx => by rw [h x hx]; exact hc.symm
/-- Forward: what the points' reading took is a list of points by commas. -/
theorem ptsR_some : ∀ (f : Nat) (l r : List UInt8) (ps : List (Int × Int)), ptsR f l = some (ps, r) →
    ∃ c, l = c ++ r ∧ ∀ c0 p, PtW c0 p → (∀ b ∈ c0, b ≠ 44) → pointsM (c0 ++ c) = some (p :: ps)
  | 0, _, _, _, h => by cases h
  | f + 1, l, r, ps, h => by
    obtain ⟨b, hb, e, _⟩ := blk_split l
    unfold ptsR at h
    split at h
    · rename_i hh
      cases hp : pointR ((blk l).drop 1) with
      | none => rw [hp] at h; cases h
      | some x =>
        obtain ⟨p, t⟩ := x
        rw [hp] at h
        simp only [Option.bind_some] at h
        cases hq : ptsR f t with
        | none => rw [hq] at h; cases h
        | some y =>
          obtain ⟨qs, u⟩ := y
          rw [hq] at h
          simp only [Option.map_some, Option.some.injEq, Prod.mk.injEq] at h
          obtain ⟨rfl, rfl⟩ := h
          obtain ⟨c1, e1, w1, n1, _⟩ := pointR_some hp
          obtain ⟨c2, e2, w2⟩ := ptsR_some f t u qs hq
          have e3 : blk l = 44 :: (c1 ++ (c2 ++ u)) := by
            cases hbl : blk l with
            | nil => rw [hbl] at hh; cases hh
            | cons z m => rw [hbl] at hh e1; simp at hh; subst hh; simp at e1; rw [e1, e2]
          refine ⟨b ++ 44 :: (c1 ++ c2), by rw [e, e3]; simp, fun c0 p0 hw hn => ?_⟩
          unfold pointsM
          rw [show c0 ++ (b ++ 44 :: (c1 ++ c2)) = (c0 ++ b) ++ 44 :: (c1 ++ c2) by simp]
          rw [cutL_at 44 (c0 ++ b) _ (fun x hx => (List.mem_append.1 hx).elim (hn x) (hb.no (by decide) x))]
          have := w2 c1 p w1 n1
          unfold pointsM at this
          simp only [partsM, part_of (hw.blanks hb), Option.bind_some, this, Option.map_some]
    · simp only [Option.some.injEq, Prod.mk.injEq] at h
      obtain ⟨rfl, rfl⟩ := h
      refine ⟨b, e, fun c0 p0 hw hn => ?_⟩
      unfold pointsM
      rw [cutL_none 44 _ (fun x hx => (List.mem_append.1 hx).elim (hn x) (hb.no (by decide) x))]
      simp only [partsM, part_of (hw.blanks hb), Option.bind_some, Option.map_some]
/-- Back: a list of points by commas is what the reading takes, up to a closing mark. -/
theorem ptsR_app : ∀ (n : Nat) (l : List UInt8), l.length ≤ n → ∀ (qs : List (Int × Int)) (r : List UInt8), pointsM l = some qs → r.head? = some 41 →
    ∃ p ps t, qs = p :: ps ∧ pointR (l ++ r) = some (p, t) ∧ ∀ f, t.length < f → ptsR f t = some (ps, r)
  | n, l, hn, qs, r, h, hr => by
    have hr32 : r.head? ≠ some 32 := by rw [hr]; decide
    have hr44 : ¬ r.head? = some 44 := by rw [hr]; decide
    obtain ⟨c, hc, hl⟩ := cut_split 44 l
    unfold pointsM at h
    rcases hl with rfl | ⟨m, rfl⟩
    · rw [cutL_none 44 l hc] at h
      cases hp : partM l with
      | none => simp only [partsM, hp] at h; cases h
      | some p =>
        simp only [partsM, hp, Option.bind_some, Option.map_some, Option.some.injEq] at h
        obtain ⟨b, hb, e⟩ := pointR_app (of_part hp) (.inr hr)
        refine ⟨p, [], b ++ r, h.symm, e, fun f hf => ?_⟩
        cases f with
        | zero => omega
        | succ f =>
          unfold ptsR
          rw [blk_at hb hr32, if_neg hr44]
    · rw [cutL_at 44 c m hc] at h
      cases hp : partM c with
      | none => simp only [partsM, hp] at h; cases h
      | some p =>
        cases hq : partsM (cutL 44 m) with
        | none => simp only [partsM, hp, hq] at h; cases h
        | some ps =>
          simp only [partsM, hp, hq, Option.bind_some, Option.map_some, Option.some.injEq] at h
          cases n with
          | zero => simp at hn
          | succ n =>
            obtain ⟨p2, ps2, t, e1, e2, e3⟩ := ptsR_app n m (by simp at hn; omega) ps r hq hr
            obtain ⟨b, hb, e⟩ := pointR_app (r := 44 :: (m ++ r)) (of_part hp) (.inl rfl)
            refine ⟨p, ps, b ++ 44 :: (m ++ r), h.symm, by rw [← e]; simp, fun f hf => ?_⟩
            cases f with
            | zero => omega
            | succ f =>
              unfold ptsR
              rw [blk_at hb (by simp), if_pos (by simp), List.drop_succ_cons, List.drop_zero, e2]
              simp only [Option.bind_some]
              obtain ⟨_, q1, _, _, q2⟩ := pointR_some e2
              rw [e3 f (by simp only [List.length_append, List.length_cons] at hf q2; omega), e1]
              rfl

end Go.Proofs.YtlhiahhpmjiioadGreatDoor

namespace Go.Proofs.YtlhiahhpmjiioadGreatDoor
open Go.RowKit

theorem preB_iff {p l : List UInt8} : preB p l = true ↔ ∃ r, l = p ++ r := by
  unfold preB
  rw [decide_eq_true_eq]
  constructor
  · intro h
    exact ⟨l.drop p.length, by have := List.take_append_drop p.length l; rw [h] at this; exact this.symm⟩
  · rintro ⟨r, rfl⟩
    simp
theorem preB_no {p l : List UInt8} (h : ¬ ∃ r, l = p ++ r) : preB p l = false := by
  cases hb : preB p l with
  | false => rfl
  | true => exact absurd (preB_iff.1 hb) h
/-- The name of a kind. -/
def nmK (k : Int) : List UInt8 := if k = 1 then nmP else if k = 2 then nmM else if k = 3 then nmL else nmR
theorem kindR_at (k : Int) (h1 : 1 ≤ k) (h4 : k ≤ 4) (t : List UInt8) : kindR (nmK k ++ t) = some (k, t) := by
  rcases (by omega : k = 1 ∨ k = 2 ∨ k = 3 ∨ k = 4) with rfl | rfl | rfl | rfl <;> rfl
theorem kindR_some {l t : List UInt8} {k : Int} (h : kindR l = some (k, t)) : 1 ≤ k ∧ k ≤ 4 ∧ l = nmK k ++ t := by
  unfold kindR at h
  split at h
  · rename_i hp
    obtain ⟨r, rfl⟩ := preB_iff.1 hp
    simp only [Option.some.injEq, Prod.mk.injEq] at h
    obtain ⟨rfl, rfl⟩ := h
    exact ⟨by omega, by omega, rfl⟩
  · split at h
    · rename_i hp
      obtain ⟨r, rfl⟩ := preB_iff.1 hp
      simp only [Option.some.injEq, Prod.mk.injEq] at h
      obtain ⟨rfl, rfl⟩ := h
      exact ⟨by omega, by omega, rfl⟩
    · split at h
      · rename_i hp
        obtain ⟨r, rfl⟩ := preB_iff.1 hp
        simp only [Option.some.injEq, Prod.mk.injEq] at h
        obtain ⟨rfl, rfl⟩ := h
        exact ⟨by omega, by omega, rfl⟩
      · split at h
        · rename_i hp
          obtain ⟨r, rfl⟩ := preB_iff.1 hp
          simp only [Option.some.injEq, Prod.mk.injEq] at h
          obtain ⟨rfl, rfl⟩ := h
          exact ⟨by omega, by omega, rfl⟩
        · cases h
theorem nmK_head (k : Int) (t : List UInt8) : (nmK k ++ t).head? ≠ some 32 := by
  unfold nmK
  split
  · simp [nmP]
  · split
    · simp [nmM]
    · split
      · simp [nmL]
      · simp [nmR]
theorem ptsR_head : ∀ (f : Nat) (l r : List UInt8) (ps : List (Int × Int)), ptsR f l = some (ps, r) → r.head? ≠ some 32
  | 0, _, _, _, h => by cases h
  | f + 1, l, r, ps, h => by
    obtain ⟨b, hb, e, h32⟩ := blk_split l
    unfold ptsR at h
    split at h
    · cases hp : pointR ((blk l).drop 1) with
      | none => rw [hp] at h; cases h
      | some x =>
        rw [hp] at h
        simp only [Option.bind_some] at h
        cases hq : ptsR f x.2 with
        | none => rw [hq] at h; cases h
        | some y =>
          rw [hq] at h
          simp only [Option.map_some, Option.some.injEq, Prod.mk.injEq] at h
          rw [← h.2]
          exact ptsR_head f x.2 y.2 y.1 hq
    · simp only [Option.some.injEq, Prod.mk.injEq] at h
      rw [← h.2]; exact h32
theorem no_blank {b r : List UInt8} (hb : AllB b) (h : (b ++ r).head? ≠ some 32) : b = [] := by
  cases b with
  | nil => rfl
  | cons x b => obtain ⟨rfl, _⟩ := hb.tail; exact absurd rfl h

theorem getLast_app {l : List UInt8} (h : l ≠ []) (p : List UInt8) : (p ++ l).getLast? = l.getLast? := by
  rw [List.getLast?_append]
  cases hl : l.getLast? with
  | none => rw [List.getLast?_eq_none_iff] at hl; exact absurd hl h
  | some x => rfl
theorem AllB.rev {b : List UInt8} (h : AllB b) : AllB b.reverse := fun x hx => h x (List.mem_reverse.1 hx)
theorem endB_at {l b : List UInt8} (hb : AllB b) (hl : l.getLast? ≠ some 32) : endB (l ++ b) = l := by
  unfold endB
  rw [List.reverse_append, blk_at hb.rev (by rw [List.head?_reverse]; exact hl), List.reverse_reverse]
theorem endB_split (l : List UInt8) : ∃ b, AllB b ∧ l = endB l ++ b ∧ (endB l).getLast? ≠ some 32 := by
  obtain ⟨b, h1, h2, h3⟩ := blk_split l.reverse
  refine ⟨b.reverse, h1.rev, ?_, ?_⟩
  · have := congrArg List.reverse h2
    rw [List.reverse_reverse, List.reverse_append] at this
    exact this
  · unfold endB
    rw [List.getLast?_reverse]; exact h3
theorem strip_at {b l b' : List UInt8} (hb : AllB b) (hb' : AllB b') (h1 : l.head? ≠ some 32) (h2 : l.getLast? ≠ some 32) (h0 : l ≠ []) : stripM (b ++ (l ++ b')) = l := by
  unfold stripM
  rw [blk_at hb ?_, endB_at hb' h2]
  cases l with
  | nil => exact absurd rfl h0
  | cons x l => exact h1
theorem strip_split (l : List UInt8) : ∃ b b', AllB b ∧ AllB b' ∧ l = b ++ (stripM l ++ b') := by
  obtain ⟨b, h1, h2, _⟩ := blk_split l
  obtain ⟨b', h3, h4, _⟩ := endB_split (blk l)
  exact ⟨b, b', h1, h3, by unfold stripM; rw [← h4, ← h2]⟩
theorem inner_at {b i b' : List UInt8} (hb : AllB b) (hb' : AllB b') : innerM (b ++ (40 :: (i ++ [41]) ++ b')) = some i := by
  have hl : (40 :: (i ++ [41]) : List UInt8).getLast? = some 41 := by
    rw [← List.cons_append, getLast_app (by simp)]; rfl
  have hs : stripM (b ++ (40 :: (i ++ [41]) ++ b')) = 40 :: (i ++ [41]) := strip_at hb hb' (by simp) (by rw [hl]; decide) (by simp)
  unfold innerM
  rw [hs, if_pos ⟨by simp, rfl, hl⟩]
  simp
theorem inner_some {l i : List UInt8} (h : innerM l = some i) : ∃ b b', AllB b ∧ AllB b' ∧ l = b ++ (40 :: (i ++ [41]) ++ b') := by
  unfold innerM at h
  split at h
  · rename_i hc
    obtain ⟨h2, hh, hg⟩ := hc
    obtain ⟨b, b', q1, q2, q3⟩ := strip_split l
    generalize stripM l = s at *
    simp only [Option.some.injEq] at h
    refine ⟨b, b', q1, q2, ?_⟩
    rw [q3]
    cases s with
    | nil => cases hh
    | cons x s =>
      simp at hh; subst hh
      have hs : s ≠ [] := by rintro rfl; simp at h2
      have hg2 : s.getLast? = some 41 := by
        rw [show (40 :: s : List UInt8) = [40] ++ s from rfl, getLast_app hs] at hg; exact hg
      have he : s.dropLast ++ [41] = s := by
        have := List.dropLast_concat_getLast hs
        rw [List.getLast?_eq_some_getLast hs, Option.some.injEq] at hg2
        rw [hg2] at this; exact this
      simp only [List.drop_succ_cons, List.drop_zero] at h
      rw [← h, he]
  · cases h

/-- The marks ahead of the points, and behind them. -/
def Ahead (n : Nat) (l r : List UInt8) : Prop := (n = 1 ∧ ∃ b, AllB b ∧ l = b ++ 40 :: r) ∨ (n = 2 ∧ ∃ b b', AllB b ∧ AllB b' ∧ l = b ++ 40 :: (b' ++ 40 :: r))
theorem openR_one {c : UInt8} {l r : List UInt8} (h : openR c 1 l = some r) : ∃ b, AllB b ∧ l = b ++ c :: r := by
  obtain ⟨b, h1, h2, _⟩ := blk_split l
  unfold openR at h
  split at h
  · rename_i hh
    simp only [openR, Option.some.injEq] at h
    refine ⟨b, h1, ?_⟩
    cases hb : blk l with
    | nil => rw [hb] at hh; cases hh
    | cons x m => rw [hb] at hh h h2; simp at hh; subst hh; simp at h; rw [h2, h]
  · cases h
theorem openR_two {c : UInt8} {l r : List UInt8} (h : openR c 2 l = some r) : ∃ b b', AllB b ∧ AllB b' ∧ l = b ++ c :: (b' ++ c :: r) := by
  obtain ⟨b, h1, h2, _⟩ := blk_split l
  unfold openR at h
  split at h
  · rename_i hh
    obtain ⟨b', h3, h4⟩ := openR_one h
    refine ⟨b, b', h1, h3, ?_⟩
    cases hb : blk l with
    | nil => rw [hb] at hh; cases hh
    | cons x m => rw [hb] at hh h2 h4; simp at hh; subst hh; simp at h4; rw [h2, h4]
  · cases h
theorem openR_app {c : UInt8} (hc : c ≠ 32) {b : List UInt8} (hb : AllB b) (n : Nat) (r : List UInt8) : openR c (n + 1) (b ++ c :: r) = openR c n r := by
  have e : blk (b ++ c :: r) = c :: r := blk_at hb (by simpa using hc)
  rw [openR, e]
  simp

theorem shape_forward {l : List UInt8} {v : Int × List (Int × Int)} (h : shapeR l = some v) : parseM l = some v := by
  obtain ⟨b0, hb0, e0, _⟩ := blk_split l
  unfold shapeR at h
  cases hk : kindR (blk l) with
  | none => rw [hk] at h; cases h
  | some x =>
    obtain ⟨k, t⟩ := x
    rw [hk] at h
    simp only [Option.bind_some] at h
    obtain ⟨k1, k4, ek⟩ := kindR_some hk
    cases ho : openR 40 (parK k) t with
    | none => rw [ho] at h; cases h
    | some t1 =>
      rw [ho] at h
      simp only [Option.bind_some] at h
      cases hp : pointR t1 with
      | none => rw [hp] at h; cases h
      | some y =>
        obtain ⟨p, t2⟩ := y
        rw [hp] at h
        simp only [Option.bind_some] at h
        cases hq : ptsR (t2.length + 1) t2 with
        | none => rw [hq] at h; cases h
        | some z =>
          obtain ⟨ps, t3⟩ := z
          rw [hq] at h
          simp only [Option.bind_some] at h
          cases hc : openR 41 (parK k) t3 with
          | none => rw [hc] at h; cases h
          | some u =>
            rw [hc] at h
            simp only [Option.bind_some] at h
            split at h
            · rename_i hu
              have hu := blk_all hu
              simp only [Option.some.injEq] at h
              subst h
              obtain ⟨c1, e1, w1, n1, _⟩ := pointR_some hp
              obtain ⟨c2, e2, w2⟩ := ptsR_some _ _ _ _ hq
              have hX := w2 c1 p w1 n1
              have h32 := ptsR_head _ _ _ _ hq
              by_cases h4 : k = 4
              · subst h4
                obtain ⟨b1, b2, q1, q2, q3⟩ := openR_two ho
                obtain ⟨b3, b4, q4, q5, q6⟩ := openR_two hc
                rw [q6] at h32
                have hb3 := no_blank q4 h32
                subst hb3
                have el : l = b0 ++ ((nmK 4 ++ (b1 ++ (40 :: ((b2 ++ (40 :: ((c1 ++ c2) ++ [41]) ++ b4)) ++ [41]) ++ []))) ++ u) := by
                  rw [e0, ek, q3, e1, e2, q6]; simp
                have eg : (nmK 4 ++ (b1 ++ (40 :: ((b2 ++ (40 :: ((c1 ++ c2) ++ [41]) ++ b4)) ++ [41]) ++ []))).getLast? ≠ some 32 := by
                  rw [show nmK 4 ++ (b1 ++ (40 :: ((b2 ++ (40 :: ((c1 ++ c2) ++ [41]) ++ b4)) ++ [41]) ++ [])) = (nmK 4 ++ (b1 ++ (40 :: (b2 ++ (40 :: ((c1 ++ c2) ++ [41]) ++ b4))))) ++ [41] by simp, getLast_app (by simp)]
                  decide
                unfold parseM
                rw [el, strip_at hb0 hu (nmK_head _ _) eg (by simp), kindR_at 4 (by omega) (by omega)]
                simp only [Option.bind_some, if_true]
                rw [inner_at q1 AllB.nil]
                simp only [Option.bind_some]
                rw [inner_at q2 q5]
                simp only [Option.bind_some, hX, Option.map_some]
              · have hn : parK k = 1 := if_neg h4
                rw [hn] at ho hc
                obtain ⟨b1, q1, q3⟩ := openR_one ho
                obtain ⟨b3, q4, q6⟩ := openR_one hc
                rw [q6] at h32
                have hb3 := no_blank q4 h32
                subst hb3
                have el : l = b0 ++ ((nmK k ++ (b1 ++ (40 :: ((c1 ++ c2) ++ [41]) ++ []))) ++ u) := by
                  rw [e0, ek, q3, e1, e2, q6]; simp
                have eg : (nmK k ++ (b1 ++ (40 :: ((c1 ++ c2) ++ [41]) ++ []))).getLast? ≠ some 32 := by
                  rw [show nmK k ++ (b1 ++ (40 :: ((c1 ++ c2) ++ [41]) ++ [])) = (nmK k ++ (b1 ++ (40 :: (c1 ++ c2)))) ++ [41] by simp, getLast_app (by simp)]
                  decide
                unfold parseM
                rw [el, strip_at hb0 hu (nmK_head _ _) eg (by simp), kindR_at k k1 k4]
                simp only [Option.bind_some, if_neg h4]
                rw [inner_at q1 AllB.nil]
                simp only [Option.bind_some, hX, Option.map_some]
            · cases h

theorem shape_back {l : List UInt8} {v : Int × List (Int × Int)} (h : parseM l = some v) : shapeR l = some v := by
  obtain ⟨b0, b9, hb0, hb9, e0⟩ := strip_split l
  unfold parseM at h
  generalize stripM l = m at *
  cases hk : kindR m with
  | none => rw [hk] at h; cases h
  | some x =>
    obtain ⟨k, t⟩ := x
    rw [hk] at h
    simp only [Option.bind_some] at h
    obtain ⟨k1, k4, ek⟩ := kindR_some hk
    cases hi : innerM t with
    | none => rw [hi] at h; cases h
    | some i =>
      rw [hi] at h
      simp only [Option.bind_some] at h
      obtain ⟨b1, b2, q1, q2, q3⟩ := inner_some hi
      by_cases h4 : k = 4
      · subst h4
        simp only [if_true] at h
        cases hj : innerM i with
        | none => rw [hj] at h; cases h
        | some j =>
          rw [hj] at h
          simp only [Option.bind_some] at h
          obtain ⟨b3, b4, q4, q5, q6⟩ := inner_some hj
          cases hp : pointsM j with
          | none => rw [hp] at h; cases h
          | some qs =>
            rw [hp] at h
            simp only [Option.map_some, Option.some.injEq] at h
            subst h
            have el : l = b0 ++ (nmK 4 ++ (b1 ++ 40 :: (b3 ++ 40 :: (j ++ (41 :: (b4 ++ 41 :: (b2 ++ b9))))))) := by
              rw [e0, ek, q3, q6]; simp
            obtain ⟨p, ps, t2, e1, e2, e3⟩ := ptsR_app j.length j (Nat.le_refl _) qs (41 :: (b4 ++ 41 :: (b2 ++ b9))) hp rfl
            have a1 : openR 40 (1 + 1) (b1 ++ 40 :: (b3 ++ 40 :: (j ++ (41 :: (b4 ++ 41 :: (b2 ++ b9)))))) = some (j ++ (41 :: (b4 ++ 41 :: (b2 ++ b9)))) := by
              rw [openR_app (by decide) q1]; exact openR_app (by decide) q4 0 _
            have o1 := openR_app (c := 41) (by decide) AllB.nil 1 (b4 ++ 41 :: (b2 ++ b9))
            rw [List.nil_append] at o1
            have o3 : openR 41 (1 + 1) (41 :: (b4 ++ 41 :: (b2 ++ b9))) = some (b2 ++ b9) := by rw [o1]; exact openR_app (c := 41) (by decide) q5 0 (b2 ++ b9)
            have o4 : blk (b2 ++ b9) = [] := by
              have := blk_app (q2.app hb9) []
              rw [List.append_nil] at this; exact this
            have hn : parK 4 = 1 + 1 := rfl
            unfold shapeR
            rw [el, blk_at hb0 (nmK_head _ _), kindR_at 4 (by omega) (by omega)]
            simp only [Option.bind_some]
            rw [hn, a1]
            simp only [Option.bind_some, e2, e3 _ (Nat.lt_succ_self _), o3, o4, if_true, e1]
      · simp only [if_neg h4, Option.bind_some] at h
        cases hp : pointsM i with
        | none => rw [hp] at h; cases h
        | some qs =>
          rw [hp] at h
          simp only [Option.map_some, Option.some.injEq] at h
          subst h
          have el : l = b0 ++ (nmK k ++ (b1 ++ 40 :: (i ++ (41 :: (b2 ++ b9))))) := by
            rw [e0, ek, q3]; simp
          obtain ⟨p, ps, t2, e1, e2, e3⟩ := ptsR_app i.length i (Nat.le_refl _) qs (41 :: (b2 ++ b9)) hp rfl
          have a1 : openR 40 (0 + 1) (b1 ++ 40 :: (i ++ (41 :: (b2 ++ b9)))) = some (i ++ (41 :: (b2 ++ b9))) := openR_app (by decide) q1 0 _
          have o1 := openR_app (c := 41) (by decide) AllB.nil 0 (b2 ++ b9)
          rw [List.nil_append] at o1
          have o3 : openR 41 (0 + 1) (41 :: (b2 ++ b9)) = some (b2 ++ b9) := o1
          have o4 : blk (b2 ++ b9) = [] := by
            have := blk_app (q2.app hb9) []
            rw [List.append_nil] at this; exact this
          have hn : parK k = 0 + 1 := if_neg h4
          unfold shapeR
          rw [el, blk_at hb0 (nmK_head _ _), kindR_at k k1 k4]
          simp only [Option.bind_some]
          rw [hn, a1]
          simp only [Option.bind_some, e2, e3 _ (Nat.lt_succ_self _), o3, o4, if_true, e1]

/-- Both ways of reading a shape are one. -/
theorem shapeR_eq (l : List UInt8) : shapeR l = parseM l := by
  cases h : parseM l with
  | some v => exact shape_back h
  | none =>
    cases h2 : shapeR l with
    | none => rfl
    | some v => rw [shape_forward h2] at h; cases h

end Go.Proofs.YtlhiahhpmjiioadGreatDoor
