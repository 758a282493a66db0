/-
  Plain facts on how a shape is read: from the front on (the program's way), and by stripping and cutting (the model's way); they agree. No program is walked here. No condition.
-/
import Derived.Test.YtlhiahhpmjiioacGreatDoorRdP
namespace Go.Proofs.YtlhiahhpmjiioacGreatDoor
open Go.RowKit

/-- Nothing but blanks. -/
def AllB (l : List UInt8) : Prop := ∀ b ∈ l, b = 32
theorem AllB.nil : AllB [] := by intro b h; cases h
theorem AllB.app {a b : List UInt8} (h : AllB a) (h' : AllB b) : AllB (a ++ b) := fun x hx => (List.mem_append.1 hx).elim (h x) (h' x)
theorem AllB.cons {l : List UInt8} (h : AllB l) : AllB (32 :: l) := fun x hx => (List.mem_cons.1 hx).elim id (h x)
theorem AllB.tail {b : UInt8} {l : List UInt8} (h : AllB (b :: l)) : b = 32 ∧ AllB l := ⟨h b (by simp), fun x hx => h x (by simp [hx])⟩
/-- The text behind the blanks in front. -/
def blk : List UInt8 → List UInt8
  | [] => []
  | b :: l => if b = 32 then blk l else b :: l
theorem blk_app {p : List UInt8} (h : AllB p) (r : List UInt8) : blk (p ++ r) = blk r := by
  induction p with
  | nil => rfl
  | cons b p ih =>
    obtain ⟨rfl, h2⟩ := h.tail
    rw [List.cons_append, blk, if_pos rfl, ih h2]
theorem blk_id {r : List UInt8} (h : r.head? ≠ some 32) : blk r = r := by
  cases r with
  | nil => rfl
  | cons b r => rw [blk, if_neg (by simpa using h)]
theorem blk_at {p r : List UInt8} (h : AllB p) (hr : r.head? ≠ some 32) : blk (p ++ r) = r := by rw [blk_app h, blk_id hr]
theorem blk_split : ∀ l : List UInt8, ∃ p, AllB p ∧ l = p ++ blk l ∧ (blk l).head? ≠ some 32
  | [] => ⟨[], AllB.nil, rfl, by simp [blk]⟩
  | b :: l => by
    by_cases hb : b = 32
    · subst hb
      obtain ⟨p, h1, h2, h3⟩ := blk_split l
      have e : blk (32 :: l) = blk l := by rw [blk, if_pos rfl]
      exact ⟨32 :: p, h1.cons, by rw [e, List.cons_append, ← h2], by rw [e]; exact h3⟩
    · have e : blk (b :: l) = b :: l := by rw [blk, if_neg hb]
      exact ⟨[], AllB.nil, by rw [e]; rfl, by rw [e]; simpa using hb⟩
theorem blk_all {l : List UInt8} (h : blk l = []) : AllB l := by
  obtain ⟨p, h1, h2, _⟩ := blk_split l
  rw [h, List.append_nil] at h2
  rw [h2]; exact h1
theorem blk_len (l : List UInt8) : (blk l).length ≤ l.length := by
  obtain ⟨p, _, h2, _⟩ := blk_split l
  have := congrArg List.length h2
  rw [List.length_append] at this; omega

/-- A byte that stands in a coordinate. -/
def isC (b : UInt8) : Prop := isD b = true ∨ b = 45 ∨ b = 46
theorem isC_not {b : UInt8} (h : isC b) : b ≠ 32 ∧ b ≠ 44 := by
  rcases h with h | rfl | rfl
  · have := isD_iff.1 h
    constructor <;> (rintro rfl; revert this; decide)
  · decide
  · decide
theorem decR_some {m p : Nat} {l r : List UInt8} {v : Nat} (h : decR m p l = some (v, r)) : ∃ c, l = c ++ r ∧ decR m p c = some (v, []) ∧ c ≠ [] ∧ (∀ b ∈ c, isD b = true ∨ b = 46) ∧ ∃ b c', c = b :: c' ∧ isD b = true := by
  unfold decR at h
  cases hd : digR m l with
  | none => rw [hd] at h; cases h
  | some xr =>
    obtain ⟨x, r1⟩ := xr
    rw [hd] at h
    simp only [Option.bind_some] at h
    obtain ⟨hl, ho⟩ := digR_some hd
    have hx := okNum_iff.1 ho
    obtain ⟨b0, x', hx0⟩ : ∃ b c', x = b :: c' := by
      cases x with
      | nil => simp at hx
      | cons b c => exact ⟨b, c, rfl⟩
    by_cases hh : r1.head? = some 46
    · rw [takeR_yes hh] at h
      simp only [if_true] at h
      cases hd2 : digR p (r1.drop 1) with
      | none => rw [hd2] at h; cases h
      | some ys =>
        obtain ⟨y, s⟩ := ys
        rw [hd2] at h
        simp only [Option.bind_some, Option.some.injEq, Prod.mk.injEq] at h
        obtain ⟨hv, rfl⟩ := h
        obtain ⟨hl2, ho2⟩ := digR_some hd2
        have hy := okNum_iff.1 ho2
        have hr : r1 = 46 :: (y ++ s) := by
          cases r1 with
          | nil => cases hh
          | cons b r => simp at hh; subst hh; simp at hl2; rw [hl2]
        refine ⟨x ++ 46 :: y, by rw [hl, hr]; simp, ?_, by simp, ?_, b0, x' ++ 46 :: y, by rw [hx0]; rfl, hx.2.2 b0 (by rw [hx0]; simp)⟩
        · unfold decR
          rw [digR_ok ho dot_head]
          simp only [Option.bind_some]
          rw [takeR_yes (by simp)]
          have := digR_ok (r := []) ho2 (by simp)
          rw [List.append_nil] at this
          simp only [if_true, List.drop_succ_cons, List.drop_zero, this, Option.bind_some, ← hv]
        · intro b hb
          rcases List.mem_append.1 hb with hb | hb
          · exact .inl (hx.2.2 b hb)
          · rcases List.mem_cons.1 hb with rfl | hb
            · exact .inr rfl
            · exact .inl (hy.2.2 b hb)
    · rw [takeR_no hh] at h
      simp only [Bool.false_eq_true, if_false, Option.some.injEq, Prod.mk.injEq] at h
      obtain ⟨hv, rfl⟩ := h
      refine ⟨x, hl, ?_, by rw [hx0]; simp, fun b hb => .inl (hx.2.2 b hb), b0, x', hx0, hx.2.2 b0 (by rw [hx0]; simp)⟩
      unfold decR
      have := digR_ok (r := []) ho (by simp)
      rw [List.append_nil] at this
      rw [this]
      simp only [Option.bind_some]
      rw [takeR_no (by simp)]
      simp only [Bool.false_eq_true, if_false, ← hv]
theorem decR_app {m p : Nat} {c r : List UInt8} {v : Nat} (h : decR m p c = some (v, [])) (hr : ∀ b, r.head? = some b → isD b = false ∧ b ≠ 46) : decR m p (c ++ r) = some (v, r) := by
  have hrd : ∀ b, r.head? = some b → isD b = false := fun b hb => (hr b hb).1
  have hr46 : ¬ r.head? = some 46 := fun e => (hr 46 e).2 rfl
  unfold decR at h
  cases hd : digR m c with
  | none => rw [hd] at h; cases h
  | some xr =>
    obtain ⟨x, r1⟩ := xr
    rw [hd] at h
    simp only [Option.bind_some] at h
    obtain ⟨hl, ho⟩ := digR_some hd
    by_cases hh : r1.head? = some 46
    · rw [takeR_yes hh] at h
      simp only [if_true] at h
      cases hd2 : digR p (r1.drop 1) with
      | none => rw [hd2] at h; cases h
      | some ys =>
        obtain ⟨y, s⟩ := ys
        rw [hd2] at h
        simp only [Option.bind_some, Option.some.injEq, Prod.mk.injEq] at h
        obtain ⟨hv, rfl⟩ := h
        obtain ⟨hl2, ho2⟩ := digR_some hd2
        rw [List.append_nil] at hl2
        have hr1 : r1 = 46 :: y := by
          cases r1 with
          | nil => cases hh
          | cons b r => simp at hh; subst hh; simp at hl2; rw [hl2]
        subst hl hr1
        unfold decR
        rw [List.append_assoc, List.cons_append, digR_ok ho dot_head]
        simp only [Option.bind_some]
        rw [takeR_yes (by simp)]
        simp only [if_true, List.drop_succ_cons, List.drop_zero, digR_ok ho2 hrd, Option.bind_some, ← hv]
    · rw [takeR_no hh] at h
      simp only [Bool.false_eq_true, if_false, Option.some.injEq, Prod.mk.injEq] at h
      obtain ⟨hv, rfl⟩ := h
      rw [List.append_nil] at hl
      subst hl
      unfold decR
      rw [digR_ok ho hrd]
      simp only [Option.bind_some]
      rw [takeR_no hr46]
      simp only [Bool.false_eq_true, if_false, ← hv]
theorem isD_ne45 {b : UInt8} (h : isD b = true) : b ≠ 45 := by
  rintro rfl; exact absurd h (by decide)
theorem coordR_some {l r : List UInt8} {v : Int} (h : coordR l = some (v, r)) : ∃ c, l = c ++ r ∧ fullC c = some v ∧ c ≠ [] ∧ ∀ b ∈ c, isC b := by
  unfold coordR at h
  by_cases hh : l.head? = some 45
  · rw [takeR_yes hh] at h
    simp only [if_true] at h
    cases hd : decR 6 9 (l.drop 1) with
    | none => rw [hd] at h; cases h
    | some x =>
      obtain ⟨u, r1⟩ := x
      rw [hd] at h
      simp only [Option.bind_some, Option.some.injEq, Prod.mk.injEq] at h
      obtain ⟨hv, rfl⟩ := h
      obtain ⟨c, h1, h2, h3, h4, _⟩ := decR_some hd
      have hl : l = 45 :: (c ++ r1) := by
        cases l with
        | nil => cases hh
        | cons b r => simp at hh; subst hh; simp at h1; rw [h1]
      refine ⟨45 :: c, hl, ?_, by simp, ?_⟩
      · unfold fullC coordR
        rw [takeR_yes (by simp)]
        simp only [if_true, List.drop_succ_cons, List.drop_zero, h2, Option.bind_some, ← hv]
      · intro b hb
        rcases List.mem_cons.1 hb with rfl | hb
        · exact .inr (.inl rfl)
        · rcases h4 b hb with h | h
          · exact .inl h
          · exact .inr (.inr h)
  · rw [takeR_no hh] at h
    simp only [Bool.false_eq_true, if_false] at h
    cases hd : decR 6 9 l with
    | none => rw [hd] at h; cases h
    | some x =>
      obtain ⟨u, r1⟩ := x
      rw [hd] at h
      simp only [Option.bind_some, Option.some.injEq, Prod.mk.injEq] at h
      obtain ⟨hv, rfl⟩ := h
      obtain ⟨c, h1, h2, h3, h4, b0, c', h5, h6⟩ := decR_some hd
      refine ⟨c, h1, ?_, h3, ?_⟩
      · unfold fullC coordR
        rw [takeR_no (by rw [h5]; simpa using isD_ne45 h6)]
        simp only [Bool.false_eq_true, if_false, h2, Option.bind_some, if_true, ← hv]
      · intro b hb
        rcases h4 b hb with h | h
        · exact .inl h
        · exact .inr (.inr h)
theorem fullC_some {c : List UInt8} {v : Int} (h : fullC c = some v) : coordR c = some (v, []) := by
  unfold fullC at h
  cases hc : coordR c with
  | none => rw [hc] at h; cases h
  | some x =>
    obtain ⟨u, r⟩ := x
    rw [hc] at h
    simp only [Option.bind_some] at h
    split at h
    · rename_i hr
      subst hr
      simp only [Option.some.injEq] at h
      rw [h]
    · cases h
theorem fullC_isC {c : List UInt8} {v : Int} (h : fullC c = some v) : c ≠ [] ∧ ∀ b ∈ c, isC b := by
  obtain ⟨c', h1, _, h3, h4⟩ := coordR_some (fullC_some h)
  rw [List.append_nil] at h1
  subst h1
  exact ⟨h3, h4⟩
theorem coordR_app {c r : List UInt8} {v : Int} (h : fullC c = some v) (hr : ∀ b, r.head? = some b → isD b = false ∧ b ≠ 46) : coordR (c ++ r) = some (v, r) := by
  have h := fullC_some h
  unfold coordR at h
  have hne : c ≠ [] := by
    rintro rfl
    rw [takeR_no (by simp)] at h
    have : decR 6 9 [] = none := rfl
    simp only [this] at h
    cases h
  have hhd : (c ++ r).head? = c.head? := by
    cases c with
    | nil => exact absurd rfl hne
    | cons b c => rfl
  unfold coordR
  by_cases hh : c.head? = some 45
  · rw [takeR_yes hh] at h
    rw [takeR_yes (by rw [hhd]; exact hh)]
    have hdr : (c ++ r).drop 1 = c.drop 1 ++ r := by
      cases c with
      | nil => exact absurd rfl hne
      | cons b c => rfl
    simp only [if_true] at h ⊢
    rw [hdr]
    cases hd : decR 6 9 (c.drop 1) with
    | none => rw [hd] at h; cases h
    | some x =>
      obtain ⟨u, r1⟩ := x
      rw [hd] at h
      simp only [Option.bind_some, Option.some.injEq, Prod.mk.injEq] at h
      obtain ⟨hv, rfl⟩ := h
      rw [decR_app hd hr]
      simp only [Option.bind_some, hv]
  · rw [takeR_no hh] at h
    rw [takeR_no (by rw [hhd]; exact hh)]
    simp only [Bool.false_eq_true, if_false] at h ⊢
    cases hd : decR 6 9 c with
    | none => rw [hd] at h; cases h
    | some x =>
      obtain ⟨u, r1⟩ := x
      rw [hd] at h
      simp only [Option.bind_some, Option.some.injEq, Prod.mk.injEq] at h
      obtain ⟨hv, rfl⟩ := h
      rw [decR_app hd hr]
      simp only [Option.bind_some, hv]

/-- The words of a text. -/
def wordsM (l : List UInt8) : List (List UInt8) := (cutL 32 l).filter fun x => !x.isEmpty
theorem words_nil : wordsM [] = [] := rfl
theorem words_at {p : List UInt8} (h0 : p ≠ []) (h : ∀ b ∈ p, b ≠ 32) (r : List UInt8) : wordsM (p ++ 32 :: r) = p :: wordsM r := by
  unfold wordsM
  rw [cutL_at 32 p r h, List.filter_cons_of_pos]
  cases p with
  | nil => exact absurd rfl h0
  | cons b p => rfl
theorem words_one {p : List UInt8} (h0 : p ≠ []) (h : ∀ b ∈ p, b ≠ 32) : wordsM p = [p] := by
  unfold wordsM
  rw [cutL_none 32 p h]
  cases p with
  | nil => exact absurd rfl h0
  | cons b p => rfl
theorem words_blank (r : List UInt8) : wordsM (32 :: r) = wordsM r := by
  unfold wordsM
  have : cutL 32 (32 :: r) = [] :: cutL 32 r := by simp [cutL]
  rw [this]; rfl
theorem words_app {p : List UInt8} (h : AllB p) (r : List UInt8) : wordsM (p ++ r) = wordsM r := by
  induction p with
  | nil => rfl
  | cons b p ih =>
    obtain ⟨rfl, h2⟩ := h.tail
    rw [List.cons_append, words_blank, ih h2]
theorem words_all {p : List UInt8} (h : AllB p) : wordsM p = [] := by
  have := words_app h []
  rw [List.append_nil] at this
  exact this
theorem words_then {p q : List UInt8} (h0 : p ≠ []) (h : ∀ b ∈ p, b ≠ 32) (hq : q = [] ∨ q.head? = some 32) : wordsM (p ++ q) = p :: wordsM q := by
  rcases hq with rfl | hq
  · rw [List.append_nil, words_one h0 h]; rfl
  · cases q with
    | nil => cases hq
    | cons b q =>
      simp at hq; subst hq
      rw [words_at h0 h, words_blank]
/-- The first word, and what comes behind it. -/
theorem words_first (l : List UInt8) : AllB l ∨ ∃ b p r, AllB b ∧ p ≠ [] ∧ (∀ x ∈ p, x ≠ 32) ∧ l = b ++ (p ++ r) ∧ (r = [] ∨ r.head? = some 32) ∧ wordsM l = p :: wordsM r := by
  obtain ⟨b, h1, h2, h3⟩ := blk_split l
  cases hb : blk l with
  | nil => exact .inl (blk_all hb)
  | cons c m =>
    rw [hb] at h2 h3
    obtain ⟨p, hp, hr⟩ := cut_split 32 (c :: m)
    have hne : p ≠ [] := by
      rintro rfl
      rcases hr with hr | ⟨r, hr⟩
      · cases hr
      · simp at hr; exact h3 (by simp [hr.1])
    rcases hr with hr | ⟨r, hr⟩
    · refine .inr ⟨b, p, [], h1, hne, hp, by rw [h2, hr]; simp, .inl rfl, ?_⟩
      rw [h2, hr, words_app h1, words_one hne hp]; rfl
    · refine .inr ⟨b, p, 32 :: r, h1, hne, hp, by rw [h2, hr], .inr rfl, ?_⟩
      rw [h2, hr, words_app h1, words_at hne hp, words_blank]

/-- The point in a part of the text between two commas. -/
def partM (l : List UInt8) : Option (Int × Int) :=
  match wordsM l with
  | [a, b] => (fullC a).bind fun x => (fullC b).map fun y => (x, y)
  | _ => none
/-- A point as it is written: blanks, a coordinate, blanks, a coordinate, blanks. -/
def PtW (l : List UInt8) (p : Int × Int) : Prop :=
  ∃ b1 c1 b2 c2 b3, AllB b1 ∧ AllB b2 ∧ AllB b3 ∧ b2 ≠ [] ∧ fullC c1 = some p.1 ∧ fullC c2 = some p.2 ∧ l = b1 ++ (c1 ++ (b2 ++ (c2 ++ b3)))
theorem head_blank {b r : List UInt8} (h : AllB b) (h0 : b ≠ []) : (b ++ r).head? = some 32 := by
  cases b with
  | nil => exact absurd rfl h0
  | cons x b => obtain ⟨rfl, _⟩ := h.tail; rfl
theorem part_of {l : List UInt8} {p : Int × Int} (h : PtW l p) : partM l = some p := by
  obtain ⟨b1, c1, b2, c2, b3, h1, h2, h3, h0, f1, f2, rfl⟩ := h
  obtain ⟨n1, i1⟩ := fullC_isC f1
  obtain ⟨n2, i2⟩ := fullC_isC f2
  have e : wordsM (b1 ++ (c1 ++ (b2 ++ (c2 ++ b3)))) = [c1, c2] := by
    rw [words_app h1, words_then n1 (fun b hb => (isC_not (i1 b hb)).1) (.inr (head_blank h2 h0)), words_app h2, words_then n2 (fun b hb => (isC_not (i2 b hb)).1), words_all h3]
    cases b3 with
    | nil => exact .inl rfl
    | cons x b3 => exact .inr (by obtain ⟨rfl, _⟩ := h3.tail; rfl)
  unfold partM
  rw [e]
  simp only [f1, f2, Option.bind_some, Option.map_some]
theorem of_part {l : List UInt8} {p : Int × Int} (h : partM l = some p) : PtW l p := by
  unfold partM at h
  rcases words_first l with hl | ⟨b1, c1, r1, h1, n1, i1, rfl, hr1, hw⟩
  · rw [words_all hl] at h; cases h
  rw [hw] at h
  rcases words_first r1 with hl | ⟨b2, c2, r2, h2, n2, i2, rfl, hr2, hw2⟩
  · rw [words_all hl] at h; cases h
  rw [hw2] at h
  rcases words_first r2 with hl | ⟨b3, c3, r3, h3, n3, i3, rfl, hr3, hw3⟩
  · rw [words_all hl] at h
    simp only at h
    cases f1 : fullC c1 with
    | none => rw [f1] at h; cases h
    | some x =>
      cases f2 : fullC c2 with
      | none => rw [f1, f2] at h; cases h
      | some y =>
        rw [f1, f2] at h
        simp only [Option.bind_some, Option.map_some, Option.some.injEq] at h
        subst h
        refine ⟨b1, c1, b2, c2, r2, h1, h2, hl, ?_, f1, f2, rfl⟩
        rintro rfl
        rcases hr1 with hr1 | hr1
        · simp at hr1; exact n2 hr1.1
        · cases c2 with
          | nil => exact n2 rfl
          | cons x c => simp at hr1; exact i2 x (by simp) hr1
  · rw [hw3] at h; cases h

end Go.Proofs.YtlhiahhpmjiioacGreatDoor
