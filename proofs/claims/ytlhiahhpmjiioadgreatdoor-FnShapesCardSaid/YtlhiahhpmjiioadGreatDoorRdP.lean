/-
  Plain facts on digits in a text: how many there are in front, a text cut at a byte, a decimal read from the front on and as a whole. No program is walked here. No condition.
-/
import Derived.Test.YtlhiahhpmjiioadGreatDoorCooP
import Derived.Lib.ParseIntB
import Derived.Lib.Repeat
namespace Go.Proofs.YtlhiahhpmjiioadGreatDoor
open Go.RowKit

def isD (b : UInt8) : Bool := decide (48 ≤ b.toNat) && decide (b.toNat ≤ 57)
theorem isD_iff {b : UInt8} : isD b = true ↔ 48 ≤ b.toNat ∧ b.toNat ≤ 57 := by unfold isD; rw [Bool.and_eq_true, decide_eq_true_eq, decide_eq_true_eq]
/-- How many digits stand in front, m at most. -/
def dLen : Nat → List UInt8 → Nat
  | 0, _ => 0
  | _ + 1, [] => 0
  | m + 1, b :: l => if isD b then dLen m l + 1 else 0
theorem dLen_le : ∀ (m : Nat) (l : List UInt8), dLen m l ≤ m ∧ dLen m l ≤ l.length
  | 0, _ => by simp [dLen]
  | m + 1, [] => by simp [dLen]
  | m + 1, b :: l => by
    have := dLen_le m l
    simp only [dLen, List.length_cons]
    split <;> omega
theorem dLen_step : ∀ (m n : Nat) (l : List UInt8) (b : UInt8), n ≤ dLen m l → n < m → l[n]? = some b → isD b = true → n + 1 ≤ dLen m l
  | 0, _, _, _, _, h, _, _ => by omega
  | m + 1, _, [], _, _, _, h, _ => by simp at h
  | m + 1, 0, c :: l, b, _, _, h, hd => by
    simp at h; subst h
    simp only [dLen, hd, if_true]; omega
  | m + 1, n + 1, c :: l, b, hn, hm, h, hd => by
    simp only [dLen] at hn ⊢
    by_cases hc : isD c = true
    · rw [if_pos hc] at hn ⊢
      have := dLen_step m n l b (by omega) (by omega) (by simpa using h) hd
      omega
    · rw [if_neg hc] at hn; omega
theorem dLen_all : ∀ (m : Nat) (l : List UInt8), ∀ b ∈ l.take (dLen m l), isD b = true
  | 0, _ => by simp [dLen]
  | m + 1, [] => by simp [dLen]
  | m + 1, c :: l => by
    simp only [dLen]
    by_cases hc : isD c = true
    · rw [if_pos hc, List.take_succ_cons]
      intro b hb
      rcases List.mem_cons.1 hb with rfl | hb
      · exact hc
      · exact dLen_all m l b hb
    · rw [if_neg hc]; simp
theorem dLen_stop {m n : Nat} {l : List UInt8} (hn : n ≤ dLen m l) (h : m ≤ n ∨ l.length ≤ n ∨ ∃ b, l[n]? = some b ∧ isD b = false) : dLen m l = n := by
  have hle := dLen_le m l
  rcases h with h | h | ⟨b, hb, hd⟩
  · omega
  · omega
  · rcases Nat.lt_or_ge n (dLen m l) with h1 | h1
    · have hm : b ∈ l.take (dLen m l) := by
        have : (l.take (dLen m l))[n]? = some b := by rw [List.getElem?_take, if_pos h1]; exact hb
        exact List.mem_of_getElem? this
      rw [dLen_all m l b hm] at hd; cases hd
    · omega
theorem dLen_app : ∀ (m : Nat) (p r : List UInt8), (∀ b ∈ p, isD b = true) → p.length ≤ m → (∀ b, r.head? = some b → isD b = false) → dLen m (p ++ r) = p.length
  | 0, [], r, _, _, _ => by simp [dLen]
  | 0, _ :: _, _, _, h, _ => by simp at h
  | m + 1, [], [], _, _, _ => by simp [dLen]
  | m + 1, [], b :: r, _, _, h => by simp [dLen, h b rfl]
  | m + 1, b :: p, r, ha, hl, h => by
    have := dLen_app m p r (fun x hx => ha x (by simp [hx])) (by simpa using hl) h
    simp only [List.cons_append, dLen, ha b (by simp), if_true, this, List.length_cons]

/-- The number of some digits. -/
def numA (a : Nat) (l : List UInt8) : Nat := l.foldl (fun a b => a * 10 + (b.toNat - 48)) a
def numL (l : List UInt8) : Nat := numA 0 l
theorem numA_app (a : Nat) (x y : List UInt8) : numA a (x ++ y) = numA (numA a x) y := by unfold numA; rw [List.foldl_append]
theorem numA_zeros : ∀ (k a : Nat), numA a (List.replicate k 48) = a * 10 ^ k
  | 0, a => by simp [numA]
  | k + 1, a => by
    rw [List.replicate_succ]
    show numA (a * 10 + ((48 : UInt8).toNat - 48)) (List.replicate k 48) = _
    rw [numA_zeros k, Nat.pow_succ]
    show (a * 10 + 0) * 10 ^ k = _
    rw [Nat.add_zero, Nat.mul_assoc, Nat.mul_comm 10]
theorem numA_plus : ∀ (l : List UInt8) (a : Nat), numA a l = a * 10 ^ l.length + numL l
  | [], a => by simp [numA, numL]
  | b :: l, a => by
    show numA (a * 10 + (b.toNat - 48)) l = _ + numA (0 * 10 + (b.toNat - 48)) l
    rw [numA_plus l, numA_plus l (0 * 10 + _)]
    rw [List.length_cons, Nat.pow_succ, Nat.zero_mul, Nat.zero_add, Nat.add_mul, Nat.mul_assoc, Nat.mul_comm 10, Nat.add_assoc]
theorem numA_lt : ∀ (l : List UInt8) (a : Nat), (∀ b ∈ l, isD b = true) → numA a l < (a + 1) * 10 ^ l.length
  | [], a, _ => by simp [numA]
  | b :: l, a, h => by
    have hb := isD_iff.1 (h b (by simp))
    have ih := numA_lt l (a * 10 + (b.toNat - 48)) (fun x hx => h x (by simp [hx]))
    show numA (a * 10 + (b.toNat - 48)) l < _
    refine Nat.lt_of_lt_of_le ih ?_
    rw [List.length_cons, Nat.pow_succ, Nat.mul_comm (10 ^ l.length) 10, ← Nat.mul_assoc]
    exact Nat.mul_le_mul_right _ (by omega)
theorem numL_lt {l : List UInt8} (h : ∀ b ∈ l, isD b = true) {k : Nat} (hk : l.length ≤ k) : numL l < 10 ^ k := by
  have h1 := numA_lt l 0 h
  have h2 : (10 : Nat) ^ l.length ≤ 10 ^ k := Nat.pow_le_pow_right (by decide) hk
  unfold numL; omega
theorem parseUint_ok (M : Nat) (hM : 1000000000000000000 ≤ M) : ∀ (l : List UInt8) (acc : Nat), (∀ b ∈ l, isD b = true) → (acc + 1) * 10 ^ l.length ≤ 1000000000000000000 → Lib.parseUintM M acc l = .ok (numA acc l)
  | [], acc, _, _ => rfl
  | b :: l, acc, h, hb => by
    have hd := isD_iff.1 (h b (by simp))
    rw [List.length_cons, Nat.pow_succ, Nat.mul_comm (10 ^ l.length) 10, ← Nat.mul_assoc] at hb
    have h1 : 1 ≤ 10 ^ l.length := Nat.one_le_pow _ _ (by decide)
    have h2 : (acc + 1) * 10 ≤ 1000000000000000000 := Nat.le_trans (Nat.le_mul_of_pos_right _ h1) hb
    have h3 : (acc * 10 + (b.toNat - 48) + 1) * 10 ^ l.length ≤ 1000000000000000000 := Nat.le_trans (Nat.mul_le_mul_right _ (by omega)) hb
    simp only [Lib.parseUintM]
    rw [if_pos hd, if_neg (by omega), if_neg (by omega)]
    exact parseUint_ok M hM l _ (fun x hx => h x (by simp [hx])) h3
theorem parseInt_ok {l : List UInt8} (h : ∀ b ∈ l, isD b = true) (h0 : l ≠ []) (hl : l.length ≤ 18) : Lib.parseIntB 64 l = .ok (numL l : Int) := by
  cases l with
  | nil => exact absurd rfl h0
  | cons b r =>
    have hd := isD_iff.1 (h b (by simp))
    have hp : (10 : Nat) ^ (b :: r).length ≤ 10 ^ 18 := Nat.pow_le_pow_right (by decide) hl
    have hu : Lib.parseUintB 64 (b :: r) = .ok (numL (b :: r)) := by
      unfold Lib.parseUintB
      rw [if_neg (by simp)]
      exact parseUint_ok _ (by decide) _ 0 h (by simpa using hp)
    have hlt := numL_lt h hl
    have hq : ¬ (b.toNat = 43 ∨ b.toNat = 45) := by omega
    have hn : ¬ b.toNat = 45 := by omega
    have hf : ¬ (¬ b.toNat = 45 ∧ 2 ^ (64 - 1) ≤ numL (b :: r)) := by
      have : (10 : Nat) ^ 18 ≤ 2 ^ (64 - 1) := by decide
      omega
    have hg : ¬ (b.toNat = 45 ∧ 2 ^ (64 - 1) < numL (b :: r)) := fun x => hn x.1
    simp only [Lib.parseIntB, hu, if_neg hq, if_neg hf, if_neg hg, if_neg hn]
theorem repeat_zeros (k : Nat) : Lib.repeatL [48] k = List.replicate k 48 := by
  induction k with
  | zero => rfl
  | succ k ih => simp only [Lib.repeatL, ih, List.replicate_succ]; rfl

/-- Digits read from the front on. -/
def digR (m : Nat) (l : List UInt8) : Option (List UInt8 × List UInt8) := if dLen m l = 0 then none else some (l.take (dLen m l), l.drop (dLen m l))
/-- One byte read, if it comes next. -/
def takeR (c : UInt8) (l : List UInt8) : Bool × List UInt8 := if l.head? = some c then (true, l.drop 1) else (false, l)
theorem takeR_yes {c : UInt8} {l : List UInt8} (h : l.head? = some c) : takeR c l = (true, l.drop 1) := if_pos h
theorem takeR_no {c : UInt8} {l : List UInt8} (h : ¬ l.head? = some c) : takeR c l = (false, l) := if_neg h
/-- A decimal without a sign, read from the front on, in its last places. -/
def decR (m p : Nat) (l : List UInt8) : Option (Nat × List UInt8) :=
  (digR m l).bind fun x =>
    if (takeR 46 x.2).1 then (digR p (takeR 46 x.2).2).bind fun y => some (numL (x.1 ++ y.1 ++ List.replicate (p - y.1.length) 48), y.2)
    else some (numL (x.1 ++ [] ++ List.replicate p 48), x.2)
/-- A coordinate, read from the front on. -/
def coordR (l : List UInt8) : Option (Int × List UInt8) :=
  (decR 6 9 (takeR 45 l).2).bind fun x => some ((if (takeR 45 l).1 then -(x.1 : Int) else x.1), x.2)
theorem digR_no {m : Nat} {l : List UInt8} (h : dLen m l = 0) : digR m l = none := if_pos h
theorem digR_yes {m : Nat} {l : List UInt8} (h : ¬ dLen m l = 0) : digR m l = some (l.take (dLen m l), l.drop (dLen m l)) := if_neg h

/-- A text cut at a byte. -/
def cutL (c : UInt8) : List UInt8 → List (List UInt8)
  | [] => [[]]
  | b :: l => if b = c then [] :: cutL c l else match cutL c l with
    | [] => [[b]]
    | x :: xs => (b :: x) :: xs
/-- A piece put ahead of the first one. -/
def preL (p : List UInt8) : List (List UInt8) → List (List UInt8)
  | [] => [p]
  | x :: xs => (p ++ x) :: xs
theorem cutL_ne (c : UInt8) : ∀ l, cutL c l ≠ []
  | [] => by simp [cutL]
  | b :: l => by
    simp only [cutL]
    split
    · simp
    · split <;> simp
theorem cutL_cons (c b : UInt8) (l : List UInt8) (h : b ≠ c) : cutL c (b :: l) = preL [b] (cutL c l) := by
  simp only [cutL, if_neg h]
  cases hc : cutL c l with
  | nil => rfl
  | cons x xs => rfl
theorem preL_pre (p q : List UInt8) (x : List (List UInt8)) (h : x ≠ []) : preL p (preL q x) = preL (p ++ q) x := by
  cases x with
  | nil => exact absurd rfl h
  | cons y ys => simp [preL]
theorem preL_nil (x : List (List UInt8)) (h : x ≠ []) : preL [] x = x := by
  cases x with
  | nil => exact absurd rfl h
  | cons y ys => simp [preL]
theorem cutL_app (c : UInt8) : ∀ (p r : List UInt8), (∀ b ∈ p, b ≠ c) → cutL c (p ++ r) = preL p (cutL c r)
  | [], r, _ => by rw [List.nil_append, preL_nil _ (cutL_ne c r)]
  | b :: p, r, h => by
    rw [List.cons_append, cutL_cons c b _ (h b (by simp)), cutL_app c p r (fun x hx => h x (by simp [hx])), preL_pre _ _ _ (cutL_ne c r)]
    rfl
theorem cutL_at (c : UInt8) (p r : List UInt8) (h : ∀ b ∈ p, b ≠ c) : cutL c (p ++ c :: r) = p :: cutL c r := by
  rw [cutL_app c p _ h]; simp [cutL, preL]
theorem cutL_none (c : UInt8) (p : List UInt8) (h : ∀ b ∈ p, b ≠ c) : cutL c p = [p] := by
  have := cutL_app c p [] h
  rw [List.append_nil] at this
  rw [this]; simp [cutL, preL]
theorem cut_split (c : UInt8) : ∀ l : List UInt8, ∃ p, (∀ b ∈ p, b ≠ c) ∧ (l = p ∨ ∃ r, l = p ++ c :: r)
  | [] => ⟨[], by simp, .inl rfl⟩
  | b :: l => by
    by_cases hb : b = c
    · subst hb; exact ⟨[], by simp, .inr ⟨l, rfl⟩⟩
    · obtain ⟨p, hp, h⟩ := cut_split c l
      refine ⟨b :: p, fun x hx => ?_, ?_⟩
      · rcases List.mem_cons.1 hx with rfl | hx
        · exact hb
        · exact hp x hx
      · rcases h with rfl | ⟨r, rfl⟩
        · exact .inl rfl
        · exact .inr ⟨r, rfl⟩

/-- Some digits, so many at most. -/
def okNum (m : Nat) (l : List UInt8) : Bool := decide (1 ≤ l.length) && decide (l.length ≤ m) && l.all isD
theorem okNum_iff {m : Nat} {l : List UInt8} : okNum m l = true ↔ 1 ≤ l.length ∧ l.length ≤ m ∧ ∀ b ∈ l, isD b = true := by
  unfold okNum
  simp [Bool.and_eq_true, List.all_eq_true, and_assoc]
/-- A decimal as a whole. -/
def decM (m p : Nat) (l : List UInt8) : Option Nat :=
  match cutL 46 l with
  | [x] => if okNum m x then some (numL x * 10 ^ p) else none
  | [x, y] => if okNum m x && okNum p y then some (numL x * 10 ^ p + numL (y ++ List.replicate (p - y.length) 48)) else none
  | _ => none
/-- A decimal that is read, and nothing is left. -/
def fullR (m p : Nat) (l : List UInt8) : Option Nat := (decR m p l).bind fun x => if x.2 = [] then some x.1 else none

theorem dig_not {b : UInt8} (h : isD b = true) : b ≠ 46 := by
  rintro rfl; exact absurd h (by decide)
theorem okNum_dots {m : Nat} {x : List UInt8} (h : okNum m x = true) : ∀ b ∈ x, b ≠ 46 := fun b hb => dig_not ((okNum_iff.1 h).2.2 b hb)
theorem digR_ok {m : Nat} {x r : List UInt8} (h : okNum m x = true) (hr : ∀ b, r.head? = some b → isD b = false) : digR m (x ++ r) = some (x, r) := by
  obtain ⟨h1, h2, h3⟩ := okNum_iff.1 h
  have := dLen_app m x r h3 h2 hr
  rw [digR_yes (by omega), this, List.take_left, List.drop_left]
theorem digR_some {m : Nat} {l x r : List UInt8} (h : digR m l = some (x, r)) : l = x ++ r ∧ okNum m x = true := by
  unfold digR at h
  by_cases h0 : dLen m l = 0
  · rw [if_pos h0] at h; cases h
  · rw [if_neg h0] at h
    simp only [Option.some.injEq, Prod.mk.injEq] at h
    obtain ⟨rfl, rfl⟩ := h
    have hle := dLen_le m l
    refine ⟨(List.take_append_drop _ _).symm, okNum_iff.2 ⟨?_, ?_, dLen_all m l⟩⟩
    · rw [List.length_take]; omega
    · rw [List.length_take]; omega
theorem numL_part (x y : List UInt8) (p : Nat) (hy : y.length ≤ p) : numL (x ++ y ++ List.replicate (p - y.length) 48) = numL x * 10 ^ p + numL (y ++ List.replicate (p - y.length) 48) := by
  rw [List.append_assoc]
  show numA 0 _ = _
  rw [numA_app, numA_plus, List.length_append, List.length_replicate]
  rw [show y.length + (p - y.length) = p by omega]; rfl
theorem dot_head {r : List UInt8} : ∀ b, (46 :: r).head? = some b → isD b = false := by
  intro b h; cases h; decide
theorem full_of_M {m p v : Nat} {l : List UInt8} (h : decM m p l = some v) : fullR m p l = some v := by
  obtain ⟨x, hx, hl⟩ := cut_split 46 l
  rcases hl with rfl | ⟨r, rfl⟩
  · unfold decM at h
    rw [cutL_none 46 l hx] at h
    simp only at h
    split at h
    · rename_i ho
      have hd : digR m l = some (l, []) := by
        have := digR_ok (r := []) ho (by simp)
        rwa [List.append_nil] at this
      unfold fullR decR
      rw [hd]
      simp only [Option.bind_some]
      rw [takeR_no (by simp)]
      simp only [Bool.false_eq_true, if_false, Option.bind_some, if_true]
      rw [← h, List.append_nil]
      show some (numA 0 _) = _
      rw [numA_app, numA_zeros]; rfl
    · cases h
  · unfold decM at h
    rw [cutL_at 46 x r hx] at h
    obtain ⟨y, hy, hr⟩ := cut_split 46 r
    rcases hr with rfl | ⟨r', rfl⟩
    · rw [cutL_none 46 r hy] at h
      simp only at h
      split at h
      · rename_i ho
        obtain ⟨h1, h2⟩ := Bool.and_eq_true .. ▸ ho
        have hd := digR_ok (r := 46 :: r) h1 dot_head
        have hd2 : digR p r = some (r, []) := by
          have := digR_ok (r := []) h2 (by simp)
          rwa [List.append_nil] at this
        unfold fullR decR
        rw [hd]
        simp only [Option.bind_some]
        rw [takeR_yes (by simp)]
        simp only [if_true, List.drop_succ_cons, List.drop_zero, hd2, Option.bind_some]
        rw [← h, numL_part _ _ _ (okNum_iff.1 h2).2.1]
      · cases h
    · rw [cutL_at 46 y r' hy] at h
      have hne := cutL_ne 46 r'
      cases hc : cutL 46 r' with
      | nil => exact absurd hc hne
      | cons z zs => rw [hc] at h; cases h
theorem M_of_full {m p v : Nat} {l : List UInt8} (h : fullR m p l = some v) : ∃ u, decM m p l = some u := by
  unfold fullR decR at h
  cases hd : digR m l with
  | none => rw [hd] at h; cases h
  | some xr =>
    obtain ⟨x, r⟩ := xr
    rw [hd] at h
    simp only [Option.bind_some] at h
    obtain ⟨hl, ho⟩ := digR_some hd
    by_cases hh : r.head? = some 46
    · rw [takeR_yes hh] at h
      simp only [if_true] at h
      cases hd2 : digR p (r.drop 1) with
      | none => rw [hd2] at h; cases h
      | some ys =>
        obtain ⟨y, s⟩ := ys
        rw [hd2] at h
        simp only [Option.bind_some] at h
        split at h
        · rename_i hs
          obtain ⟨hl2, ho2⟩ := digR_some hd2
          subst hs
          rw [List.append_nil] at hl2
          have hr : r = 46 :: y := by
            cases r with
            | nil => cases hh
            | cons b r => simp at hh; subst hh; simp at hl2; rw [hl2]
          subst hr hl
          unfold decM
          rw [cutL_at 46 x y (okNum_dots ho), cutL_none 46 y (okNum_dots ho2)]
          exact ⟨_, by simp only [ho, ho2, Bool.and_self, if_true]; rfl⟩
        · cases h
    · rw [takeR_no hh] at h
      simp only [Bool.false_eq_true, if_false, Option.bind_some] at h
      split at h
      · rename_i hs
        subst hs
        rw [List.append_nil] at hl
        subst hl
        unfold decM
        rw [cutL_none 46 l (okNum_dots ho)]
        exact ⟨_, by simp only [ho, if_true]; rfl⟩
      · cases h
theorem full_M (m p : Nat) (l : List UInt8) : fullR m p l = decM m p l := by
  cases h : decM m p l with
  | some v => exact full_of_M h
  | none =>
    cases h2 : fullR m p l with
    | none => rfl
    | some v => obtain ⟨u, hu⟩ := M_of_full h2; rw [h] at hu; cases hu

/-- A coordinate as a whole. -/
def fullC (l : List UInt8) : Option Int := (coordR l).bind fun x => if x.2 = [] then some x.1 else none
def rcC (l : List UInt8) : Int := match fullC l with | some _ => 0 | none => 5
def rcV (l : List UInt8) : Int := match fullC l with | some v => v | none => 0
theorem rc_no {l : List UInt8} (h : fullC l = none) : rcC l = 5 ∧ rcV l = 0 := by unfold rcC rcV; rw [h]; exact ⟨rfl, rfl⟩
theorem rc_yes {l : List UInt8} {v : Int} (h : fullC l = some v) : rcC l = 0 ∧ rcV l = v := by unfold rcC rcV; rw [h]; exact ⟨rfl, rfl⟩
theorem fullC_eq (l : List UInt8) : fullC l = (decM 6 9 (takeR 45 l).2).bind fun v => some (if (takeR 45 l).1 then -(v : Int) else (v : Int)) := by
  unfold fullC coordR
  rw [← full_M]
  unfold fullR
  cases decR 6 9 (takeR 45 l).2 with
  | none => rfl
  | some x =>
    simp only [Option.bind_some]
    split <;> rfl

end Go.Proofs.YtlhiahhpmjiioadGreatDoor
