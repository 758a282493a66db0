/-
  Plain facts on products of lists of limbs. No program is imported here. No condition.
-/
import Derived.Test.YtjndjjdffifgcaaPlain2
namespace Go.Proofs.Ytjndjjdffifgcaa

theorem val_append : ∀ (L W : List Int), val (L ++ W) = ap L (val W)
  | [], _ => rfl
  | d :: L, W => by simp only [List.cons_append, val, ap]; rw [val_append L W]
theorem val_zeros : ∀ (n : Nat), val (List.replicate n 0) = 0
  | 0 => rfl
  | n + 1 => by simp only [List.replicate_succ, val]; rw [val_zeros n]; rfl
theorem val_take_succ (xs : List Int) (i : Nat) (hi : i < xs.length) : val (xs.take (i + 1)) = val (xs.take i) + pw i * xs.getD i 0 := by
  rw [List.take_succ_eq_append_getElem hi, val_append, ap_pw]
  have e : (xs.take i).length = i := by simp; omega
  rw [e]
  congr 2
  simp [val, List.getD_eq_getElem?_getD, hi]
theorem AllLimbs.append {xs ys : List Int} (h : AllLimbs xs) (h' : AllLimbs ys) : AllLimbs (xs ++ ys) := fun i hi => by
  by_cases e : i < xs.length
  · have := h i e
    simp only [List.getD_eq_getElem?_getD, List.getElem?_append_left e] at this ⊢; exact this
  · have := h' (i - xs.length) (by simp at hi; omega)
    simp only [List.getD_eq_getElem?_getD, List.getElem?_append_right (Nat.not_lt.1 e)] at this ⊢; exact this
theorem AllLimbs.zeros (n : Nat) : AllLimbs (List.replicate n 0) := fun i hi => by
  have : i < n := by simpa using hi
  simp [List.getD_eq_getElem?_getD, this]
theorem no_carryP {out : List Int} {cy T : Int} {n : Nat} (ho : AllLimbs out) (hl : out.length = n) (hT : 0 ≤ T ∧ T < pw n) (h : ap out cy = T) : cy = 0 ∧ val out = T := by
  have h1 := ho.val
  rw [ap_pw, hl] at h
  rw [hl] at h1
  have hp := pw_pos n
  generalize pw n = P at *
  have hc : cy = 0 := by
    rcases Int.lt_trichotomy cy 0 with hc | hc | hc
    · have : P * cy ≤ P * (-1) := Int.mul_le_mul_of_nonneg_left (by omega) (by omega)
      omega
    · exact hc
    · have : P * 1 ≤ P * cy := Int.mul_le_mul_of_nonneg_left (by omega) (by omega)
      omega
  subst hc
  simp at h; exact ⟨rfl, h⟩

theorem Upd.eq {cs ds out : List Int} {off : Nat} (h : Upd cs off out ds) (hl : off + out.length ≤ cs.length) : ds = cs.take off ++ (out ++ cs.drop (off + out.length)) := by
  have hlen : (cs.take off).length = off := by simp; omega
  refine getD_ext (by rw [h.len]; simp; omega) (fun i hi => ?_)
  rw [h.len] at hi
  by_cases e1 : i < off
  · rw [h.old i (Or.inl e1)]
    simp only [List.getD_eq_getElem?_getD]
    rw [List.getElem?_append_left (by omega), List.getElem?_take, if_pos e1]
  · by_cases e2 : i < off + out.length
    · have := h.new (i - off) (by omega)
      rw [show off + (i - off) = i by omega] at this
      rw [this]
      simp only [List.getD_eq_getElem?_getD]
      rw [List.getElem?_append_right (by omega), hlen, List.getElem?_append_left (by omega)]
    · rw [h.old i (Or.inr (by omega))]
      simp only [List.getD_eq_getElem?_getD]
      rw [List.getElem?_append_right (by omega), hlen, List.getElem?_append_right (by omega), List.getElem?_drop]
      congr 2
      omega
theorem Upd.pad {cs ds out : List Int} {off : Nat} (h : Upd cs off out ds) (_hl : off + out.length < cs.length) (hz : cs.getD (off + out.length) 0 = 0) : Upd cs off (out ++ [0]) ds := by
  refine ⟨h.len, fun i hi => ?_, fun j hj => h.old j (by simp at hj; omega)⟩
  by_cases e : i < out.length
  · rw [h.new i e]
    simp only [List.getD_eq_getElem?_getD]
    rw [List.getElem?_append_left e]
  · have : i = out.length := by simp at hi; omega
    subst this
    rw [h.old _ (Or.inr (Nat.le_refl _)), hz]
    simp [List.getD_eq_getElem?_getD]

/-- A product behind i limbs of the first factor: the limbs that are done, the window that still turns, zeros. -/
def MulAt (xs ys : List Int) (i : Nat) (P : List Int) : Prop :=
  ∃ L W, P = L ++ (W ++ List.replicate (xs.length - i) 0) ∧ L.length = i ∧ W.length = ys.length ∧ AllLimbs L ∧ AllLimbs W ∧ ap L (val W) = val (xs.take i) * val ys

theorem MulAt.start (xs ys : List Int) : MulAt xs ys 0 (List.replicate (xs.length + ys.length) 0) :=
  ⟨[], List.replicate ys.length 0, by rw [List.nil_append, List.replicate_append_replicate]; congr 1; omega, rfl, by simp, fun i hi => by simp at hi, AllLimbs.zeros _, by simp [ap, val_zeros, val]⟩
theorem MulAt.length {xs ys P : List Int} {i : Nat} (h : MulAt xs ys i P) (hi : i ≤ xs.length) : P.length = xs.length + ys.length := by
  obtain ⟨L, W, rfl, h1, h2, _⟩ := h
  simp; omega
theorem MulAt.limbs {xs ys P : List Int} {i : Nat} (h : MulAt xs ys i P) : AllLimbs P := by
  obtain ⟨L, W, rfl, _, _, h3, h4, _⟩ := h
  exact h3.append (h4.append (AllLimbs.zeros _))
theorem MulAt.done {xs ys P : List Int} (h : MulAt xs ys xs.length P) : val P = val xs * val ys := by
  obtain ⟨L, W, rfl, _, _, _, _, h5⟩ := h
  rw [Nat.sub_self, List.replicate_zero, List.append_nil, val_append, h5, List.take_of_length_le (Nat.le_refl _)]

/-- The window at place i: as many limbs as the second factor has, and a 0 above them. -/
theorem MulAt.window {xs ys P : List Int} {i : Nat} (h : MulAt xs ys i P) (hi : i < xs.length) :
    ∃ W, W.length = ys.length ∧ AllLimbs (W ++ [0]) ∧ (∀ j, j < ys.length + 1 → P.getD (i + j) 0 = (W ++ [0]).getD j 0) ∧ 0 ≤ val W ∧ val W < pw ys.length ∧
      ∀ x out ds, 0 ≤ x → x ≤ 65535 → AllLimbs ys → x = xs.getD i 0 → AllLimbs out → out.length = ys.length + 1 → val out = val W + x * val ys → Upd P i out ds → MulAt xs ys (i + 1) ds := by
  obtain ⟨L, W, rfl, h1, h2, h3, h4, h5⟩ := h
  have hw := h4.val
  rw [h2] at hw
  refine ⟨W, h2, h4.snoc (by omega), fun j hj => ?_, hw.1, hw.2, ?_⟩
  · simp only [List.getD_eq_getElem?_getD]
    rw [List.getElem?_append_right (by omega), show i + j - L.length = j by omega]
    by_cases e : j < W.length
    · rw [List.getElem?_append_left e, List.getElem?_append_left e]
    · have e2 : j = W.length := by omega
      subst e2
      rw [List.getElem?_append_right (Nat.le_refl _), List.getElem?_append_right (Nat.le_refl _), Nat.sub_self]
      obtain ⟨r, hr⟩ : ∃ r, xs.length - i = r + 1 := ⟨xs.length - i - 1, by omega⟩
      rw [hr, List.replicate_succ]; rfl
  · intro x out ds hx0 hx1 hys hx ho hol hv hu
    have hlen : (L ++ (W ++ List.replicate (xs.length - i) 0)).length = xs.length + ys.length := by simp; omega
    have heq := hu.eq (by rw [hlen, hol]; omega)
    have e1 : (L ++ (W ++ List.replicate (xs.length - i) 0)).take i = L := by rw [← h1]; exact List.take_left
    have e3 : (L ++ (W ++ List.replicate (xs.length - i) (0 : Int))).drop i = W ++ List.replicate (xs.length - i) 0 := by rw [← h1]; exact List.drop_left
    have e4 : (W ++ List.replicate (xs.length - i) (0 : Int)).drop ys.length = List.replicate (xs.length - i) 0 := by rw [← h2]; exact List.drop_left
    have e2 : (L ++ (W ++ List.replicate (xs.length - i) 0)).drop (i + out.length) = List.replicate (xs.length - (i + 1)) 0 := by
      rw [← List.drop_drop, e3, hol, ← List.drop_drop, e4, List.drop_replicate]
      congr 1
    rw [e1, e2] at heq
    cases out with
    | nil => simp at hol
    | cons o O =>
      refine ⟨L ++ [o], O, by rw [heq]; simp, by simp [h1], by simpa using hol, h3.snoc ho.head, ho.tail, ?_⟩
      rw [ap_snoc, val_take_succ xs i hi, ← hx]
      have e3 : o + 65536 * val O = val W + x * val ys := by rw [← hv]; rfl
      rw [e3, ap_pw, h1, Int.mul_add, ← Int.add_assoc, Int.add_mul, ← h5, ap_pw, h1, Int.mul_assoc]

theorem mul_fits {A B x : Int} {m : Nat} (hA : 0 ≤ A ∧ A < pw m) (hB : 0 ≤ B ∧ B < pw m) (hx : 0 ≤ x ∧ x ≤ 65535) : 0 ≤ A + x * B ∧ A + x * B < pw (m + 1) := by
  have h1 : 0 ≤ x * B := Int.mul_nonneg hx.1 hB.1
  have h2 : x * B ≤ 65535 * B := Int.mul_le_mul_of_nonneg_right hx.2 hB.1
  simp only [pw]
  omega

end Go.Proofs.Ytjndjjdffifgcaa
