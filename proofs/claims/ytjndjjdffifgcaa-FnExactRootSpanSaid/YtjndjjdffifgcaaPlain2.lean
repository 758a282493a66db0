/-
  Plain facts on lists of limbs: a list with a number behind it, trimming, one pass of a sum with carry. No program is imported here. No condition.
-/
import Derived.Test.YtjndjjdffifgcaaPlain
namespace Go.Proofs.Ytjndjjdffifgcaa

/-- The number of the limbs of a list with a number behind the last one. -/
def ap : List Int → Int → Int
  | [], x => x
  | d :: ds, x => d + 65536 * ap ds x
theorem ap_snoc : ∀ (ds : List Int) (d x : Int), ap (ds ++ [d]) x = ap ds (d + 65536 * x)
  | [], _, _ => rfl
  | e :: ds, d, x => by simp only [List.cons_append, ap]; rw [ap_snoc ds d x]
theorem ap_zero : ∀ (ds : List Int), ap ds 0 = val ds
  | [] => rfl
  | d :: ds => by simp only [ap, val]; rw [ap_zero ds]
theorem ap_pw : ∀ (ds : List Int) (x : Int), ap ds x = val ds + pw ds.length * x
  | [], x => by simp [ap, val, pw]
  | d :: ds, x => by
    simp only [ap, val, pw, List.length_cons]
    rw [ap_pw ds x, Int.mul_add, Int.mul_assoc]; omega

/-- Each number of a list is a limb. -/
def AllLimbs (xs : List Int) : Prop := ∀ i, i < xs.length → 0 ≤ xs.getD i 0 ∧ xs.getD i 0 ≤ 65535
theorem AllLimbs.snoc {xs : List Int} (h : AllLimbs xs) {d : Int} (hd : 0 ≤ d ∧ d ≤ 65535) : AllLimbs (xs ++ [d]) := by
  intro i hi
  by_cases e : i < xs.length
  · have := h i e
    simp only [List.getD_eq_getElem?_getD, List.getElem?_append_left e] at this ⊢; exact this
  · have : i = xs.length := by simp at hi; omega
    subst this
    simpa [List.getD_eq_getElem?_getD] using hd
theorem AllLimbs.tail {x : Int} {xs : List Int} (h : AllLimbs (x :: xs)) : AllLimbs xs := fun i hi => by
  have := h (i + 1) (by simpa using hi); simpa using this
theorem AllLimbs.head {x : Int} {xs : List Int} (h : AllLimbs (x :: xs)) : 0 ≤ x ∧ x ≤ 65535 := by have := h 0 (by simp); simpa using this
theorem AllLimbs.val : ∀ {xs : List Int}, AllLimbs xs → 0 ≤ val xs ∧ val xs < pw xs.length
  | [], _ => by simp [Proofs.Ytjndjjdffifgcaa.val, pw]
  | x :: xs, h => by
    have h1 := h.head
    have h2 := h.tail.val
    simp only [Proofs.Ytjndjjdffifgcaa.val, pw, List.length_cons]
    omega
theorem AllLimbs.take {xs : List Int} (h : AllLimbs xs) (k : Nat) : AllLimbs (xs.take k) := by
  intro i hi
  simp only [List.length_take] at hi
  have := h i (by omega)
  simp only [List.getD_eq_getElem?_getD, List.getElem?_take, show i < k by omega, if_true] at this ⊢; exact this
theorem AllLimbs.drop {xs : List Int} (h : AllLimbs xs) (k : Nat) : AllLimbs (xs.drop k) := by
  intro i hi
  simp only [List.length_drop] at hi
  have := h (k + i) (by omega)
  simp only [List.getD_eq_getElem?_getD, List.getElem?_drop] at this ⊢; exact this

/-- Where the numbers behind place k are all 0, and the one ahead of it is not, the first k are the number's limbs. -/
theorem take_digits {xs : List Int} (h : AllLimbs xs) (k : Nat) (hk : k ≤ xs.length) (hz : ∀ j, k ≤ j → j < xs.length → xs.getD j 0 = 0) (ht : 0 < k → xs.getD (k - 1) 0 ≠ 0) : xs.take k = digits (val xs) := by
  have hl : (xs.take k).length = k := by simp; omega
  have hg : ∀ i, i < k → (xs.take k).getD i 0 = xs.getD i 0 := fun i hi => by
    simp only [List.getD_eq_getElem?_getD, List.getElem?_take, hi, if_true]
  have hc : Canon (xs.take k) := canon_of_get _ (h.take k) (fun hp => by rw [hl] at hp ⊢; rw [hg _ (by omega)]; exact ht hp)
  have hv : val (xs.take k) = val xs := by
    refine val_eq_at xs.length (by omega) (Nat.le_refl _) (fun j hj => ?_)
    by_cases e : j < k
    · exact hg j e
    · rw [hz j (by omega) hj, List.getD_eq_getElem?_getD, List.getElem?_eq_none (by omega)]; rfl
  rw [← hv, digits_val hc]

/-- From place off on a list was overwritten by out. -/
structure Upd (cs : List Int) (off : Nat) (out ds : List Int) : Prop where
  len : ds.length = cs.length
  new : ∀ i, i < out.length → ds.getD (off + i) 0 = out.getD i 0
  old : ∀ j, (j < off ∨ off + out.length ≤ j) → ds.getD j 0 = cs.getD j 0
theorem Upd.refl (cs : List Int) (off : Nat) : Upd cs off [] cs := ⟨rfl, fun i hi => by simp at hi, fun _ _ => rfl⟩
theorem Upd.snoc {cs ds out : List Int} {off : Nat} (h : Upd cs off out ds) (y : Int) (hl : off + out.length < cs.length) : Upd cs off (out ++ [y]) (ds.set (off + out.length) y) := by
  refine ⟨by rw [List.length_set]; exact h.len, fun i hi => ?_, fun j hj => ?_⟩
  · have hlen := h.len
    by_cases e : i = out.length
    · subst e
      simp [List.getD_eq_getElem?_getD, show off + out.length < ds.length by omega]
    · have hi2 : i < out.length := by simp at hi; omega
      have := h.new i hi2
      simp only [List.getD_eq_getElem?_getD, List.getElem?_append_left hi2] at this ⊢
      rw [List.getElem?_set_ne (by omega)]; exact this
  · have hj2 : j < off ∨ off + (out.length + 1) ≤ j := by simpa using hj
    have := h.old j (by omega)
    simp only [List.getD_eq_getElem?_getD] at this ⊢
    rw [List.getElem?_set_ne (by omega)]; exact this
theorem getD_ext {xs ys : List Int} (hl : xs.length = ys.length) (h : ∀ i, i < xs.length → xs.getD i 0 = ys.getD i 0) : xs = ys := by
  apply List.ext_getElem hl
  intro i h1 h2
  have := h i h1
  simpa [List.getD_eq_getElem?_getD, h1, h2] using this
theorem Upd.whole {cs ds out : List Int} (h : Upd cs 0 out ds) (hl : out.length = cs.length) : ds = out :=
  getD_ext (by rw [h.len, hl]) (fun i hi => by have := h.new i (by rw [hl, ← h.len]; exact hi); rwa [Nat.zero_add] at this)

/-- What is left to be added at place k: the limbs ss from there on, and t times the number f from there on. -/
def rest (ss : List Int) (f : Nat → Int) (t : Int) (k : Nat) : Int := val (ss.drop k) + t * vf (fun i => f (k + i)) (ss.length - k)
theorem rest_step (ss : List Int) (f : Nat → Int) (t : Int) (k : Nat) (hk : k < ss.length) : rest ss f t k = ss.getD k 0 + t * f k + 65536 * rest ss f t (k + 1) := by
  unfold rest
  obtain ⟨m, hm⟩ : ∃ m, ss.length - k = m + 1 := ⟨ss.length - k - 1, by omega⟩
  rw [hm, show ss.length - (k + 1) = m by omega, List.drop_eq_getElem_cons hk]
  have e : (fun i => f (k + (i + 1))) = (fun i => f (k + 1 + i)) := by funext i; congr 1; omega
  simp only [val, vf, Nat.add_zero, e]
  rw [Int.mul_add, Int.mul_add, Int.mul_left_comm]
  simp [List.getD_eq_getElem?_getD, hk]
  omega
theorem rest_end (ss : List Int) (f : Nat → Int) (t : Int) : rest ss f t ss.length = 0 := by
  unfold rest; simp [val, vf]
theorem rest_start (ss : List Int) (f : Nat → Int) (t : Int) : rest ss f t 0 = val ss + t * vf f ss.length := by
  unfold rest; simp
theorem mul_bd (t y : Int) (ht : -1048576 ≤ t ∧ t ≤ 1048576) (hy : 0 ≤ y ∧ y ≤ 65535) : -68719476736 ≤ t * y ∧ t * y ≤ 68719476736 := by
  have h1 : t * y ≤ 1048576 * y := Int.mul_le_mul_of_nonneg_right ht.2 hy.1
  have h2 : -1048576 * y ≤ t * y := Int.mul_le_mul_of_nonneg_right ht.1 hy.1
  omega

theorem val_drop : ∀ (xs : List Int) (k : Nat), val (xs.drop k) = xs.getD k 0 + 65536 * val (xs.drop (k + 1))
  | [], k => by simp [val]
  | x :: xs, 0 => by simp [val]
  | x :: xs, k + 1 => by have := val_drop xs k; simpa using this

/-- A list of limbs whose last is not 0 is what its number's limbs are. -/
theorem digits_of_limbs {xs : List Int} (h : AllLimbs xs) (ht : 0 < xs.length → xs.getD (xs.length - 1) 0 ≠ 0) : xs = digits (val xs) :=
  (digits_val (canon_of_get xs h ht)).symm
theorem canon_limbs {xs : List Int} (h : Canon xs) : AllLimbs xs := (canon_get h).1
theorem canon_top {xs : List Int} (h : Canon xs) (k : Nat) (hk : k + 1 = xs.length) : 0 < xs.getD k 0 := by
  have h1 := (canon_get h).2 (by omega)
  have h2 := canon_limbs h k (by omega)
  rw [show xs.length - 1 = k by omega] at h1
  omega
theorem getD_limb {xs : List Int} (h : AllLimbs xs) (k : Nat) : 0 ≤ xs.getD k 0 ∧ xs.getD k 0 ≤ 65535 := by
  by_cases e : k < xs.length
  · exact h k e
  · rw [List.getD_eq_getElem?_getD, List.getElem?_eq_none (by omega)]; simp
theorem getD_past {xs : List Int} {k : Nat} (h : xs.length ≤ k) : xs.getD k 0 = 0 := by
  rw [List.getD_eq_getElem?_getD, List.getElem?_eq_none (by omega)]; rfl
theorem getD_last (xs : List Int) (d : Int) : (xs ++ [d]).getD ((xs ++ [d]).length - 1) 0 = d := by simp [List.getD_eq_getElem?_getD]

end Go.Proofs.Ytjndjjdffifgcaa
