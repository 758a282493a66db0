/-
  Plain facts on stores: names, the fault of a named shape and of a store. No program is walked here. No condition.
-/
import Derived.Test.YtbljpeefekhoeabCooP
import Derived.Test.YtbljpeefekhoeabShpA
namespace Go.Proofs.Ytbljpeefekhoeab
open Go.RowKit

/-- The bytes of a text as numbers. -/
def bytesI (l : List UInt8) : List Int := l.map fun b => (b.toNat : Int)
theorem bytesI_len (l : List UInt8) : (bytesI l).length = l.length := by unfold bytesI; rw [List.length_map]
theorem bytesI_get {s : ByteArray} {k : Nat} (h : k < s.size) : (bytesI s.data.toList).getD k 0 = ((s[k]'h).toNat : Int) := by
  have h1 : k < s.data.toList.length := by rw [Array.length_toList]; exact h
  have e : (s[k]'h) = s.data.toList[k]'h1 := by rw [Array.getElem_toList]; rfl
  rw [e, bytesI, List.getD_eq_getElem?_getD, List.getElem?_eq_getElem (by simpa using h1), Option.getD_some, List.getElem_map]

/-- A byte that a name may have. -/
def NmC (x : Int) : Prop := (97 ≤ x ∧ x ≤ 122) ∨ (48 ≤ x ∧ x ≤ 57)
instance (x : Int) : Decidable (NmC x) := by unfold NmC; exact inferInstance
def NmTo (ds : List Int) (k : Nat) : Prop := ∀ i, i < k → NmC (ds.getD i 0)
instance (ds : List Int) (k : Nat) : Decidable (NmTo ds k) := by unfold NmTo; exact inferInstance
theorem NmTo.more {ds : List Int} {k : Nat} (h : NmTo ds k) (hd : NmC (ds.getD k 0)) : NmTo ds (k + 1) := by
  intro i hi
  by_cases he : i < k
  · exact h i he
  · obtain rfl : i = k := by omega
    exact hd
def isNm (l : List UInt8) : Bool := decide (1 ≤ l.length ∧ l.length ≤ 8 ∧ NmTo (bytesI l) l.length)
theorem isNm_len {l : List UInt8} (h : isNm l = true) : 1 ≤ l.length ∧ l.length ≤ 8 := by
  have h := of_decide_eq_true h
  exact ⟨h.1, h.2.1⟩
theorem isNm_short {l : List UInt8} (h : ¬ (1 ≤ l.length ∧ l.length ≤ 8)) : isNm l = false := decide_eq_false (fun x => h ⟨x.1, x.2.1⟩)
theorem isNm_bad {l : List UInt8} {k : Nat} (hk : k < l.length) (h : ¬ NmC ((bytesI l).getD k 0)) : isNm l = false := decide_eq_false (fun x => h (x.2.2 k hk))
theorem isNm_all {l : List UInt8} (h : 1 ≤ l.length ∧ l.length ≤ 8) (ho : NmTo (bytesI l) l.length) : isNm l = true := decide_eq_true ⟨h.1, h.2, ho⟩

/-- A named shape: its name, its kind, how many points, and their numbers, two a point. -/
structure Sh where
  nm : List UInt8
  k : Int
  n : Nat
  xs : List Int
def sh0 : Sh := ⟨[], 0, 0, []⟩
instance : Inhabited Sh := ⟨sh0⟩
/-- The fault of a named shape. -/
def namedC (s : Sh) : Int := if isNm s.nm = true then shapeC s.k s.xs s.n else 5
theorem namedC_no {s : Sh} (h : isNm s.nm = false) : namedC s = 5 := by unfold namedC; rw [if_neg (by rw [h]; simp)]
theorem namedC_yes {s : Sh} (h : isNm s.nm = true) : namedC s = shapeC s.k s.xs s.n := by unfold namedC; rw [if_pos h]
theorem namedC_ok {s : Sh} (h : namedC s = 0) : isNm s.nm = true ∧ shapeC s.k s.xs s.n = 0 := by
  unfold namedC at h
  by_cases hn : isNm s.nm = true
  · rw [if_pos hn] at h; exact ⟨hn, h⟩
  · rw [if_neg hn] at h; omega
/-- The first fault of named shapes. -/
def firstS : List Sh → Int
  | [] => 0
  | s :: r => if namedC s = 0 then firstS r else namedC s
/-- The first k have no fault. -/
def OkTo (L : List Sh) (k : Nat) : Prop := ∀ i, i < k → namedC (L.getD i sh0) = 0
theorem OkTo.more {L : List Sh} {k : Nat} (h : OkTo L k) (hd : namedC (L.getD k sh0) = 0) : OkTo L (k + 1) := by
  intro i hi
  by_cases he : i < k
  · exact h i he
  · obtain rfl : i = k := by omega
    exact hd
theorem firstS_all : ∀ {L : List Sh}, OkTo L L.length → firstS L = 0
  | [], _ => rfl
  | s :: r, h => by
    have h0 := h 0 (by simp)
    simp only [List.getD_cons_zero] at h0
    rw [firstS, if_pos h0]
    refine firstS_all fun i hi => ?_
    have := h (i + 1) (by simpa using hi)
    simpa using this
theorem firstS_at : ∀ {L : List Sh} {k : Nat}, OkTo L k → k < L.length → namedC (L.getD k sh0) ≠ 0 → firstS L = namedC (L.getD k sh0)
  | [], k, _, hk, _ => by simp at hk
  | s :: r, 0, _, _, hne => by
    simp only [List.getD_cons_zero] at hne ⊢
    rw [firstS, if_neg hne]
  | s :: r, k + 1, h, hk, hne => by
    have h0 := h 0 (by omega)
    simp only [List.getD_cons_zero] at h0
    simp only [List.getD_cons_succ] at hne ⊢
    rw [firstS, if_pos h0]
    refine firstS_at (fun i hi => ?_) (by simpa using hk) hne
    have := h (i + 1) (by omega)
    simpa using this
theorem firstS_ok : ∀ {L : List Sh}, firstS L = 0 → OkTo L L.length
  | [], _ => fun i hi => by simp at hi
  | s :: r, h => by
    rw [firstS] at h
    by_cases h0 : namedC s = 0
    · rw [if_pos h0] at h
      intro i hi
      cases i with
      | zero => simpa using h0
      | succ i => simpa using firstS_ok h i (by simpa using hi)
    · rw [if_neg h0] at h; exact absurd h h0

/-- The names rise up to place k. -/
def RiseTo (L : List Sh) (k : Nat) : Prop := ∀ i, i + 1 < k → (L.getD i sh0).nm < (L.getD (i + 1) sh0).nm
instance (L : List Sh) (k : Nat) : Decidable (RiseTo L k) :=
  if h : ∀ i, i < k → i + 1 < k → (L.getD i sh0).nm < (L.getD (i + 1) sh0).nm then .isTrue (fun i hi => h i (by omega) hi) else .isFalse (fun x => h (fun i _ hi => x i hi))
theorem RiseTo.more {L : List Sh} {k : Nat} (h : RiseTo L (k + 1)) (hd : (L.getD k sh0).nm < (L.getD (k + 1) sh0).nm) : RiseTo L (k + 1 + 1) := by
  intro i hi
  by_cases he : i + 1 < k + 1
  · exact h i he
  · obtain rfl : i = k := by omega
    exact hd
theorem RiseTo.start (L : List Sh) : RiseTo L 1 := fun i hi => by omega
/-- The fault of a store. -/
def storeC (L : List Sh) : Int := if 10 < L.length then 2 else if firstS L = 0 then (if RiseTo L L.length then 0 else 1) else firstS L
theorem storeC_many {L : List Sh} (h : 10 < L.length) : storeC L = 2 := if_pos h
theorem storeC_first {L : List Sh} (h : ¬ 10 < L.length) (hf : firstS L ≠ 0) : storeC L = firstS L := by unfold storeC; rw [if_neg h, if_neg hf]
theorem storeC_form {L : List Sh} (h : ¬ 10 < L.length) (hf : firstS L = 0) {k : Nat} (hk : k + 1 < L.length) (hr : ¬ (L.getD k sh0).nm < (L.getD (k + 1) sh0).nm) : storeC L = 1 := by
  unfold storeC; rw [if_neg h, if_pos hf, if_neg (fun x => hr (x k hk))]
theorem storeC_yes {L : List Sh} (h : ¬ 10 < L.length) (hf : firstS L = 0) (hr : RiseTo L L.length) : storeC L = 0 := by
  unfold storeC; rw [if_neg h, if_pos hf, if_pos hr]
theorem storeC_ok {L : List Sh} (h : storeC L = 0) : L.length ≤ 10 ∧ OkTo L L.length ∧ RiseTo L L.length := by
  unfold storeC at h
  by_cases h1 : 10 < L.length
  · rw [if_pos h1] at h; omega
  · rw [if_neg h1] at h
    by_cases h2 : firstS L = 0
    · rw [if_pos h2] at h
      by_cases h3 : RiseTo L L.length
      · exact ⟨by omega, firstS_ok h2, h3⟩
      · rw [if_neg h3] at h; omega
    · rw [if_neg h2] at h; exact absurd h h2

/-- How texts are compared. -/
theorem less_dec : ∀ (x y : List UInt8), Op.bytesLess x y = decide (x < y)
  | [], [] => by simp [Op.bytesLess]
  | _ :: _, [] => by simp [Op.bytesLess]
  | [], _ :: _ => by simp [Op.bytesLess]
  | a :: x, b :: y => by
    rw [Op.bytesLess, less_dec x y]
    simp only [List.cons_lt_cons_iff]
    by_cases h1 : a < b <;> by_cases h2 : a = b <;> by_cases h3 : x < y <;> simp [h1, h2, h3]
theorem less_str (x y : List UInt8) : Op.bytesLess (strB x).toList (strB y).toList = decide (x < y) := by
  rw [ByteArray.toList_eq, ByteArray.toList_eq]; exact less_dec x y
theorem same_str (x y : List UInt8) : ((strB x).toList == (strB y).toList) = decide (x = y) := by
  rw [ByteArray.toList_eq, ByteArray.toList_eq, strB_list, strB_list]
  by_cases h : x = y <;> simp [h]
/-- A slice of named shapes reads as these. -/
def RdSt (w : World) (a : Option Addr) (n : Nat) (L : List Sh) : Prop :=
  L.length = n ∧ n ≤ 3000000000000000000 ∧ ∀ i, i < n → ∃ g off p c, a = some ⟨g, off, none⟩ ∧ w.cell? ⟨g, off + i * 3, none⟩ = some (.string (strB (L.getD i sh0).nm)) ∧ w.cell? ⟨g, off + i * 3 + 1, none⟩ = some (.int .i64 (L.getD i sh0).k) ∧
    w.cell? ⟨g, off + i * 3 + 2, none⟩ = some (.slice p (L.getD i sh0).n c) ∧ Rd w p ((L.getD i sh0).n * 2) (L.getD i sh0).xs ∧ (L.getD i sh0).nm.length ≤ 9223372036854775807
theorem RdSt.kept0 {w w' : World} {a : Option Addr} {n : Nat} {L : List Sh} (h : RdSt w a n L) (k : Kept [] w w') : RdSt w' a n L :=
  ⟨h.1, h.2.1, fun i hi => by
    obtain ⟨g, off, p, c, ha, h1, h2, h3, h4, h5⟩ := h.2.2 i hi
    exact ⟨g, off, p, c, ha, k.cell h1 (by simp), k.cell h2 (by simp), k.cell h3 (by simp), h4.kept0 k, h5⟩⟩

end Go.Proofs.Ytbljpeefekhoeab
