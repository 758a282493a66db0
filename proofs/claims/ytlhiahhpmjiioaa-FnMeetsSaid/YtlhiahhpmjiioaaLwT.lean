/-
  Several of my texts joined: the contracts of the functions that they name, each with the conditions that it states.
-/
import Derived.Shelf.Strings.Builder1
import Derived.Shelf.Strings.Builder2
import Derived.Test.YtlhiahhpmjiioaaProg
import Derived.Test.YtlhiahhpmjiioaaJ1
import Derived.Laws.AppendOwn
import Derived.Deep.RegionHeld3
import Derived.Deep.DrawnRows
import Derived.Deep.DeepCutAuto
import Derived.Test.YtlhiahhpmjiioaaShort
import Derived.Laws.BytesArg
import Derived.Test.YtlhiahhpmjiioaaSSub
import Derived.Test.YtlhiahhpmjiioaaNatOf
import Derived.Test.YtlhiahhpmjiioaaJ2
import Derived.Test.YtlhiahhpmjiioaaDiv
import Derived.Test.YtlhiahhpmjiioaaMul
import Derived.Test.YtlhiahhpmjiioaaSMul
import Derived.Test.YtlhiahhpmjiioaaSRoot
import Derived.Test.YtlhiahhpmjiioaaDrwA
namespace Go.Proofs
open Go.Shelf
end Go.Proofs

namespace Go.Proofs.Ytlhiahhpmjiioaa
open Go.RowKit Go.Proofs

theorem Try.infoByte : (Try.prog.info? 5).map (fun i => (i.zero, i.size, i.bytes)) = some (some (.int .u8 0), 1, 1) := by kernel_rfl

end Go.Proofs.Ytlhiahhpmjiioaa

namespace Go.Proofs.Ytlhiahhpmjiioaa
open Go.RowKit

/-- The j-th byte of a limb. -/
def byteAt (x : Int) (j : Nat) : Int := x / 2 ^ (8 * j) % 256
def limbB (x : Int) (j : Nat) : List UInt8 := (List.range j).map fun i => UInt8.ofNat (byteAt x i).toNat
def keyL (xs : List Int) (k : Nat) : List UInt8 := (xs.take k).flatMap fun x => limbB x 8
theorem byteAt_in (x : Int) (j : Nat) : 0 ≤ byteAt x j ∧ byteAt x j < 256 := by
  unfold byteAt
  omega
theorem limbB_succ (x : Int) (j : Nat) : limbB x (j + 1) = limbB x j ++ [UInt8.ofNat (byteAt x j).toNat] := by simp [limbB, List.range_succ]
theorem limbB_len (x : Int) (j : Nat) : (limbB x j).length = j := by simp [limbB]
theorem keyL_succ {xs : List Int} {k : Nat} {x : Int} (h : k < xs.length) (hx : xs.getD k 0 = x) : keyL xs (k + 1) = keyL xs k ++ limbB x 8 := by
  unfold keyL
  rw [List.take_succ_eq_append_getElem h, List.flatMap_append]
  congr 1
  have : xs[k] = x := by rw [← hx]; simp [List.getD_eq_getElem?_getD, h]
  simp [this]
theorem keyL_len (xs : List Int) (k : Nat) (hk : k ≤ xs.length) : (keyL xs k).length = 8 * k := by
  induction k with
  | zero => simp [keyL]
  | succ k ih =>
    rw [keyL_succ (by omega) rfl, List.length_append, ih (by omega), limbB_len]
    omega

theorem drew_cellB {w : World} {p : Addr} {v : Value} (h : w.cell? p = some v) : w.drew.cell? p = some v := h
theorem btrans {B : Nat} {a b c : World} (h : Hid (Below B a b)) (k : Below (B + 1) b c) : Hid (Below B a c) := Lib.hid (h.out.trans (k.mono (by omega)))
theorem bset2 {B : Nat} {w v : World} {x y : Value} (h : Hid (Below B w v)) : Hid (Below B w ((v.setCell ⟨B, 0, none⟩ x).setCell ⟨B, 1, none⟩ y)) :=
  Lib.hid ((h.out.setCell (p := ⟨B, 0, none⟩) (Nat.le_refl _) _).setCell (p := ⟨B, 1, none⟩) (Nat.le_refl _) _)
theorem cset2 {B : Nat} {v : World} {x y z : Value} (h : v.cell? ⟨B, 0, none⟩ = some z) : ((v.setCell ⟨B + 1, 0, none⟩ x).setCell ⟨B + 1, 1, none⟩ y).cell? ⟨B, 0, none⟩ = some z := by
  rw [World.cell?_setCell_other _ _ _ _ (by simp), World.cell?_setCell_other _ _ _ _ (by simp)]; exact h
theorem bcell {B : Nat} {w v : World} {z : Value} (h : Below (B + 1 + 1) w v) (hc : w.cell? ⟨B, 0, none⟩ = some z) : v.cell? ⟨B, 0, none⟩ = some z := (h.cell (by show B < _; omega)).trans hc

end Go.Proofs.Ytlhiahhpmjiioaa

namespace Go.Proofs.Ytlhiahhpmjiioaa
open Go.RowKit

/-- That two bigs are the same in both fields. -/
def sameB (p : Bool) (xs : List Int) (q : Bool) (ys : List Int) : Bool := (p == q) && decide (xs = ys)

/-- Words of 64 bits. -/
def In64 (xs : List Int) : Prop := ∀ z ∈ xs, -9223372036854775808 ≤ z ∧ z ≤ 9223372036854775807

theorem in64_of_row {w : World} {a : Option Addr} {len cap : Nat} {zs : List Int}
    (h : (a = none ∧ len = 0 ∧ cap = 0 ∧ zs = []) ∨
      ∃ x, a = some x ∧ len ≤ cap ∧ cap ≤ maxLen ∧ zs.length = cap ∧ (∀ i, i < zs.length → w.cell? (x.add i) = some (.int .i64 (zs.getD i 0))) ∧ ∀ n ∈ zs, (Lit.int .i64 n).wf = true) :
    In64 (zs.take len) := by
  intro z hz
  have hz' := List.mem_of_mem_take hz
  rcases h with ⟨_, _, _, rfl⟩ | ⟨_, _, _, _, _, _, hw⟩
  · cases hz'
  · have h1 : (decide (IntKind.i64.min ≤ z) && decide (z ≤ IntKind.i64.max)) = true := hw z hz'
    have hmin : IntKind.i64.min = -9223372036854775808 := rfl
    have hmax : IntKind.i64.max = 9223372036854775807 := rfl
    simp only [Bool.and_eq_true, decide_eq_true_eq, hmin, hmax] at h1
    exact h1

theorem byte_inj {x y : Int} {j : Nat} (h : UInt8.ofNat (byteAt x j).toNat = UInt8.ofNat (byteAt y j).toNat) : byteAt x j = byteAt y j := by
  have h1 := byteAt_in x j
  have h2 := byteAt_in y j
  have h3 := congrArg UInt8.toNat h
  simp at h3
  omega
theorem limb_inj {x y : Int} (hx : -9223372036854775808 ≤ x ∧ x ≤ 9223372036854775807) (hy : -9223372036854775808 ≤ y ∧ y ≤ 9223372036854775807) (h : limbB x 8 = limbB y 8) : x = y := by
  simp only [limbB, List.range_succ, List.range_zero, List.nil_append, List.map_cons, List.map_nil, List.cons_append, List.cons.injEq, and_true] at h
  obtain ⟨h0, h1, h2, h3, h4, h5, h6, h7⟩ := h
  have e0 := byte_inj h0
  have e1 := byte_inj h1
  have e2 := byte_inj h2
  have e3 := byte_inj h3
  have e4 := byte_inj h4
  have e5 := byte_inj h5
  have e6 := byte_inj h6
  have e7 := byte_inj h7
  clear h0 h1 h2 h3 h4 h5 h6 h7
  unfold byteAt at e0 e1 e2 e3 e4 e5 e6 e7
  simp only [Nat.mul_zero, Nat.reduceMul, Int.reducePow] at e0 e1 e2 e3 e4 e5 e6 e7
  omega
theorem key_inj : ∀ (xs ys : List Int), In64 xs → In64 ys → keyL xs xs.length = keyL ys ys.length → xs = ys := by
  intro xs
  induction xs with
  | nil =>
    intro ys _ _ h
    have h1 := congrArg List.length h
    rw [keyL_len _ _ (Nat.le_refl _), keyL_len _ _ (Nat.le_refl _)] at h1
    cases ys with
    | nil => rfl
    | cons y ys => simp at h1
  | cons x xs ih =>
    intro ys hx hy h
    cases ys with
    | nil =>
      have h1 := congrArg List.length h
      rw [keyL_len _ _ (Nat.le_refl _), keyL_len _ _ (Nat.le_refl _)] at h1
      simp at h1
    | cons y ys =>
      have h1 : limbB x 8 ++ keyL xs xs.length = limbB y 8 ++ keyL ys ys.length := by simpa [keyL] using h
      obtain ⟨h2, h3⟩ := List.append_inj h1 (by rw [limbB_len, limbB_len])
      rw [limb_inj (hx x (by simp)) (hy y (by simp)) h2, ih ys (fun z hz => hx z (by simp [hz])) (fun z hz => hy z (by simp [hz])) h3]

theorem sameB_key {p q : Bool} {xs ys : List Int} {n m : Nat} (hn : xs.length = n) (hm : ys.length = m) (hx : In64 xs) (hy : In64 ys) :
    (p == q && keyL xs n == keyL ys m) = sameB p xs q ys := by
  subst hn hm
  unfold sameB
  congr 1
  rw [Bool.eq_iff_iff]
  simp only [beq_iff_eq, decide_eq_true_eq]
  constructor
  · intro h
    exact key_inj xs ys hx hy h
  · rintro rfl
    rfl



/-- The lists are the same up to place k. -/
def SameTo (xs ys : List Int) (k : Nat) : Prop := ∀ i, i < k → xs.getD i 0 = ys.getD i 0
theorem sameTo_all {xs ys : List Int} (h : xs.length = ys.length) (hs : SameTo xs ys xs.length) : xs = ys := by
  apply List.ext_getElem h
  intro i h1 h2
  have := hs i h1
  simpa [List.getD_eq_getElem?_getD, h1, h2] using this

end Go.Proofs.Ytlhiahhpmjiioaa

namespace Go.Proofs.Ytlhiahhpmjiioaa

def minI : Int := -9223372036854775808
/-- What BigValue answers: the code and the number. -/
def outI (z : Int) : Prop := z < -9223372036854775808 ∨ 9223372036854775807 < z
instance (z : Int) : Decidable (outI z) := inferInstanceAs (Decidable (_ ∨ _))
def bvCode (p : Bool) (xs : List Int) : Int := if bigFault p xs = 0 then (if outI (sv p xs) then 7 else 0) else bigFault p xs
def bvVal (p : Bool) (xs : List Int) : Int := if bigFault p xs = 0 then (if outI (sv p xs) then 0 else sv p xs) else 0
/-- The program's test before a digit is taken: true when the number would fall under the least of a word. -/
theorem less_iff {v d : Int} (hd : 0 ≤ d ∧ d ≤ 9) : v < (-9223372036854775808 + d).tdiv 10 ↔ v * 10 - d < -9223372036854775808 := by
  have e : (-9223372036854775808 + d).tdiv 10 = -((9223372036854775808 - d) / 10) := by
    rw [show (-9223372036854775808 + d : Int) = -(9223372036854775808 - d) by omega, Int.neg_tdiv, Int.tdiv_eq_ediv_of_nonneg (by omega)]
  rw [e]; omega
/-- Once it has fallen under, more digits leave it under. -/
theorem under_more {v d : Int} (hd : 0 ≤ d) (h : v < -9223372036854775808) : v * 10 - d < -9223372036854775808 := by omega

end Go.Proofs.Ytlhiahhpmjiioaa

namespace Go.Proofs.Ytlhiahhpmjiioaa
open Go.RowKit

theorem strOfNums_append (x y : List Int) : strOfNums x ++ strOfNums y = strOfNums (x ++ y) := by
  unfold strOfNums
  rw [ByteArray.mk_append_mk, List.map_append]

theorem len_ge' {xs ys : List Int} (hx : Canon xs) (hy : Canon ys) (h : val ys ≤ val xs) : ys.length ≤ xs.length := by
  rcases Nat.lt_or_ge xs.length ys.length with h1 | h1
  · have : val xs < val ys := by
      refine val_lt_at (canon_get hx).1 (canon_get hy).1 ys.length (ys.length - 1) (by omega) (by omega) (Nat.le_refl _) (fun j h1 h2 => by omega) ?_
      have h1 := (canon_get hy).2 (by omega)
      have h2 := limb_getD (canon_get hy).1 (ys.length - 1)
      have h3 : xs.getD (ys.length - 1) 0 = 0 := getD_past (by omega)
      omega
    omega
  · exact h1

def textLeft : Value → Nat
  | .string S => 16001 - S.size
  | _ => 0

end Go.Proofs.Ytlhiahhpmjiioaa

namespace Go.Proofs.Ytlhiahhpmjiioaa
open Go.RowKit

end Go.Proofs.Ytlhiahhpmjiioaa

namespace Go.Proofs.Ytlhiahhpmjiioaa
open Go.RowKit

/-- The greatest int64. -/
def maxI : Int := 9223372036854775807
def valCode (xs : List Int) : Int := if natFault xs = 0 then (if maxI < val xs then 7 else 0) else natFault xs
def valVal (xs : List Int) : Int := if natFault xs = 0 then (if maxI < val xs then 0 else val xs) else 0

theorem val_drop_le {xs : List Int} (h : AllLimbs xs) : ∀ k, 0 ≤ val (xs.drop k) ∧ val (xs.drop k) ≤ val xs
  | 0 => by have := h.val; simp; omega
  | k + 1 => by
    have h1 := val_drop_le h k
    have h2 := val_drop xs k
    have h3 := (h.drop (k + 1)).val
    have h4 := getD_limb h k
    omega

end Go.Proofs.Ytlhiahhpmjiioaa

namespace Go.Proofs.Ytlhiahhpmjiioaa
open Go.RowKit

/-- The bytes of a text. -/
def bytesOf (s : ByteArray) : List Int := s.data.toList.map fun b => (b.toNat : Int)
theorem bytesOf_len (s : ByteArray) : (bytesOf s).length = s.size := by unfold bytesOf; rw [List.length_map, Array.length_toList]; rfl
theorem bytesOf_get {s : ByteArray} {k : Nat} (h : k < s.size) : (bytesOf s).getD k 0 = ((s[k]'h).toNat : Int) := by
  have h1 : k < s.data.toList.length := by rw [Array.length_toList]; exact h
  have e : (s[k]'h) = s.data.toList[k]'h1 := by rw [Array.getElem_toList]; rfl
  rw [e, bytesOf, List.getD_eq_getElem?_getD, List.getElem?_eq_getElem (by simpa using h1), Option.getD_some, List.getElem_map]

/-- Decimal digits, no 0 ahead but for 0 itself. -/
def NTx (ds : List Int) : Prop := 0 < ds.length ∧ (ds.getD 0 0 = 48 → ds.length = 1) ∧ Decs ds
instance (ds : List Int) : Decidable (Decs ds) := by unfold Decs; exact inferInstance
instance (ds : List Int) : Decidable (NTx ds) := by unfold NTx; exact inferInstance
/-- The digits up to place k. -/
def DecTo (ds : List Int) (k : Nat) : Prop := ∀ i, i < k → 48 ≤ ds.getD i 0 ∧ ds.getD i 0 ≤ 57
theorem decTo_all {ds : List Int} (h : DecTo ds ds.length) : Decs ds := by
  intro d hd
  obtain ⟨i, hi, rfl⟩ := List.getElem_of_mem hd
  have := h i hi
  simpa [List.getD_eq_getElem?_getD, hi] using this
theorem DecTo.more {ds : List Int} {k : Nat} {d : Int} (h : DecTo ds k) (hd : ds.getD k 0 = d) (h1 : 48 ≤ d ∧ d ≤ 57) : DecTo ds (k + 1) := by
  intro i hi
  by_cases he : i < k
  · exact h i he
  · obtain rfl : i = k := by omega
    rw [hd]; exact h1
theorem dec_at {ds : List Int} (h : Decs ds) {k : Nat} (hk : k < ds.length) : 48 ≤ ds.getD k 0 ∧ ds.getD k 0 ≤ 57 := by
  rw [List.getD_eq_getElem?_getD, List.getElem?_eq_getElem hk, Option.getD_some]; exact h _ (List.getElem_mem hk)

def rnFit (ds : List Int) : Prop := (digits (num 0 ds)).length ≤ 40
instance (ds : List Int) : Decidable (rnFit ds) := by unfold rnFit; exact inferInstance
def rnCode (ds : List Int) : Int := if NTx ds then (if rnFit ds then 0 else 7) else 5
def rnLimbs (ds : List Int) : List Int := if NTx ds ∧ rnFit ds then digits (num 0 ds) else []
theorem rn_no {ds : List Int} (h : ¬ NTx ds) : rnCode ds = 5 ∧ rnLimbs ds = [] := ⟨if_neg h, if_neg (fun x => h x.1)⟩
theorem rn_full {ds : List Int} (h : NTx ds) {k : Nat} (hk : 40 < (digits (num 0 (ds.take k))).length) : rnCode ds = 7 ∧ rnLimbs ds = [] := by
  have hf : ¬ rnFit ds := by
    unfold rnFit
    have := digits_len_mono (num_take_le h.2.2 k).2
    omega
  exact ⟨by unfold rnCode; rw [if_pos h, if_neg hf], if_neg (fun x => hf x.2)⟩
theorem rn_yes {ds : List Int} (h : NTx ds) (hf : (digits (num 0 ds)).length ≤ 40) : rnCode ds = 0 ∧ rnLimbs ds = digits (num 0 ds) :=
  ⟨by unfold rnCode; rw [if_pos h, if_pos (show rnFit ds from hf)], if_pos ⟨h, hf⟩⟩

theorem rnLimbs_len (ds : List Int) : (rnLimbs ds).length ≤ 40 := by
  unfold rnLimbs
  split
  · rename_i h; exact h.2
  · simp

/-- Limbs with the value of a number that has as many. -/
theorem limbs_digits {out : List Int} {T : Int} (h : AllLimbs out) (hv : val out = T) (hl : out.length ≤ (digits T).length) : digits T = out := by
  subst hv
  refine (digits_of_limbs h (fun hp hz => ?_)).symm
  have h1 : AllLimbs (out.take (out.length - 1)) := fun i hi => by
    rw [List.length_take] at hi
    have := h i (by omega)
    rw [List.getD_eq_getElem?_getD, List.getElem?_take, if_pos (by omega), ← List.getD_eq_getElem?_getD]
    exact this
  have h2 : val out = val (out.take (out.length - 1)) := by
    have e : out = out.take (out.length - 1) ++ [out.getD (out.length - 1) 0] := by
      have h0 : out.length - 1 < out.length := by omega
      have h9 := List.take_succ_eq_append_getElem h0
      rw [show out.length - 1 + 1 = out.length by omega, List.take_length] at h9
      rw [List.getD_eq_getElem?_getD, List.getElem?_eq_getElem h0, Option.getD_some]
      exact h9
    rw [hz] at e
    have h3 := congrArg val e
    rw [val_append] at h3
    rw [h3]
    show ap _ (0 + 65536 * 0) = _
    rw [show (0 + 65536 * 0 : Int) = 0 by omega, ap_zero]
  have h4 := (val_pw_le h1 (n := out.length - 1) (by rw [List.length_take]; omega)).2
  have h5 := digits_len (out.length - 1) (val out) (by rw [h2]; exact h4)
  omega

end Go.Proofs.Ytlhiahhpmjiioaa

namespace Go.Proofs.Ytlhiahhpmjiioaa
open Go.RowKit

/-- What NatText answers: the code, and the text. -/
def textVal (xs : List Int) : ByteArray := if natFault xs = 0 then strOfNums (decText (val xs)) else ⟨#[]⟩

end Go.Proofs.Ytlhiahhpmjiioaa

namespace Go.Proofs.Ytlhiahhpmjiioaa
open Go.RowKit

/-- What sums and products of lists answer: the code and the limbs. -/
def sumC (xs ys : List Int) : Int := if fault2 xs ys = 0 then fitCode (val xs + val ys) else fault2 xs ys
def sumL (xs ys : List Int) : List Int := if fault2 xs ys = 0 then fitList (val xs + val ys) else []
def mulC (xs ys : List Int) : Int := if fault2 xs ys = 0 then fitCode (val xs * val ys) else fault2 xs ys
def mulL (xs ys : List Int) : List Int := if fault2 xs ys = 0 then fitList (val xs * val ys) else []

theorem fault2_of {xs ys : List Int} (h : natFault xs = 0) (h' : natFault ys = 0) : fault2 xs ys = 0 := by rw [fault2_second h]; exact h'
theorem canon_of_fault {xs : List Int} (h : natFault xs = 0) : Canon xs := have n := natFault_zero h; canon_of_get xs n.limb n.top
theorem fault_digits {v : Int} (h : (digits v).length ≤ 40) : natFault (digits v) = 0 := nat40_fault (nat40_of_canon (canon_digits' v) h)
theorem fault_lt {xs : List Int} (h : natFault xs = 0) : 0 ≤ val xs ∧ val xs < pw 40 := by
  have := val_pw_le (canon_limbs (canon_of_fault h)) (natFault_zero h).len
  exact this
theorem fitCode_zero {v : Int} (h : fitCode v = 0) : (digits v).length ≤ 40 ∧ fitList v = digits v := by
  unfold fitCode at h
  by_cases h1 : 40 < (digits v).length
  · rw [if_pos h1] at h; omega
  · exact ⟨by omega, if_neg h1⟩
theorem fitList_ok {v : Int} (h : v < pw 40) : fitList v = digits v := if_neg (by have := digits_len 40 v h; omega)
theorem mulC_zero {xs ys : List Int} (h : mulC xs ys = 0) : natFault xs = 0 ∧ natFault ys = 0 ∧ (digits (val xs * val ys)).length ≤ 40 ∧ mulL xs ys = digits (val xs * val ys) := by
  unfold mulC at h
  by_cases h1 : fault2 xs ys = 0
  · rw [if_pos h1] at h
    have h2 := fault2_zero h1
    have h3 := fitCode_zero h
    exact ⟨h2.1, h2.2, h3.1, by unfold mulL; rw [if_pos h1]; exact h3.2⟩
  · rw [if_neg h1] at h; exact absurd h h1
theorem sumC_zero {xs ys : List Int} (h : sumC xs ys = 0) : natFault xs = 0 ∧ natFault ys = 0 ∧ (digits (val xs + val ys)).length ≤ 40 ∧ sumL xs ys = digits (val xs + val ys) := by
  unfold sumC at h
  by_cases h1 : fault2 xs ys = 0
  · rw [if_pos h1] at h
    have h2 := fault2_zero h1
    have h3 := fitCode_zero h
    exact ⟨h2.1, h2.2, h3.1, by unfold sumL; rw [if_pos h1]; exact h3.2⟩
  · rw [if_neg h1] at h; exact absurd h h1

/-- A product is divided by one of both again. -/
theorem mul_back {us vs : List Int} (h : mulC us vs = 0) (hv : 0 < vs.length) :
    divCode (mulL us vs) vs = 0 ∧ divQuot (mulL us vs) vs = us ∧ divRest (mulL us vs) vs = [] ∧ mulL vs us = mulL us vs := by
  obtain ⟨hu, hw, hl, hm⟩ := mulC_zero h
  have hcu := canon_of_fault hu
  have hcv := canon_of_fault hw
  have hpos : 0 < val vs := (canon_nonneg hcv).2 (by intro e; rw [e] at hv; simp at hv)
  have hu0 := (canon_nonneg hcu).1
  have hf : fault2 (mulL us vs) vs = 0 := fault2_of (by rw [hm]; exact fault_digits hl) hw
  have hval : val (mulL us vs) = val us * val vs := by rw [hm]; exact val_digits' (Int.mul_nonneg hu0 (by omega))
  refine ⟨?_, ?_, ?_, ?_⟩
  · unfold divCode; rw [if_pos hf, if_neg (by omega)]
  · unfold divQuot; rw [if_pos ⟨hf, by omega⟩, hval, Int.mul_ediv_cancel _ (by omega)]; exact digits_val hcu
  · unfold divRest; rw [if_pos ⟨hf, by omega⟩, hval, Int.mul_emod_left]; exact digits_zero (Int.le_refl _)
  · rw [hm]; unfold mulL; rw [if_pos (fault2_of hw hu), Int.mul_comm (val vs), fitList, if_neg (by omega)]

/-- The quotient times the divisor and the rest are what was divided. -/
theorem div_back {xs ys : List Int} (h : divCode xs ys = 0) :
    (if fault2 (divRest xs ys) ys = 0 then cmpV (val (divRest xs ys)) (val ys) else 0) = -1 ∧ sumL (mulL (divQuot xs ys) ys) (divRest xs ys) = xs := by
  unfold divCode at h
  by_cases h1 : fault2 xs ys = 0
  · rw [if_pos h1] at h
    by_cases h2 : ys.length = 0
    · rw [if_pos h2] at h; omega
    have hb := fault2_zero h1
    have hcx := canon_of_fault hb.1
    have hcy := canon_of_fault hb.2
    have hpos : 0 < val ys := (canon_nonneg hcy).2 (by intro e; rw [e] at h2; simp at h2)
    have hx := fault_lt hb.1
    have hy := fault_lt hb.2
    have hq0 := Int.ediv_nonneg hx.1 (show 0 ≤ val ys by omega)
    have hr0 := Int.emod_nonneg (val xs) (show val ys ≠ 0 by omega)
    have hr1 := Int.emod_lt_of_pos (val xs) hpos
    have hqx := Int.ediv_le_self (val ys) hx.1
    have hqr := Int.mul_ediv_add_emod (val xs) (val ys)
    have hqy : val xs / val ys * val ys = val xs - val xs % val ys := by rw [Int.mul_comm]; omega
    have eq : divQuot xs ys = digits (val xs / val ys) := if_pos ⟨h1, h2⟩
    have er : divRest xs ys = digits (val xs % val ys) := if_pos ⟨h1, h2⟩
    have fq : natFault (divQuot xs ys) = 0 := by rw [eq]; exact fault_digits (digits_len 40 _ (by omega))
    have fr : natFault (divRest xs ys) = 0 := by rw [er]; exact fault_digits (digits_len 40 _ (by omega))
    have vq : val (divQuot xs ys) = val xs / val ys := by rw [eq]; exact val_digits' hq0
    have vr : val (divRest xs ys) = val xs % val ys := by rw [er]; exact val_digits' hr0
    have em : mulL (divQuot xs ys) ys = digits (val xs - val xs % val ys) := by
      unfold mulL
      rw [if_pos (fault2_of fq hb.2), vq, hqy]
      exact fitList_ok (by omega)
    have fm : natFault (mulL (divQuot xs ys) ys) = 0 := by rw [em]; exact fault_digits (digits_len 40 _ (by omega))
    have hle : 0 ≤ val xs - val xs % val ys := by rw [← hqy]; exact Int.mul_nonneg hq0 (by omega)
    have vm : val (mulL (divQuot xs ys) ys) = val xs - val xs % val ys := by rw [em]; exact val_digits' (by omega)
    constructor
    · rw [if_pos (fault2_of fr hb.2), vr]; exact cmpV_lt hr1
    · unfold sumL
      rw [if_pos (fault2_of fm fr), vm, vr, show val xs - val xs % val ys + val xs % val ys = val xs by omega, fitList_ok hx.2]
      exact digits_val hcx
  · rw [if_neg h1] at h; exact absurd h h1

end Go.Proofs.Ytlhiahhpmjiioaa

namespace Go.Proofs.Ytlhiahhpmjiioaa
open Go.RowKit

def cmpN (xs ys : List Int) : Int := if fault2 xs ys = 0 then cmpV (val xs) (val ys) else 0
theorem cmpV_nonneg {x y : Int} (h : y ≤ x) : 0 ≤ cmpV x y := by unfold cmpV; rw [if_neg (by omega)]; split <;> omega
theorem cmpN_nonneg {xs ys : List Int} (h : val ys ≤ val xs) : 0 ≤ cmpN xs ys := by
  unfold cmpN
  split
  · exact cmpV_nonneg h
  · omega

theorem sum_back {xs ys : List Int} (h : sumC xs ys = 0) : natFault (sumL xs ys) = 0 ∧ subList (sumL xs ys) ys = xs ∧ 0 ≤ cmpN (sumL xs ys) xs := by
  obtain ⟨hx, hy, hl, hs⟩ := sumC_zero h
  have x0 := (canon_nonneg (canon_of_fault hx)).1
  have y0 := (canon_nonneg (canon_of_fault hy)).1
  have hf : natFault (sumL xs ys) = 0 := by rw [hs]; exact fault_digits hl
  have hv : val (sumL xs ys) = val xs + val ys := by rw [hs]; exact val_digits' (by omega)
  refine ⟨hf, ?_, cmpN_nonneg (by omega)⟩
  unfold subList
  rw [if_pos (fault2_of hf hy), hv, if_neg (by omega), show val xs + val ys - val ys = val xs by omega]
  exact digits_val (canon_of_fault hx)

theorem sub_back {xs ys : List Int} (h : subCode xs ys = 0) : sumL (subList xs ys) ys = xs ∧ 0 ≤ cmpN xs ys := by
  unfold subCode at h
  by_cases h1 : fault2 xs ys = 0
  · rw [if_pos h1] at h
    by_cases h2 : val xs < val ys
    · rw [if_pos h2] at h; omega
    have hb := fault2_zero h1
    have hx := fault_lt hb.1
    have hy := fault_lt hb.2
    have hs : subList xs ys = digits (val xs - val ys) := by unfold subList; rw [if_pos h1, if_neg h2]
    have hf : natFault (subList xs ys) = 0 := by rw [hs]; exact fault_digits (digits_len 40 _ (by omega))
    have hv : val (subList xs ys) = val xs - val ys := by rw [hs]; exact val_digits' (by omega)
    refine ⟨?_, cmpN_nonneg (by omega)⟩
    unfold sumL
    rw [if_pos (fault2_of hf hb.2), hv, show val xs - val ys + val ys = val xs by omega, fitList_ok hx.2]
    exact digits_val (canon_of_fault hb.1)
  · rw [if_neg h1] at h; exact absurd h h1

theorem strOf_bytesOf (s : ByteArray) : strOfNums (bytesOf s) = s := by
  unfold strOfNums bytesOf
  apply ByteArray.ext
  simp [Function.comp_def]

theorem read_back {s : ByteArray} (h : rnCode (bytesOf s) = 0) : natFault (rnLimbs (bytesOf s)) = 0 ∧ textVal (rnLimbs (bytesOf s)) = s := by
  unfold rnCode at h
  by_cases h1 : NTx (bytesOf s)
  · rw [if_pos h1] at h
    by_cases h2 : rnFit (bytesOf s)
    · have e := rn_yes h1 h2
      have hf : natFault (rnLimbs (bytesOf s)) = 0 := by rw [e.2]; exact fault_digits h2
      refine ⟨hf, ?_⟩
      unfold textVal
      rw [if_pos hf, e.2, val_digits' (num_ge _ 0 h1.2.2 (Int.le_refl 0)), text_back ⟨by have := h1.1; omega, h1.2.2, h1.2.1⟩]
      exact strOf_bytesOf s
    · rw [if_neg h2] at h; omega
  · rw [if_neg h1] at h; omega

theorem value_back {n : Int} (h : 0 ≤ n) (h' : n ≤ 9223372036854775807) : valCode (digits n) = 0 ∧ valVal (digits n) = n := by
  have hf : natFault (digits n) = 0 := fault_digits (Nat.le_trans (digits_len 4 n (by simp only [pw]; omega)) (by omega))
  unfold valCode valVal maxI
  rw [if_pos hf, if_pos hf, val_digits' h, if_neg (by omega), if_neg (by omega)]
  exact ⟨rfl, rfl⟩

theorem CompareNats_c (a b : Option Addr) (n c m c' : Nat) (xs ys : List Int) (w : World) (h : Rd w a n xs) (h' : Rd w b m ys) :
    Calls Try.prog 59 #[.slice a n c, .slice b m c'] w (Ans w (.int .i64 (cmpN xs ys))) := CompareNats_any a b n c m c' xs ys w h h'
end Go.Proofs.Ytlhiahhpmjiioaa

namespace Go.Proofs.Ytlhiahhpmjiioaa
open Go.RowKit

/-- The square root, rounded up. -/
def csq (v : Int) : Int := if isq v * isq v < v then isq v + 1 else isq v
def rootB (f : Int → Int) (p : Bool) (xs : List Int) : BV := if bigFault p xs = 0 then (if p = true then noBig 3 else ⟨0, false, digits (f (val xs))⟩) else noBig (bigFault p xs)
theorem isq_le {v : Int} (h : 0 ≤ v) : 0 ≤ isq v ∧ isq v ≤ v := by
  have hr := isq_root h
  refine ⟨hr.pos, ?_⟩
  rcases (by have := hr.pos; omega : isq v = 0 ∨ 1 ≤ isq v) with e | e
  · omega
  · have h1 : isq v * 1 ≤ isq v * isq v := Int.mul_le_mul_of_nonneg_left e hr.pos
    have := hr.low; omega
theorem csq_le {v : Int} (h : 0 ≤ v) : 0 ≤ csq v ∧ csq v ≤ v := by
  have h1 := isq_le h
  have hr := isq_root h
  unfold csq
  split
  · rename_i hlt
    rcases (by omega : isq v = 0 ∨ 1 ≤ isq v) with e | e
    · rw [e] at hlt ⊢; simp at hlt; omega
    · have h3 : isq v * 1 ≤ isq v * isq v := Int.mul_le_mul_of_nonneg_left e hr.pos
      omega
  · exact h1
theorem rootB_len {f : Int → Int} (hf : ∀ v, 0 ≤ v → 0 ≤ f v ∧ f v ≤ v) (p : Bool) (xs : List Int) : (rootB f p xs).limbs.length ≤ 40 := by
  unfold rootB
  by_cases hz : bigFault p xs = 0
  · rw [if_pos hz]
    by_cases hp : p = true
    · rw [if_pos hp]; exact Nat.zero_le _
    · rw [if_neg hp]
      have hx := (bigFault_zero hz).n40
      have h0 := (canon_nonneg hx.canon).1
      have := digits_len_mono (hf _ h0).2
      rw [digits_val hx.canon] at this
      have := hx.len
      show (digits (f (val xs))).length ≤ 40
      omega
  · rw [if_neg hz]; exact Nat.zero_le _
/-- A big answer, stored into the result's block, which is the second one of the call. -/
theorem bigR_fin2 {w w1 : World} {r : BV} {a : Option Addr} {c : Nat} (hS : Sl w1 a r.limbs.length c r.limbs) (hF : Fr (w.heap.size + 1 + 1) a r.limbs.length) (hk : Kept [] w w1) :
    BigR w r (.returned (.agg #[.int .i64 r.code, .bool r.neg, .slice a r.limbs.length c])) (((w1.setCell ⟨w.heap.size + 1, 0, none⟩ (.int .i64 r.code)).setCell ⟨w.heap.size + 1, 1, none⟩ (.bool r.neg)).setCell ⟨w.heap.size + 1, 2, none⟩ (.slice a r.limbs.length c)) :=
  ⟨a, c, rfl, hS.kept ((((Kept.refl [w.heap.size + 1] w1).setCell _ _ (by simp)).setCell _ _ (by simp)).setCell _ _ (by simp)) (fun hn x hx => by have := hF hn x hx; simp; omega), hF.mono (by omega),
    ((hk.setCell _ _ (by simp)).setCell _ _ (by simp)).setCell _ _ (by simp)⟩

end Go.Proofs.Ytlhiahhpmjiioaa

namespace Go.Proofs.Ytlhiahhpmjiioaa
open Go.RowKit

theorem twoB_code {f : Int} {r : BV} (h : (twoB f r).code = 0) : f = 0 ∧ twoB f r = r ∧ r.code = 0 := by
  by_cases h1 : f = 0
  · have e := twoB_zero (r := r) h1
    rw [e] at h
    exact ⟨h1, e, h⟩
  · rw [twoB_not h1] at h; exact absurd h h1
theorem fitB_code {z : Int} (h : (fitB z).code = 0) : fitB z = ⟨0, isNeg z, mag z⟩ ∧ (mag z).length ≤ 40 := by
  unfold fitB at h
  by_cases h1 : 40 < (mag z).length
  · rw [if_pos h1] at h
    have : (7 : Int) = 0 := h
    omega
  · exact ⟨fitB_ok h1, by omega⟩
theorem bigOk_self {p : Bool} {xs : List Int} (h : BigOk p xs) : (⟨0, isNeg (sv p xs), mag (sv p xs)⟩ : BV) = ⟨0, p, xs⟩ := by rw [h.isNeg, h.mag]
theorem bigOk_len {p : Bool} {xs : List Int} (h : BigOk p xs) : (mag (sv p xs)).length ≤ 40 := by rw [h.mag]; exact h.n40.len
theorem addB_ok {p q : Bool} {xs ys : List Int} {z : Int} (hx : BigOk p xs) (hy : BigOk q ys) (hl : (mag z).length ≤ 40) (hz : z = sv p xs + sv q ys) : addB p xs q ys = ⟨0, isNeg z, mag z⟩ := by
  unfold addB
  rw [twoB_zero (bigFault2_of hx hy), ← hz]; exact fitB_ok (by omega)
theorem subB_ok {p q : Bool} {xs ys : List Int} {z : Int} (hx : BigOk p xs) (hy : BigOk q ys) (hl : (mag z).length ≤ 40) (hz : z = sv p xs - sv q ys) : subB p xs q ys = ⟨0, isNeg z, mag z⟩ := by
  unfold subB
  rw [twoB_zero (bigFault2_of hx hy), ← hz]; exact fitB_ok (by omega)

/-- What was added is taken off again, and the other way round. -/
theorem adds_back {p q : Bool} {xs ys : List Int} {s d : BV} (hs : s = addB p xs q ys) (hd : d = subB p xs q ys) (h : s.code = 0) (h' : d.code = 0) :
    subB s.neg s.limbs q ys = ⟨0, p, xs⟩ ∧ addB d.neg d.limbs q ys = ⟨0, p, xs⟩ ∧ bigFault s.neg s.limbs = 0 := by
  subst hs; subst hd
  obtain ⟨f1, e1, c1⟩ := twoB_code h
  obtain ⟨_, e2, c2⟩ := twoB_code h'
  obtain ⟨g1, l1⟩ := fitB_code c1
  obtain ⟨g2, l2⟩ := fitB_code c2
  obtain ⟨hx, hy⟩ := bigFault2_zero f1
  have a1 : addB p xs q ys = ⟨0, isNeg (sv p xs + sv q ys), mag (sv p xs + sv q ys)⟩ := by unfold addB; rw [e1, g1]
  have a2 : subB p xs q ys = ⟨0, isNeg (sv p xs - sv q ys), mag (sv p xs - sv q ys)⟩ := by unfold subB; rw [e2, g2]
  rw [a1, a2]
  refine ⟨?_, ?_, (bigOk_of l1).fault⟩
  · rw [← bigOk_self hx]
    exact subB_ok (bigOk_of l1) hy (bigOk_len hx) (by rw [sv_mag]; first | done | omega)
  · rw [← bigOk_self hx]
    exact addB_ok (bigOk_of l2) hy (bigOk_len hx) (by rw [sv_mag]; first | done | omega)

theorem int_back {n : Int} (h : -9223372036854775808 ≤ n) (h' : n ≤ 9223372036854775807) : bvCode (isNeg n) (mag n) = 0 ∧ bvVal (isNeg n) (mag n) = n := by
  have hl : (mag n).length ≤ 4 := mag_len_lt (by simp only [pw]; omega)
  have hf := (bigOk_of (z := n) (by omega)).fault
  have ho : ¬ outI n := by unfold outI; omega
  unfold bvCode bvVal
  rw [if_pos hf, if_pos hf, sv_mag, if_neg ho, if_neg ho]
  exact ⟨rfl, rfl⟩

theorem sg_back (p q : Bool) (x y : Int) : sg (p != q) x * sg q y = sg p (x * y) := by
  rw [sg_mul]; congr 1; cases p <;> cases q <;> rfl
/-- A quotient that is rounded down is not above one that is rounded up; they are one apart at most, and not so if the product is what was divided. -/
theorem div_gap {p q : Bool} {X Y : Int} (hY : 0 < Y) :
    (divZ true p q X Y - divZ false p q X Y = 0 ∧ divZ false p q X Y * sg q Y = sg p X) ∨ (divZ true p q X Y - divZ false p q X Y = 1 ∧ divZ false p q X Y * sg q Y ≠ sg p X ∧ X ≠ 0) := by
  have hm := Int.mul_ediv_add_emod X Y
  by_cases h : X % Y = 0
  · left
    have e1 : ∀ up, divZ up p q X Y = sg (p != q) (X / Y) := fun up => by unfold divZ; rw [if_neg (fun x => x.1 h)]
    rw [e1, e1]
    refine ⟨by omega, ?_⟩
    rw [sg_back, Int.mul_comm, show Y * (X / Y) = X by omega]
  · right
    have hx0 : X ≠ 0 := fun e => h (by rw [e]; exact Int.zero_emod Y)
    have hr2 := Int.emod_lt_of_pos X hY
    have hne : ∀ k : Int, k * Y ≠ X := fun k hk => h (by rw [← hk]; exact Int.mul_emod_left k Y)
    have hsg : ∀ k : Int, sg (p != q) k * sg q Y ≠ sg p X := fun k hk => by
      rw [sg_back] at hk
      cases p
      · exact hne k hk
      · have hk' : -(k * Y) = -X := hk
        exact hne k (by omega)
    cases hb : (p != q)
    · have e1 : divZ true p q X Y = X / Y + 1 := by unfold divZ; rw [hb, if_pos ⟨h, by decide⟩]; rfl
      have e2 : divZ false p q X Y = X / Y := by unfold divZ; rw [hb, if_neg (fun x => x.2 rfl)]; rfl
      rw [e1, e2]
      refine ⟨by omega, ?_, hx0⟩
      have := hsg (X / Y)
      rw [hb] at this
      exact this
    · have e1 : divZ true p q X Y = -(X / Y) := by unfold divZ; rw [hb, if_neg (fun x => x.2 rfl)]; rfl
      have e2 : divZ false p q X Y = -(X / Y + 1) := by unfold divZ; rw [hb, if_pos ⟨h, by decide⟩]; rfl
      rw [e1, e2]
      refine ⟨by omega, ?_, hx0⟩
      have := hsg (X / Y + 1)
      rw [hb] at this
      exact this

theorem divB_code {up p q : Bool} {xs ys : List Int} (h : (divB up p xs q ys).code = 0) : BigOk p xs ∧ BigOk q ys ∧ 0 < val ys ∧ divB up p xs q ys = ⟨0, isNeg (divZ up p q (val xs) (val ys)), mag (divZ up p q (val xs) (val ys))⟩ ∧ (mag (divZ up p q (val xs) (val ys))).length ≤ 40 := by
  obtain ⟨f1, e1, c1⟩ := twoB_code h
  obtain ⟨hx, hy⟩ := bigFault2_zero f1
  by_cases h0 : ys.length = 0
  · rw [if_pos h0] at c1
    have : (6 : Int) = 0 := c1
    omega
  · rw [if_neg h0] at e1 c1
    obtain ⟨g1, l1⟩ := fitB_code c1
    refine ⟨hx, hy, (canon_nonneg (canon_of_fault hy.nat)).2 (fun e => h0 (by rw [e]; rfl)), ?_, l1⟩
    unfold divB; rw [if_neg h0, e1, g1]

theorem cmp1 {z : Int} (h : z = 0 ∨ z = 1) : cmpB (isNeg z) (mag z) (isNeg 1) (mag 1) ≤ 0 := by
  have hl : ∀ t : Int, t = 0 ∨ t = 1 → (mag t).length ≤ 40 := fun t ht => Nat.le_trans (mag_len_lt (k := 4) (by simp only [pw]; omega)) (by omega)
  rw [cmpB_ok (bigOk_of (hl z h)) (bigOk_of (hl 1 (Or.inr rfl))), sv_mag, sv_mag]
  unfold cmpV; split
  · omega
  · rw [if_neg (by omega)]; omega

/-- What the law asks of two quotients that have no code. -/
theorem divs_back {p q : Bool} {xs ys : List Int} {f c : BV} (hf : f = divB false p xs q ys) (hc : c = divB true p xs q ys) (h : f.code = 0) (h' : c.code = 0) :
    ∃ g : Int, (g = 0 ∨ g = 1) ∧ subB c.neg c.limbs f.neg f.limbs = ⟨0, isNeg g, mag g⟩ ∧ cmpB f.neg f.limbs c.neg c.limbs ≤ 0 ∧
      (decide ((mag g).length = 0) = decide ((mulB f.neg f.limbs q ys).neg = p ∧ (mulB f.neg f.limbs q ys).limbs = xs)) := by
  subst hf; subst hc
  obtain ⟨hx, hy, hy0, e1, l1⟩ := divB_code h
  obtain ⟨_, _, _, e2, l2⟩ := divB_code h'
  have hx0 := (canon_nonneg (canon_of_fault hx.nat)).1
  have hg := div_gap (p := p) (q := q) (X := val xs) hy0
  rw [e1, e2]
  show ∃ g : Int, (g = 0 ∨ g = 1) ∧ subB (isNeg (divZ true p q (val xs) (val ys))) (mag (divZ true p q (val xs) (val ys))) (isNeg (divZ false p q (val xs) (val ys))) (mag (divZ false p q (val xs) (val ys))) = ⟨0, isNeg g, mag g⟩ ∧ cmpB (isNeg (divZ false p q (val xs) (val ys))) (mag (divZ false p q (val xs) (val ys))) (isNeg (divZ true p q (val xs) (val ys))) (mag (divZ true p q (val xs) (val ys))) ≤ 0 ∧
      (decide ((mag g).length = 0) = decide ((mulB (isNeg (divZ false p q (val xs) (val ys))) (mag (divZ false p q (val xs) (val ys))) q ys).neg = p ∧ (mulB (isNeg (divZ false p q (val xs) (val ys))) (mag (divZ false p q (val xs) (val ys))) q ys).limbs = xs))
  generalize divZ true p q (val xs) (val ys) = C at *
  generalize divZ false p q (val xs) (val ys) = F at *
  have hgl : ∀ t : Int, t = 0 ∨ t = 1 → (mag t).length ≤ 40 := fun t ht => Nat.le_trans (mag_len_lt (k := 4) (by simp only [pw]; omega)) (by omega)
  have hgg : C - F = 0 ∨ C - F = 1 := by rcases hg with hg | hg <;> omega
  refine ⟨C - F, hgg, subB_ok (bigOk_of l2) (bigOk_of l1) (hgl _ hgg) (by rw [sv_mag, sv_mag]), ?_, ?_⟩
  · rw [cmpB_ok (bigOk_of l1) (bigOk_of l2), sv_mag, sv_mag]
    unfold cmpV; split
    · omega
    · rw [if_neg (by omega)]; omega
  · rcases hg with ⟨g0, hp⟩ | ⟨g0, hp, hxn⟩
    · rw [g0, show (mag 0).length = 0 from rfl, decide_eq_true (rfl : (0 : Nat) = 0)]
      have hp' : F * sv q ys = sv p xs := hp
      have em : mulB (isNeg F) (mag F) q ys = ⟨0, p, xs⟩ := by
        unfold mulB
        rw [twoB_zero (bigFault2_of (bigOk_of l1) hy), sv_mag, hp', fitB_ok (by have := bigOk_len hx; omega)]
        exact bigOk_self hx
      rw [em]
      exact (decide_eq_true ⟨rfl, rfl⟩).symm
    · rw [g0, show (mag 1).length = 1 from rfl, decide_eq_false (show ¬ (1 : Nat) = 0 by omega)]
      refine (decide_eq_false (fun hh => hp ?_)).symm
      obtain ⟨h1, h2⟩ := hh
      have e3 : mulB (isNeg F) (mag F) q ys = fitB (F * sv q ys) := by unfold mulB; rw [twoB_zero (bigFault2_of (bigOk_of l1) hy), sv_mag]
      rw [e3] at h1 h2
      show F * sv q ys = sv p xs
      unfold fitB at h1 h2
      by_cases h9 : 40 < (mag (F * sv q ys)).length
      · rw [if_pos h9] at h1 h2
        -- the product does not fit, so that what was divided would be 0
        have hx0 : ([] : List Int) = xs := h2
        exact absurd (by rw [← hx0]; rfl) hxn
      · rw [if_neg h9] at h1 h2
        have h1' : isNeg (F * sv q ys) = p := h1
        have h2' : mag (F * sv q ys) = xs := h2
        rw [← h1', ← h2', sv_mag]

theorem mulB_self {z : Int} (hl : (mag z).length ≤ 40) : mulB (isNeg z) (mag z) (isNeg z) (mag z) = fitB (z * z) := by
  unfold mulB
  rw [twoB_zero (bigFault2_of (bigOk_of hl) (bigOk_of hl)), sv_mag]
theorem csq_facts {v : Int} (h : 0 ≤ v) : v ≤ csq v * csq v ∧ (csq v - isq v = 0 ∨ csq v - isq v = 1) := by
  have hr := isq_root h
  unfold csq
  by_cases h1 : isq v * isq v < v
  · rw [if_pos h1]
    exact ⟨Int.le_of_lt hr.high, Or.inr (by omega)⟩
  · rw [if_neg h1]
    exact ⟨by omega, Or.inl (by omega)⟩
theorem rootB_code {f : Int → Int} {p : Bool} {xs : List Int} (h : (rootB f p xs).code = 0) : BigOk p xs ∧ p = false ∧ rootB f p xs = ⟨0, false, digits (f (val xs))⟩ := by
  unfold rootB at h
  by_cases h1 : bigFault p xs = 0
  · rw [if_pos h1] at h
    by_cases h2 : p = true
    · rw [if_pos h2] at h
      have : (3 : Int) = 0 := h
      omega
    · exact ⟨bigFault_zero h1, by simpa using h2, by unfold rootB; rw [if_pos h1, if_neg h2]⟩
  · rw [if_neg h1] at h
    exact absurd h h1
theorem bigN {z : Int} (h : 0 ≤ z) : (⟨0, false, digits z⟩ : BV) = ⟨0, isNeg z, mag z⟩ := by rw [isNeg_no h, mag_no h]
theorem digits_le40 {v z : Int} (hv : (digits v).length ≤ 40) (h0 : 0 ≤ v) (h : z ≤ v) : (digits z).length ≤ 40 := by
  have h1 := (val_pw_le (canon_limbs (canon_digits' v)) hv).2
  rw [val_digits' h0] at h1
  exact digits_len 40 z (by omega)

/-- A root's square is not above the number, the upper one's not below it, and they are one apart at most. -/
theorem roots_back {p : Bool} {xs : List Int} {f c : BV} (hf : f = rootB isq p xs) (hc : c = rootB csq p xs) (h : f.code = 0) :
    c.code = 0 ∧ (mulB f.neg f.limbs f.neg f.limbs).code = 0 ∧ cmpB (mulB f.neg f.limbs f.neg f.limbs).neg (mulB f.neg f.limbs f.neg f.limbs).limbs p xs ≤ 0 ∧
      ((mulB c.neg c.limbs c.neg c.limbs).code = 0 → 0 ≤ cmpB (mulB c.neg c.limbs c.neg c.limbs).neg (mulB c.neg c.limbs c.neg c.limbs).limbs p xs) ∧
      ∃ g : Int, (g = 0 ∨ g = 1) ∧ subB c.neg c.limbs f.neg f.limbs = ⟨0, isNeg g, mag g⟩ := by
  subst hf; subst hc
  obtain ⟨hx, hp, e1⟩ := rootB_code h
  subst hp
  have hv0 := (canon_nonneg (canon_of_fault hx.nat)).1
  have hd : digits (val xs) = xs := digits_val (canon_of_fault hx.nat)
  have hl : (digits (val xs)).length ≤ 40 := by rw [hd]; exact hx.n40.len
  have hi := isq_le hv0
  have hcq := csq_le hv0
  have hr := isq_root hv0
  have hcf := csq_facts hv0
  have e2 : rootB csq false xs = ⟨0, false, digits (csq (val xs))⟩ := by unfold rootB; rw [if_pos hx.fault, if_neg (by decide)]
  rw [e1, e2, bigN hi.1, bigN hcq.1]
  generalize hI : isq (val xs) = I at *
  generalize hC : csq (val xs) = C at *
  have lI : (mag I).length ≤ 40 := by rw [mag_no hi.1]; exact digits_le40 hl hv0 hi.2
  have lC : (mag C).length ≤ 40 := by rw [mag_no hcq.1]; exact digits_le40 hl hv0 hcq.2
  have lII : (mag (I * I)).length ≤ 40 := by rw [mag_no (Int.mul_nonneg hi.1 hi.1)]; exact digits_le40 hl hv0 hr.low
  have hgl : ∀ t : Int, t = 0 ∨ t = 1 → (mag t).length ≤ 40 := fun t ht => Nat.le_trans (mag_len_lt (k := 4) (by simp only [pw]; omega)) (by omega)
  show (0 : Int) = 0 ∧ (mulB (isNeg I) (mag I) (isNeg I) (mag I)).code = 0 ∧ cmpB (mulB (isNeg I) (mag I) (isNeg I) (mag I)).neg (mulB (isNeg I) (mag I) (isNeg I) (mag I)).limbs false xs ≤ 0 ∧
      ((mulB (isNeg C) (mag C) (isNeg C) (mag C)).code = 0 → 0 ≤ cmpB (mulB (isNeg C) (mag C) (isNeg C) (mag C)).neg (mulB (isNeg C) (mag C) (isNeg C) (mag C)).limbs false xs) ∧
      ∃ g : Int, (g = 0 ∨ g = 1) ∧ subB (isNeg C) (mag C) (isNeg I) (mag I) = ⟨0, isNeg g, mag g⟩
  rw [mulB_self lI, mulB_self lC]
  refine ⟨rfl, ?_, ?_, ?_, C - I, hcf.2, subB_ok (bigOk_of lC) (bigOk_of lI) (hgl _ hcf.2) (by rw [sv_mag, sv_mag])⟩
  · rw [fitB_ok (by omega)]
  · rw [fitB_ok (by omega)]
    show cmpB (isNeg (I * I)) (mag (I * I)) false xs ≤ 0
    rw [cmpB_ok (bigOk_of lII) hx, sv_mag]
    have hlow : I * I ≤ sv false xs := hr.low
    unfold cmpV; split
    · omega
    · rw [if_neg (by omega)]; omega
  · intro hcode
    obtain ⟨e3, l3⟩ := fitB_code hcode
    rw [e3]
    show 0 ≤ cmpB (isNeg (C * C)) (mag (C * C)) false xs
    rw [cmpB_ok (bigOk_of l3) hx, sv_mag]
    exact cmpV_nonneg hcf.1


end Go.Proofs.Ytlhiahhpmjiioaa

namespace Go.Proofs.Ytlhiahhpmjiioaa
open Go.RowKit

set_option maxHeartbeats 400000 in
theorem lwNums_any (a b : Option Addr) (n c m c' : Nat) (xs ys : List Int) (w : World) (h : Rd w a n xs) (h' : Rd w b m ys) :
    Calls Try.prog 54 #[.slice a n c, .slice b m c'] w (Ans w (.bool (decide (xs = ys)))) := by
  by_cases he : xs = ys
  · subst he
    obtain rfl : n = m := by rw [← h.1, ← h'.1]
    rw [decide_eq_true rfl]
    exact lwNums_yes a b n c c' xs w h h'
  rw [decide_eq_false he]
  have hm1 := h.2.1
  have hm2 := h'.2.1
  by_cases hnm : n = m
  · subst hnm
    have hlen : xs.length = ys.length := by rw [h.1, h'.1]
    have HE := Lib.hid (fun hh : (∀ i, i < n → xs.getD i 0 = ys.getD i 0) => he (getD_ext hlen (fun i hi => hh i (by rw [← h.1]; exact hi))))
    have HR := Lib.hid h
    have HR' := Lib.hid h'
    clear h h' he hlen
    go_enter Try.func54, Try.ntmps54
    go_wp2
    go_loopw [5] (fun i wr => ∃ k : Nat, k ≤ n ∧ i = .int .i64 k ∧ Hid (∀ i, i < k → xs.getD i 0 = ys.getD i 0) ∧ Hid (Kept [] w wr)) (fun i _ => n - (intOf i).toNat)
    case atStart => exact ⟨0, Nat.zero_le _, rfl, fun i hi => by omega, Kept.refl [] w⟩
    case round =>
      obtain ⟨k, hk, rfl, hO, hK⟩ := hrel
      by_cases hlt : k < n
      · obtain ⟨g, off, rfl, hc0⟩ := HR.out.2.2 k hlt
        obtain ⟨g', off', rfl, hc0'⟩ := HR'.out.2.2 k hlt
        have hc := hK.out.cell hc0 (by simp)
        have hc' := hK.out.cell hc0' (by simp)
        clear hc0 hc0'
        by_cases hxy : xs.getD k 0 = ys.getD k 0
        · have hO2 : Hid (∀ i, i < k + 1 → xs.getD i 0 = ys.getD i 0) := fun i hi => by
            by_cases e : i < k
            · exact hO.out i e
            · obtain rfl : i = k := by omega
              exact hxy
          rw [← hxy] at hc'
          clear hxy
          generalize xs.getD k 0 = z at *
          go_wp2
          go_quiet (fail)
          have hK2 : Hid (Kept [] w (wr.drewN nq)) := hK.out.drewN _
          clear hK
          go_wp2
          go_roundw
          case rel => exact ⟨k + 1, by omega, by go_num, hO2, hK2⟩
          case measure => simp [intOf]; omega
        · have hb : (xs.getD k 0 == ys.getD k 0) = false := beq_eq_false_iff_ne.2 hxy
          generalize xs.getD k 0 = z at *
          generalize ys.getD k 0 = z' at *
          go_wp2
          go_quiet (fail)
          have hK2 : Hid (Kept [] w (wr.drewN nq)) := hK.out.drewN _
          clear hK
          go_wp2
          go_ret
          exact ⟨rfl, hK2.out⟩
      · exact absurd (fun i hi => hO.out i (by omega)) HE.out
  · have hb : ((n : Int) == (m : Int)) = false := by rw [beq_eq_false_iff_ne]; omega
    clear h h' he
    go_enter Try.func54, Try.ntmps54
    go_wp2
    go_ret
    exact ⟨rfl, Kept.refl _ _⟩

def sameD (p : Bool) (xs : List Int) (q : Bool) (ys : List Int) : Bool := (p == q) && decide (xs = ys)
theorem sameD_self (p : Bool) (xs : List Int) : sameD p xs p xs = true := by unfold sameD; simp

set_option maxHeartbeats 1000000 in
theorem lwSame_any (p q : Bool) (a b : Option Addr) (n c m d : Nat) (xs ys : List Int) (w : World) (h : Rd w a n xs) (h' : Rd w b m ys) :
    Calls Try.prog 35 #[.agg #[.bool p, .slice a n c], .agg #[.bool q, .slice b m d]] w (Ans w (.bool (sameD p xs q ys))) := by
  obtain ⟨r, hr⟩ : ∃ r, decide (xs = ys) = r := ⟨_, rfl⟩
  rw [show sameD p xs q ys = ((p == q) && r) by unfold sameD; rw [hr]]
  have HRR := Lib.hid hr
  have HR := Lib.hid h
  have HR' := Lib.hid h'
  clear h h' hr
  cases p <;> cases q
  · go_enter Try.func35, Try.ntmps35
    go_wp2_with fail
    refine (lwNums_any _ _ _ _ _ _ _ _ _ (HR.out.kept0 (((Kept.refl [] w).alloc _).alloc _)) (HR'.out.kept0 (((Kept.refl [] w).alloc _).alloc _))).mono ?_
    rintro e w1 ⟨rfl, hk⟩
    rw [HRR.out]
    go_wp2_with fail
    go_ret
    exact ⟨rfl, hk.peel.peel⟩
  · go_enter Try.func35, Try.ntmps35
    go_wp2_with fail
    go_ret
    exact ⟨rfl, ((Kept.refl _ _).alloc _).alloc _⟩
  · go_enter Try.func35, Try.ntmps35
    go_wp2_with fail
    go_ret
    exact ⟨rfl, ((Kept.refl _ _).alloc _).alloc _⟩
  · go_enter Try.func35, Try.ntmps35
    go_wp2_with fail
    refine (lwNums_any _ _ _ _ _ _ _ _ _ (HR.out.kept0 (((Kept.refl [] w).alloc _).alloc _)) (HR'.out.kept0 (((Kept.refl [] w).alloc _).alloc _))).mono ?_
    rintro e w1 ⟨rfl, hk⟩
    rw [HRR.out]
    go_wp2_with fail
    go_ret
    exact ⟨rfl, hk.peel.peel⟩
theorem lwSame_yes (p : Bool) (a b : Option Addr) (n c d : Nat) (xs : List Int) (w : World) (h : Rd w a n xs) (h' : Rd w b n xs) :
    Calls Try.prog 35 #[.agg #[.bool p, .slice a n c], .agg #[.bool p, .slice b n d]] w (Ans w (.bool true)) := by
  have := lwSame_any p p a b n c n d xs xs w h h'
  rwa [sameD_self] at this

theorem bigFault2_comm {p q : Bool} {xs ys : List Int} : bigFault2 p xs q ys = 0 ↔ bigFault2 q ys p xs = 0 :=
  ⟨fun h => bigFault2_of (bigFault2_zero h).2 (bigFault2_zero h).1, fun h => bigFault2_of (bigFault2_zero h).2 (bigFault2_zero h).1⟩
theorem cmpB_flip (p : Bool) (xs : List Int) (q : Bool) (ys : List Int) : cmpB q ys p xs = -cmpB p xs q ys := by
  unfold cmpB
  by_cases h : bigFault2 p xs q ys = 0
  · rw [if_pos h, if_pos (bigFault2_comm.1 h)]
    unfold cmpV
    split <;> split <;> (try split) <;> omega
  · rw [if_neg h, if_neg (fun h' => h (bigFault2_comm.2 h'))]; rfl
theorem cmpB_small (p : Bool) (xs : List Int) (q : Bool) (ys : List Int) : -1 ≤ cmpB p xs q ys ∧ cmpB p xs q ys ≤ 1 := by
  unfold cmpB cmpV
  split
  · split
    · omega
    · split <;> omega
  · omega
theorem Near.in64 {xs : List Int} (h : Near xs) : In64 xs := by
  intro z hz
  obtain ⟨i, hi, rfl⟩ := List.getElem_of_mem hz
  have := h i hi
  rw [List.getD_eq_getElem?_getD, List.getElem?_eq_getElem hi, Option.getD_some] at this
  omega

/-- What a call that answers a big with a code answers, by its three parts. -/
def BR3 (w : World) (c : Int) (n : Bool) (l : List Int) (e : Ending) (w' : World) : Prop :=
  ∃ a d, e = .returned (.agg #[.int .i64 c, .bool n, .slice a l.length d]) ∧ Sl w' a l.length d l ∧ Fr w.heap.size a l.length ∧ Kept [] w w'
theorem bigR3 (w : World) (c : Int) (n : Bool) (l : List Int) : BigR w ⟨c, n, l⟩ = BR3 w c n l := rfl

end Go.Proofs.Ytlhiahhpmjiioaa

namespace Go.Proofs.Ytlhiahhpmjiioaa
open Go.RowKit

/-- Several slices read as several lists. -/
def SlL (w : World) (L : List (Option Addr × Nat × List Int)) : Prop := ∀ z, z ∈ L → Sl w z.1 z.2.2.length z.2.1 z.2.2
theorem SlL.nil (w : World) : SlL w [] := fun z hz => by cases hz
theorem SlL.cons {w : World} {L : List (Option Addr × Nat × List Int)} {a : Option Addr} {c : Nat} {xs : List Int} (h : SlL w L) (h' : Sl w a xs.length c xs) : SlL w ((a, c, xs) :: L) := fun z hz => by
  rcases List.mem_cons.1 hz with rfl | hz
  · exact h'
  · exact h z hz
theorem SlL.kept0 {w w' : World} {L : List (Option Addr × Nat × List Int)} (h : SlL w L) (k : Kept [] w w') : SlL w' L := fun z hz => (h z hz).kept0 k
theorem SlL.at {w : World} {L : List (Option Addr × Nat × List Int)} {a : Option Addr} {c : Nat} {xs : List Int} (h : SlL w L) (hz : (a, c, xs) ∈ L) : Sl w a xs.length c xs := h _ hz

/-- The cells of a box. -/
def Bx (w : World) (g : Nat) (vs : List Value) : Prop := ∀ i, i < vs.length → w.cell? ⟨g, i, none⟩ = vs[i]?
theorem Bx.kept0 {w w' : World} {g : Nat} {vs : List Value} (h : Bx w g vs) (k : Kept [] w w') : Bx w' g vs := fun i hi => by
  have := h i hi
  rw [List.getElem?_eq_getElem hi] at this ⊢
  exact k.cell this (by simp)
theorem Bx.at {w : World} {g : Nat} {vs : List Value} (h : Bx w g vs) (i : Nat) (hi : i < vs.length) {v : Value} (hv : vs[i]? = some v) : w.cell? ⟨g, i, none⟩ = some v := by rw [h i hi, hv]
theorem Bx.new (w : World) (vs : List Value) (t : TypeId) : Bx (w.alloc (.cells vs.toArray t)) w.heap.size vs := fun i hi => by
  rw [World.cell?_alloc_new]; simp

end Go.Proofs.Ytlhiahhpmjiioaa

namespace Go.Proofs.Ytlhiahhpmjiioaa

/-- An end of a span that is right is short. -/
theorem SpanOk.bound {p q : Bool} {xs ys : List Int} (h : SpanOk p xs q ys) : (-pw 20 < sv p xs ∧ sv p xs < pw 20) ∧ -pw 20 < sv q ys ∧ sv q ys < pw 20 :=
  ⟨sv_bound h.lo.n40 h.lx, sv_bound h.hi.n40 h.ly⟩
theorem SpanOk.fault {p q : Bool} {xs ys : List Int} (h : SpanOk p xs q ys) : spanFault p xs q ys = 0 :=
  spanFault_ok (bigFault2_of h.lo h.hi) (by have := h.lx; omega) (by have := h.ly; omega) (by have := h.le; omega)
theorem len20 {z : Int} (h : -pw 20 < z ∧ z < pw 20) : (mag z).length ≤ 20 := mag_len_lt h
theorem order_turn (p : Bool) (xs : List Int) (q : Bool) (ys : List Int) (p' : Bool) (xs' : List Int) (q' : Bool) (ys' : List Int) : orderS p' xs' q' ys' p xs q ys = -orderS p xs q ys p' xs' q' ys' := by
  unfold orderS
  by_cases h : spanFault2 p xs q ys p' xs' q' ys' = 0
  · obtain ⟨o1, o2⟩ := spanFault2_zero h
    have h1 : spanFault2 p' xs' q' ys' p xs q ys = 0 := by
      unfold spanFault2 at h ⊢
      by_cases e : spanFault p xs q ys = 0
      · rw [if_pos e] at h; rw [if_pos h]; exact e
      · rw [if_neg e] at h; exact absurd h e
    rw [if_pos h, if_pos h1]
    have l1 := o1.le
    have l2 := o2.le
    by_cases a : sv q ys < sv p' xs'
    · rw [if_pos a, if_neg (by omega), if_pos a]; rfl
    · by_cases b : sv q' ys' < sv p xs
      · rw [if_pos b, if_neg a, if_pos b]
      · rw [if_neg b, if_neg a, if_neg a, if_neg b]; rfl
  · have h1 : ¬ spanFault2 p' xs' q' ys' p xs q ys = 0 := by
      intro h2
      apply h
      unfold spanFault2 at h2 ⊢
      by_cases e : spanFault p' xs' q' ys' = 0
      · rw [if_pos e] at h2; rw [if_pos h2]; exact e
      · rw [if_neg e] at h2; exact absurd h2 e
    rw [if_neg h, if_neg h1]; rfl
theorem order_fault {p q p' q' : Bool} {xs ys xs' ys' : List Int} (h : spanFault2 p xs q ys p' xs' q' ys' ≠ 0) : orderS p xs q ys p' xs' q' ys' = 0 := by unfold orderS; rw [if_neg h]
theorem order_small (p : Bool) (xs : List Int) (q : Bool) (ys : List Int) (p' : Bool) (xs' : List Int) (q' : Bool) (ys' : List Int) : -1 ≤ orderS p xs q ys p' xs' q' ys' ∧ orderS p xs q ys p' xs' q' ys' ≤ 1 := by
  unfold orderS
  split
  · split
    · omega
    · split <;> omega
  · omega
/-- A span that is told by numbers is right. -/
theorem span_num {lo hi : Int} (h : lo ≤ hi) (h1 : -pw 20 < lo ∧ lo < pw 20) (h2 : -pw 20 < hi ∧ hi < pw 20) : spanFault (isNeg lo) (mag lo) (isNeg hi) (mag hi) = 0 := by
  have l1 := len20 h1
  have l2 := len20 h2
  refine spanFault_ok (bigFault2_of (bigOk_of (by omega)) (bigOk_of (by omega))) (by omega) (by omega) ?_
  rw [sv_mag, sv_mag]; omega
theorem within_yes {p q p' q' : Bool} {xs ys xs' ys' : List Int} (h : spanFault p xs q ys = 0) (h' : spanFault p' xs' q' ys' = 0) (h1 : sv p' xs' ≤ sv p xs) (h2 : sv q ys ≤ sv q' ys') : withinS p xs q ys p' xs' q' ys' = true := by
  unfold withinS spanFault2
  rw [if_pos h, h', decide_eq_true h1, decide_eq_true h2]; rfl
theorem hull_ok {p q p' q' : Bool} {xs ys xs' ys' : List Int} (o1 : SpanOk p xs q ys) (o2 : SpanOk p' xs' q' ys') : hullS p xs q ys p' xs' q' ys' = ⟨0, minZ (sv p xs) (sv p' xs'), maxZ (sv q ys) (sv q' ys')⟩ := by
  have b1 := o1.bound
  have b2 := o2.bound
  have m1 := minZ_cases (sv p xs) (sv p' xs')
  have m2 := maxZ_cases (sv q ys) (sv q' ys')
  unfold hullS
  rw [twoS_zero (by unfold spanFault2; rw [if_pos o1.fault]; exact o2.fault)]
  exact fitS_ok (len20 (by omega)) (len20 (by omega))
theorem hull_code {p q p' q' : Bool} {xs ys xs' ys' : List Int} (h : (hullS p xs q ys p' xs' q' ys').code = 0) : SpanOk p xs q ys ∧ SpanOk p' xs' q' ys' := by
  by_cases hf : spanFault2 p xs q ys p' xs' q' ys' = 0
  · exact spanFault2_zero hf
  · unfold hullS at h
    rw [twoS_not hf] at h
    exact absurd h hf
theorem hull_not {p q p' q' : Bool} {xs ys xs' ys' : List Int} (h : (hullS p xs q ys p' xs' q' ys').code ≠ 0) : orderS p xs q ys p' xs' q' ys' = 0 := by
  refine order_fault (fun hf => h ?_)
  obtain ⟨o1, o2⟩ := spanFault2_zero hf
  rw [hull_ok o1 o2]
theorem meet_ok {p q p' q' : Bool} {xs ys xs' ys' : List Int} (o1 : SpanOk p xs q ys) (o2 : SpanOk p' xs' q' ys') :
    meetS p xs q ys p' xs' q' ys' = if minZ (sv q ys) (sv q' ys') < maxZ (sv p xs) (sv p' xs') then noSpan 4 else ⟨0, maxZ (sv p xs) (sv p' xs'), minZ (sv q ys) (sv q' ys')⟩ := by
  have b1 := o1.bound
  have b2 := o2.bound
  have m1 := maxZ_cases (sv p xs) (sv p' xs')
  have m2 := minZ_cases (sv q ys) (sv q' ys')
  unfold meetS
  rw [twoS_zero (by unfold spanFault2; rw [if_pos o1.fault]; exact o2.fault)]
  by_cases h : minZ (sv q ys) (sv q' ys') < maxZ (sv p xs) (sv p' xs')
  · rw [if_pos h, if_pos h]
  · rw [if_neg h, if_neg h]
    exact fitS_ok (len20 (by omega)) (len20 (by omega))
/-- What has both has each; what is in both is told just where neither is behind the other. -/
theorem hull_back {p q p' q' : Bool} {xs ys xs' ys' : List Int} {hc hl hh : Int} (hH : (⟨hc, hl, hh⟩ : SV) = hullS p xs q ys p' xs' q' ys') (h0 : hc = 0) :
    withinS p xs q ys (isNeg hl) (mag hl) (isNeg hh) (mag hh) = true ∧ withinS p' xs' q' ys' (isNeg hl) (mag hl) (isNeg hh) (mag hh) = true := by
  obtain ⟨o1, o2⟩ := hull_code (by rw [← hH]; exact h0)
  rw [hull_ok o1 o2] at hH
  simp only [SV.mk.injEq] at hH
  obtain ⟨_, rfl, rfl⟩ := hH
  have b1 := o1.bound
  have b2 := o2.bound
  have l1 := o1.le
  have l2 := o2.le
  have m1 := minZ_cases (sv p xs) (sv p' xs')
  have m2 := maxZ_cases (sv q ys) (sv q' ys')
  have hs := span_num (lo := minZ (sv p xs) (sv p' xs')) (hi := maxZ (sv q ys) (sv q' ys')) (by omega) (by omega) (by omega)
  exact ⟨within_yes o1.fault hs (by rw [sv_mag]; omega) (by rw [sv_mag]; omega), within_yes o2.fault hs (by rw [sv_mag]; omega) (by rw [sv_mag]; omega)⟩
theorem meet_order {p q p' q' : Bool} {xs ys xs' ys' : List Int} {mc ml mh : Int} (hM : (⟨mc, ml, mh⟩ : SV) = meetS p xs q ys p' xs' q' ys') (o1 : SpanOk p xs q ys) (o2 : SpanOk p' xs' q' ys') : mc = 0 ↔ orderS p xs q ys p' xs' q' ys' = 0 := by
  rw [meet_ok o1 o2] at hM
  have l1 := o1.le
  have l2 := o2.le
  have m1 := maxZ_cases (sv p xs) (sv p' xs')
  have m2 := minZ_cases (sv q ys) (sv q' ys')
  unfold orderS
  rw [if_pos (by unfold spanFault2; rw [if_pos o1.fault]; exact o2.fault)]
  by_cases h : minZ (sv q ys) (sv q' ys') < maxZ (sv p xs) (sv p' xs')
  · rw [if_pos h] at hM
    unfold noSpan at hM
    simp only [SV.mk.injEq] at hM
    by_cases a : sv q ys < sv p' xs'
    · rw [if_pos a]; omega
    · rw [if_neg a]
      by_cases b : sv q' ys' < sv p xs
      · rw [if_pos b]; omega
      · omega
  · rw [if_neg h] at hM
    simp only [SV.mk.injEq] at hM
    rw [if_neg (by omega), if_neg (by omega)]
    omega
/-- What is in both is in each. -/
theorem meet_back {p q p' q' : Bool} {xs ys xs' ys' : List Int} {mc ml mh : Int} (hM : (⟨mc, ml, mh⟩ : SV) = meetS p xs q ys p' xs' q' ys') (o1 : SpanOk p xs q ys) (o2 : SpanOk p' xs' q' ys') (h0 : mc = 0) :
    withinS (isNeg ml) (mag ml) (isNeg mh) (mag mh) p xs q ys = true ∧ withinS (isNeg ml) (mag ml) (isNeg mh) (mag mh) p' xs' q' ys' = true := by
  rw [meet_ok o1 o2] at hM
  have b1 := o1.bound
  have b2 := o2.bound
  have m1 := maxZ_cases (sv p xs) (sv p' xs')
  have m2 := minZ_cases (sv q ys) (sv q' ys')
  by_cases h : minZ (sv q ys) (sv q' ys') < maxZ (sv p xs) (sv p' xs')
  · rw [if_pos h] at hM
    unfold noSpan at hM
    simp only [SV.mk.injEq] at hM
    omega
  · rw [if_neg h] at hM
    simp only [SV.mk.injEq] at hM
    obtain ⟨_, rfl, rfl⟩ := hM
    have hs := span_num (lo := maxZ (sv p xs) (sv p' xs')) (hi := minZ (sv q ys) (sv q' ys')) (by omega) (by omega) (by omega)
    exact ⟨within_yes hs o1.fault (by rw [sv_mag]; omega) (by rw [sv_mag]; omega), within_yes hs o2.fault (by rw [sv_mag]; omega) (by rw [sv_mag]; omega)⟩

end Go.Proofs.Ytlhiahhpmjiioaa

namespace Go.Proofs.Ytlhiahhpmjiioaa
open Go.RowKit

set_option maxHeartbeats 1000000 in
theorem lwSpans_yes (p q : Bool) (a b a' b' : Option Addr) (n m c d c' d' : Nat) (xs ys : List Int) (w : World) (h1 : Rd w a n xs) (h2 : Rd w b m ys) (h3 : Rd w a' n xs) (h4 : Rd w b' m ys) :
    Calls Try.prog 11 #[.agg #[.bool p, .slice a n c, .bool q, .slice b m d], .agg #[.bool p, .slice a' n c', .bool q, .slice b' m d']] w (Ans w (.bool true)) := by
  have H1 := Lib.hid h1
  have H2 := Lib.hid h2
  have H3 := Lib.hid h3
  have H4 := Lib.hid h4
  clear h1 h2 h3 h4
  obtain ⟨W, hW⟩ : ∃ W, W = (w.alloc (.cells #[.bool p, .slice a n c, .bool q, .slice b m d] 28)).alloc (.cells #[.bool p, .slice a' n c', .bool q, .slice b' m d'] 28) := ⟨_, rfl⟩
  have kW : Kept [] ((w.alloc (.cells #[.bool p, .slice a n c, .bool q, .slice b m d] 28)).alloc (.cells #[.bool p, .slice a' n c', .bool q, .slice b' m d'] 28)) W := by rw [hW]; exact Kept.refl _ _
  have HW := Lib.hid hW
  have KW := Lib.hid kW
  have K0 := Lib.hid kW.peel.peel
  clear hW kW
  go_enter Try.func11, Try.ntmps11
  go_upto_region 1 with fail
  rw [← HW.out]
  have a0 := (KW.out.peel.top (g := w.heap.size) (by simp) (by simp) 0 (v := .bool p) rfl).1
  have a1 := (KW.out.peel.top (g := w.heap.size) (by simp) (by simp) 1 (v := .slice a n c) rfl).1
  have a2 := (KW.out.peel.top (g := w.heap.size) (by simp) (by simp) 2 (v := .bool q) rfl).1
  have a3 := (KW.out.peel.top (g := w.heap.size) (by simp) (by simp) 3 (v := .slice b m d) rfl).1
  have b0 := (KW.out.top (g := w.heap.size + 1) (by simp) (by simp) 0 (v := .bool p) rfl).1
  have b1 := (KW.out.top (g := w.heap.size + 1) (by simp) (by simp) 1 (v := .slice a' n c') rfl).1
  have b2 := (KW.out.top (g := w.heap.size + 1) (by simp) (by simp) 2 (v := .bool q) rfl).1
  have b3 := (KW.out.top (g := w.heap.size + 1) (by simp) (by simp) 3 (v := .slice b' m d') rfl).1
  obtain ⟨A, hA⟩ : ∃ A, A = w.heap.size := ⟨_, rfl⟩
  obtain ⟨B, hB⟩ : ∃ A, A = w.heap.size + 1 := ⟨_, rfl⟩
  rw [← hB] at b0 b1 b2 b3 ⊢
  rw [← hA] at a0 a1 a2 a3 ⊢
  have C := Lib.hid (And.intro (And.intro a2 a3) (And.intro b2 b3))
  clear hA hB HW KW
  go_wp2_with fail
  refine (lwSame_yes p a a' n c c' xs _ (H1.out.kept0 K0.out) (H3.out.kept0 K0.out)).mono ?_
  rintro e w1 ⟨rfl, k1⟩
  have q2 := k1.cell C.out.1.1 (by simp)
  have q3 := k1.cell C.out.1.2 (by simp)
  have r2 := k1.cell C.out.2.1 (by simp)
  have r3 := k1.cell C.out.2.2 (by simp)
  have K1 := Lib.hid (K0.out.trans0 k1)
  clear k1 a0 a1 a2 a3 b0 b1 b2 b3
  go_wp2_with fail
  refine (lwSame_yes q b b' m d d' ys _ (H2.out.kept0 K1.out) (H4.out.kept0 K1.out)).mono ?_
  rintro e w2 ⟨rfl, k2⟩
  have K2 := Lib.hid (K1.out.trans0 k2)
  clear k2
  go_wp2_with fail
  go_ret
  exact ⟨rfl, K2.out⟩

end Go.Proofs.Ytlhiahhpmjiioaa
