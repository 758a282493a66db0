/-
  Several of my texts in one, each as it was: PlainU, PlainV, PlainW, SpanI, SpanJ, SpanK, SpanM, SpanP, SpanQ. No condition but theirs.
-/
import Derived.Test.YtjndjjdffifgcaaPlainT
import Derived.WalkKit
import Derived.Deep.RegionHeld3
import Derived.Deep.DrawnRows
import Derived.Deep.DeepCutAuto
import Derived.Test.YtjndjjdffifgcaaSpanF
import Derived.Test.YtjndjjdffifgcaaCopy
import Derived.Test.YtjndjjdffifgcaaSpanG
import Derived.Test.YtjndjjdffifgcaaSMul
import Derived.Test.YtjndjjdffifgcaaRoot
namespace Go.Proofs.Ytjndjjdffifgcaa

/-- A big as a value: its sign, its slice, and the limbs that the slice reads as. -/
structure BE where
  neg : Bool
  ptr : Option Addr
  len : Nat
  cap : Nat
  limbs : List Int
def BE.z (b : BE) : Int := sv b.neg b.limbs
def BE.val (b : BE) : Value := .agg #[.bool b.neg, .slice b.ptr b.len b.cap]
/-- The one that is left, when each one that is ahead takes the place. -/
def pickF (r : Int → Int → Bool) : BE → List BE → BE
  | b, [] => b
  | b, x :: l => pickF r (if r x.z b.z = true then x else b) l
theorem pick_snoc (r : Int → Int → Bool) : ∀ (l : List BE) (b x : BE), pickF r b (l ++ [x]) = if r x.z (pickF r b l).z = true then x else pickF r b l
  | [], _, _ => rfl
  | _ :: l, _, x => pick_snoc r l _ x
theorem pick_mem (r : Int → Int → Bool) : ∀ (l : List BE) (b : BE), pickF r b l = b ∨ pickF r b l ∈ l
  | [], _ => Or.inl rfl
  | x :: l, b => by
    rcases pick_mem r l (if r x.z b.z = true then x else b) with h | h
    · by_cases e : r x.z b.z = true
      · rw [if_pos e] at h; exact Or.inr (by unfold pickF; rw [if_pos e, h]; exact List.mem_cons_self)
      · rw [if_neg e] at h; exact Or.inl (by unfold pickF; rw [if_neg e]; exact h)
    · exact Or.inr (List.mem_cons_of_mem _ h)
theorem take_get {l : List BE} {k : Nat} (h : k < l.length) : l.take (k + 1) = l.take k ++ [l[k]] := by
  rw [List.take_add_one, List.getElem?_eq_getElem h]; rfl
theorem take_all {l : List BE} {k : Nat} (h : l.length ≤ k) : l.take k = l := List.take_of_length_le h

def ltZ (x y : Int) : Bool := decide (x < y)
def gtZ (x y : Int) : Bool := decide (y < x)

theorem mul_len {p q : Bool} {xs ys : List Int} {i j : Nat} (hx : Nat40 xs) (hy : Nat40 ys) (lx : xs.length ≤ i) (ly : ys.length ≤ j) : (mag (sv p xs * sv q ys)).length ≤ i + j := by
  have h1 := (show AllLimbs xs from hx.limb).val
  have h2 := (show AllLimbs ys from hy.limb).val
  have m1 := pw_mono xs.length i lx
  have m2 := pw_mono ys.length j ly
  have h3 : 0 ≤ val xs * val ys := Int.mul_nonneg h1.1 h2.1
  unfold sv
  rw [sg_mul, mag_sg h3]
  refine digits_len _ _ ?_
  rw [pw_add]
  have h4 : val xs * val ys ≤ (pw i - 1) * (pw j - 1) := Int.mul_le_mul (by omega) (by omega) h2.1 (by have := pw_pos i; omega)
  have h5 : (pw i - 1) * (pw j - 1) = pw i * pw j - pw i - pw j + 1 := by rw [Int.sub_mul, Int.mul_sub]; omega
  have := pw_pos i
  have := pw_pos j
  omega
theorem mulB_z {p q : Bool} {xs ys : List Int} {z : Int} (hx : BigOk p xs) (hy : BigOk q ys) (hl : (mag z).length ≤ 40) (hz : z = sv p xs * sv q ys) : mulB p xs q ys = ⟨0, isNeg z, mag z⟩ := by
  unfold mulB fitB
  rw [twoB_zero (bigFault2_of hx hy), ← hz, if_neg (by omega)]
theorem divZ_len {up p q : Bool} {xs ys : List Int} {k : Nat} (hx : Nat40 xs) (hy : BigOk q ys) (hy0 : ys.length ≠ 0) (lx : xs.length ≤ k) : (mag (divZ up p q (val xs) (val ys))).length ≤ k + 1 := by
  have h1 := (show AllLimbs xs from hx.limb).val
  have h2 := canon_nonneg hy.n40.canon
  have hpos : 0 < val ys := h2.2 (fun e => hy0 (by rw [e]; rfl))
  have m1 := pw_mono xs.length k lx
  have d0 : 0 ≤ val xs / val ys := Int.ediv_nonneg h1.1 h2.1
  have d1 : val xs / val ys ≤ val xs := Int.ediv_le_self _ h1.1
  have hp : pw (k + 1) = 65536 * pw k := rfl
  have := pw_pos k
  unfold divZ
  rw [mag_sg (by split <;> omega)]
  exact digits_len _ _ (by split <;> omega)
theorem divB_z {up p q : Bool} {xs ys : List Int} {z : Int} (hx : BigOk p xs) (hy : BigOk q ys) (hy0 : ys.length ≠ 0) (lx : xs.length ≤ 39) (hz : z = divZ up p q (val xs) (val ys)) : divB up p xs q ys = ⟨0, isNeg z, mag z⟩ := by
  have h := divZ_len (up := up) (p := p) hx.n40 hy hy0 lx
  unfold divB fitB
  rw [twoB_zero (bigFault2_of hx hy), if_neg hy0, ← hz, if_neg (by rw [hz]; omega)]

/-- The precisions. -/
def isP (P : Int) : Bool := decide (P = 48 ∨ P = 72 ∨ P = 96)
theorem isP_cases {P : Int} (h : isP P = true) : P = 48 ∨ P = 72 ∨ P = 96 := of_decide_eq_true h
theorem p2_len {k : Nat} (h : k ≤ 96) : (digits (p2 k)).length ≤ 7 := by
  refine digits_len 7 _ ?_
  have := p2_mono k 96 h
  have a := p2_mono 96 111 (by omega)
  have b : p2 112 = 2 * p2 111 := rfl
  have c := p2_pos 111
  rw [pw_p2 7]
  show p2 k < p2 112
  omega
theorem p2_ok {k : Nat} (h : k ≤ 96) : BigOk false (digits (p2 k)) ∧ sv false (digits (p2 k)) = p2 k := by
  have h1 := p2_pos k
  have h2 := p2_len h
  refine ⟨?_, ?_⟩
  · have := bigOk_of (z := p2 k) (by rw [mag_no (by omega)]; omega)
    rw [mag_no (by omega), isNeg_no (by omega)] at this
    exact this
  · show val (digits (p2 k)) = p2 k
    exact val_digits' (by omega)
/-- A number in units. -/
def inU (P : Int) (p : Bool) (xs : List Int) : Int := sv p xs * p2 P.toNat
theorem inU_len {P : Int} {p : Bool} {xs : List Int} (hP : isP P = true) (hx : BigOk p xs) (lx : xs.length ≤ 20) : (mag (inU P p xs)).length ≤ 27 := by
  have hk : P.toNat ≤ 96 := by rcases isP_cases hP with rfl | rfl | rfl <;> decide
  have h := mul_len (p := p) (q := false) hx.n40 (p2_ok hk).1.n40 lx (p2_len hk)
  rw [(p2_ok hk).2] at h
  exact h
def ratS (P : Int) (p : Bool) (xs : List Int) (q : Bool) (ys : List Int) : SV :=
  if isP P = true then twoS (bigFault2 p xs q ys) (if ys.length = 0 then noSpan 6 else if 20 < xs.length ∨ 20 < ys.length then noSpan 2 else
    fitS (divZ false (isNeg (inU P p xs)) q (val (mag (inU P p xs))) (val ys)) (divZ true (isNeg (inU P p xs)) q (val (mag (inU P p xs))) (val ys))) else noSpan 3
theorem ratS_short (P : Int) (p : Bool) (xs : List Int) (q : Bool) (ys : List Int) : Short (ratS P p xs q ys) := by
  unfold ratS
  split
  · refine twoS_short ?_
    split
    · exact noSpan_short 6
    · split
      · exact noSpan_short 2
      · exact fitS_short _ _
  · exact noSpan_short 3

/-- The root, rounded up. -/
def csqZ (v : Int) : Int := if isq v * isq v < v then isq v + 1 else isq v
def lowZ (p : Bool) (xs : List Int) : Int := if p = true then 0 else val xs
def rootS (P : Int) (p : Bool) (xs : List Int) (q : Bool) (ys : List Int) : SV :=
  if isP P = true then twoS (spanFault p xs q ys) (if q = true then noSpan 3 else fitS (isq (lowZ p xs * p2 P.toNat)) (csqZ (val ys * p2 P.toNat))) else noSpan 3
theorem rootS_short (P : Int) (p : Bool) (xs : List Int) (q : Bool) (ys : List Int) : Short (rootS P p xs q ys) := by
  unfold rootS
  split
  · refine twoS_short ?_
    split
    · exact noSpan_short 3
    · exact fitS_short _ _
  · exact noSpan_short 3
theorem lowZ_max {p : Bool} {xs : List Int} (hx : BigOk p xs) : lowZ p xs = maxZ (sv p xs) (sv false []) := by
  have h := canon_nonneg hx.n40.canon
  have hz : sv false [] = 0 := rfl
  rw [hz]
  unfold lowZ maxZ
  cases p
  · rw [show sv false xs = val xs from rfl, if_neg (by simp), if_neg (by omega)]
  · have hpos : 0 < val xs := h.2 (fun e => hx.sign rfl (by rw [e]; rfl))
    rw [show sv true xs = - val xs from rfl, if_pos rfl, if_pos (by omega)]
theorem lowZ_nonneg {p : Bool} {xs : List Int} (hx : BigOk p xs) : 0 ≤ lowZ p xs := by
  have h := (canon_nonneg hx.n40.canon).1
  unfold lowZ
  split <;> omega
theorem lowZ_len {p : Bool} {xs : List Int} (hx : BigOk p xs) (lx : xs.length ≤ 20) : (mag (lowZ p xs)).length ≤ 20 := by
  have h := canon_nonneg hx.n40.canon
  unfold lowZ
  cases p
  · rw [if_neg (by simp), mag_no h.1, digits_val hx.n40.canon]; exact lx
  · rw [if_pos rfl, mag_zero]; simp
theorem isq_nonneg {v : Int} (h : 0 ≤ v) : 0 ≤ isq v := (isq_root h).pos

open Go.RowKit

theorem field_big (v0 v1 v2 : Value) (w : World) : Sem.run Try.prog (Instr.field 61 (.agg #[v0, v1, v2]) 1) w = .ok (.agg #[v1, v2]) w := by kernel_rfl
attribute [local go_sem ↓] field_big
/-- A call that answers a big's result without a code. -/
def BigZ (w : World) (z : Int) (e : Ending) (w' : World) : Prop :=
  ∃ a c, e = .returned (.agg #[.int .i64 0, .bool (isNeg z), .slice a (mag z).length c]) ∧ Sl w' a (mag z).length c (mag z) ∧ Fr w.heap.size a (mag z).length ∧ Kept [] w w'
theorem AddBigs_z (p q : Bool) (a b : Option Addr) (n c m d : Nat) (xs ys : List Int) (z : Int) (w : World) (h : Sl w a n c xs) (h' : Sl w b m d ys) (hx : BigOk p xs) (hy : BigOk q ys) (lx : xs.length ≤ 20) (ly : ys.length ≤ 20) (hz : z = sv p xs + sv q ys) :
    Calls Try.prog 62 #[.agg #[.bool p, .slice a n c], .agg #[.bool q, .slice b m d]] w (BigZ w z) := by
  have := AddBigs_any p q a b n c m d xs ys w h h'
  rw [addB_z hx hy lx ly hz] at this
  exact this
theorem SubBigs_z (p q : Bool) (a b : Option Addr) (n c m d : Nat) (xs ys : List Int) (z : Int) (w : World) (h : Sl w a n c xs) (h' : Sl w b m d ys) (hx : BigOk p xs) (hy : BigOk q ys) (lx : xs.length ≤ 20) (ly : ys.length ≤ 20) (hz : z = sv p xs - sv q ys) :
    Calls Try.prog 65 #[.agg #[.bool p, .slice a n c], .agg #[.bool q, .slice b m d]] w (BigZ w z) := by
  have := SubBigs_any p q a b n c m d xs ys w h h'
  rw [subB_z hx hy lx ly hz] at this
  exact this

set_option maxHeartbeats 8000000 in
set_option maxRecDepth 20000 in
theorem AddSpan_any (p q : Bool) (a b : Option Addr) (n c m d : Nat) (xs ys : List Int) (p' q' : Bool) (a' b' : Option Addr) (n' c' m' d' : Nat) (xs' ys' : List Int) (w : World) (h1 : Sl w a n c xs) (h2 : Sl w b m d ys) (h3 : Sl w a' n' c' xs') (h4 : Sl w b' m' d' ys') :
    Calls Try.prog 25 #[.agg #[.bool p, .slice a n c, .bool q, .slice b m d], .agg #[.bool p', .slice a' n' c', .bool q', .slice b' m' d']] w (SpanR w (addS p xs q ys p' xs' q' ys')) := by
  have H1 := Lib.hid h1
  have H2 := Lib.hid h2
  have H3 := Lib.hid h3
  have H4 := Lib.hid h4
  clear h1 h2 h3 h4
  have F1 := Lib.hid H1.out.lt
  have F2 := Lib.hid H2.out.lt
  have F3 := Lib.hid H3.out.lt
  have F4 := Lib.hid H4.out.lt
  by_cases hz : spanFault2 p xs q ys p' xs' q' ys' = 0
  · skip
    obtain ⟨t1, ht1⟩ : ∃ t, t = sv p xs + sv p' xs' := ⟨_, rfl⟩
    obtain ⟨t2, ht2⟩ : ∃ t, t = sv q ys + sv q' ys' := ⟨_, rfl⟩
    obtain ⟨r, hr⟩ : ∃ r, r = fitS t1 t2 := ⟨_, rfl⟩
    rw [show addS p xs q ys p' xs' q' ys' = r from by unfold addS; rw [twoS_zero hz, hr, ht1, ht2]]
    have HZ := Lib.hid hz
    obtain ⟨ox, oy⟩ := spanFault2_zero hz
    have OX := Lib.hid ox
    have OY := Lib.hid oy
    clear ox oy hz
    have B1 := Lib.hid OX.out.lo
    have B2 := Lib.hid OX.out.hi
    have B3 := Lib.hid OY.out.lo
    have B4 := Lib.hid OY.out.hi
    have X1 := Lib.hid OX.out.lx
    have X2 := Lib.hid OX.out.ly
    have X3 := Lib.hid OY.out.lx
    have X4 := Lib.hid OY.out.ly
    have HT1 := Lib.hid ht1
    have HT2 := Lib.hid ht2
    have HR := Lib.hid hr
    clear ht1 ht2 hr
    go_enter Try.func25, Try.ntmps25
    go_wp2_with fail
    generalize hW : (((w.alloc (.cells #[.bool p, .slice a n c, .bool q, .slice b m d] 31)).alloc (.cells #[.bool p', .slice a' n' c', .bool q', .slice b' m' d'] 31)).alloc (.cells #[.int .i64 0, .bool false, .slice none 0 0, .bool false, .slice none 0 0] 38)) = ww0
    have hkk : Kept [] (((w.alloc (.cells #[.bool p, .slice a n c, .bool q, .slice b m d] 31)).alloc (.cells #[.bool p', .slice a' n' c', .bool q', .slice b' m' d'] 31)).alloc (.cells #[.int .i64 0, .bool false, .slice none 0 0, .bool false, .slice none 0 0] 38)) ww0 := by rw [hW]; exact Kept.refl _ _
    have zzA : w.heap.size + 1 + 1 + 1 = ww0.heap.size := by rw [← hW]; simp
    have nA0 := Lib.hid (hkk.peel.peel.top (g := w.heap.size) (by simp) (by simp) 0 (v := .bool p) rfl).1
    have nA1 := Lib.hid (hkk.peel.peel.top (g := w.heap.size) (by simp) (by simp) 1 (v := .slice a n c) rfl).1
    have nA2 := Lib.hid (hkk.peel.peel.top (g := w.heap.size) (by simp) (by simp) 2 (v := .bool q) rfl).1
    have nA3 := Lib.hid (hkk.peel.peel.top (g := w.heap.size) (by simp) (by simp) 3 (v := .slice b m d) rfl).1
    have nB0 := Lib.hid (hkk.peel.top (g := w.heap.size + 1) (by simp) (by simp) 0 (v := .bool p') rfl).1
    have nB1 := Lib.hid (hkk.peel.top (g := w.heap.size + 1) (by simp) (by simp) 1 (v := .slice a' n' c') rfl).1
    have nB2 := Lib.hid (hkk.peel.top (g := w.heap.size + 1) (by simp) (by simp) 2 (v := .bool q') rfl).1
    have nB3 := Lib.hid (hkk.peel.top (g := w.heap.size + 1) (by simp) (by simp) 3 (v := .slice b' m' d') rfl).1
    have nR0 := Lib.hid (hkk.top (g := w.heap.size + 1 + 1) (by simp) (by simp) 0 (v := .int .i64 0) rfl).1
    have fR0 := Lib.hid (hkk.top (g := w.heap.size + 1 + 1) (by simp) (by simp) 0 (v := .int .i64 0) rfl).2.1
    have nR1 := Lib.hid (hkk.top (g := w.heap.size + 1 + 1) (by simp) (by simp) 1 (v := .bool false) rfl).1
    have fR1 := Lib.hid (hkk.top (g := w.heap.size + 1 + 1) (by simp) (by simp) 1 (v := .bool false) rfl).2.1
    have nR2 := Lib.hid (hkk.top (g := w.heap.size + 1 + 1) (by simp) (by simp) 2 (v := .slice none 0 0) rfl).1
    have fR2 := Lib.hid (hkk.top (g := w.heap.size + 1 + 1) (by simp) (by simp) 2 (v := .slice none 0 0) rfl).2.1
    have nR3 := Lib.hid (hkk.top (g := w.heap.size + 1 + 1) (by simp) (by simp) 3 (v := .bool false) rfl).1
    have fR3 := Lib.hid (hkk.top (g := w.heap.size + 1 + 1) (by simp) (by simp) 3 (v := .bool false) rfl).2.1
    have nR4 := Lib.hid (hkk.top (g := w.heap.size + 1 + 1) (by simp) (by simp) 4 (v := .slice none 0 0) rfl).1
    have fR4 := Lib.hid (hkk.top (g := w.heap.size + 1 + 1) (by simp) (by simp) 4 (v := .slice none 0 0) rfl).2.1
    have hk := hkk.peel.peel.peel
    clear hkk hW
    have z0 := hk.size
    have KT := Lib.hid hk
    clear hk
    replace H1 := Lib.hid (H1.out.kept0 KT.out)
    replace H2 := Lib.hid (H2.out.kept0 KT.out)
    replace H3 := Lib.hid (H3.out.kept0 KT.out)
    replace H4 := Lib.hid (H4.out.kept0 KT.out)
    refine (firstSpanFault_two _ _ _ _ _ _ _ _ _ _ _ _ _ _ _ _ _ _ _ _ _ _ (by omega) H1.out H2.out H3.out H4.out).mono ?_
    rintro e ww1 ⟨rfl, hk⟩
    rw [HZ.out]
    have z1 := hk.size
    replace fR0 := Lib.hid (hk.free' (p := ⟨w.heap.size + 1 + 1, 0, none⟩) nR0.out fR0.out (by simp))
    replace fR1 := Lib.hid (hk.free' (p := ⟨w.heap.size + 1 + 1, 1, none⟩) nR1.out fR1.out (by simp))
    replace fR2 := Lib.hid (hk.free' (p := ⟨w.heap.size + 1 + 1, 2, none⟩) nR2.out fR2.out (by simp))
    replace fR3 := Lib.hid (hk.free' (p := ⟨w.heap.size + 1 + 1, 3, none⟩) nR3.out fR3.out (by simp))
    replace fR4 := Lib.hid (hk.free' (p := ⟨w.heap.size + 1 + 1, 4, none⟩) nR4.out fR4.out (by simp))
    replace nA0 := Lib.hid (hk.cell (p := ⟨w.heap.size, 0, none⟩) nA0.out (by simp))
    replace nA1 := Lib.hid (hk.cell (p := ⟨w.heap.size, 1, none⟩) nA1.out (by simp))
    replace nA2 := Lib.hid (hk.cell (p := ⟨w.heap.size, 2, none⟩) nA2.out (by simp))
    replace nA3 := Lib.hid (hk.cell (p := ⟨w.heap.size, 3, none⟩) nA3.out (by simp))
    replace nB0 := Lib.hid (hk.cell (p := ⟨w.heap.size + 1, 0, none⟩) nB0.out (by simp))
    replace nB1 := Lib.hid (hk.cell (p := ⟨w.heap.size + 1, 1, none⟩) nB1.out (by simp))
    replace nB2 := Lib.hid (hk.cell (p := ⟨w.heap.size + 1, 2, none⟩) nB2.out (by simp))
    replace nB3 := Lib.hid (hk.cell (p := ⟨w.heap.size + 1, 3, none⟩) nB3.out (by simp))
    replace nR0 := Lib.hid (hk.cell (p := ⟨w.heap.size + 1 + 1, 0, none⟩) nR0.out (by simp))
    replace nR1 := Lib.hid (hk.cell (p := ⟨w.heap.size + 1 + 1, 1, none⟩) nR1.out (by simp))
    replace nR2 := Lib.hid (hk.cell (p := ⟨w.heap.size + 1 + 1, 2, none⟩) nR2.out (by simp))
    replace nR3 := Lib.hid (hk.cell (p := ⟨w.heap.size + 1 + 1, 3, none⟩) nR3.out (by simp))
    replace nR4 := Lib.hid (hk.cell (p := ⟨w.heap.size + 1 + 1, 4, none⟩) nR4.out (by simp))
    replace H1 := Lib.hid (H1.out.kept0 hk)
    replace H2 := Lib.hid (H2.out.kept0 hk)
    replace H3 := Lib.hid (H3.out.kept0 hk)
    replace H4 := Lib.hid (H4.out.kept0 hk)
    replace KT := Lib.hid (KT.out.trans0 hk)
    clear hk
    have tA0 := nA0.out
    have tA1 := nA1.out
    have tA2 := nA2.out
    have tA3 := nA3.out
    have tB0 := nB0.out
    have tB1 := nB1.out
    have tB2 := nB2.out
    have tB3 := nB3.out
    go_wp2_with fail
    clear tA0 tA1 tA2 tA3 tB0 tB1 tB2 tB3
    have tA0 := nA0.out
    have tA1 := nA1.out
    have tA2 := nA2.out
    have tA3 := nA3.out
    have tB0 := nB0.out
    have tB1 := nB1.out
    have tB2 := nB2.out
    have tB3 := nB3.out
    go_region_held3 (fun w' => w'.cell? ⟨w.heap.size, 0, none⟩ = some (.bool p) ∧ w'.cell? ⟨w.heap.size, 1, none⟩ = some (.slice a n c) ∧ w'.cell? ⟨w.heap.size, 2, none⟩ = some (.bool q) ∧ w'.cell? ⟨w.heap.size, 3, none⟩ = some (.slice b m d) ∧ w'.cell? ⟨w.heap.size + 1, 0, none⟩ = some (.bool p') ∧ w'.cell? ⟨w.heap.size + 1, 1, none⟩ = some (.slice a' n' c') ∧ w'.cell? ⟨w.heap.size + 1, 2, none⟩ = some (.bool q') ∧ w'.cell? ⟨w.heap.size + 1, 3, none⟩ = some (.slice b' m' d') ∧ Hid (Kept [w.heap.size + 1 + 1] ww1 w'))
      ((go_split_ands; (try refine ⟨?_, ?_, ?_, ?_, ?_, ?_, ?_, ?_, ?_⟩) <;> with_reducible first | exact Kept.set5 (by assumption) | exact cell_set5 (by assumption) (by simp <;> omega) | exact Lib.hid ((Kept.refl _ _).drew) | exact drew_cell (by assumption) | exact Kept.allocH (by assumption) | exact alloc_cell (by assumption) | exact Lib.hid (Kept.trans0 (Hid.out (by assumption)) (by assumption)) | exact Kept.cell (by assumption) (by assumption) (by simp)))
      (first
        | (go_at_call_of 62 (Value.agg #[Value.bool p, Value.slice a n c]); go_split_ands; refine (AddBigs_z _ _ _ _ _ _ _ _ _ _ _ _ (H1.out.kept0 ((Kept.refl [] _).drew)) (H3.out.kept0 ((Kept.refl [] _).drew)) B1.out B3.out X1.out X3.out HT1.out).mono ?_; rintro e v1 ⟨a1, c1, rfl, hs1, hf1, hk1⟩)
        | (go_at_call_of 62 (Value.agg #[Value.bool q, Value.slice b m d]); go_split_ands; refine (AddBigs_z _ _ _ _ _ _ _ _ _ _ _ _ (H2.out.kept0 (((Kept.refl [] _).drew).trans0 hk1)) (H4.out.kept0 (((Kept.refl [] _).drew).trans0 hk1)) B2.out B4.out X2.out X4.out HT2.out).mono ?_; rintro e v2 ⟨a2, c2, rfl, hs2, hf2, hk2⟩)
        | (go_at_call 61; go_split_ands; refine (spanResult_any _ _ _ _ _ _ _ _ _ (hs1.kept0 hk2) hs2).mono ?_; rintro e v3 ⟨a3, c3, b3, d3, rfl, hs3, hs4, hf3, hf4, hne, hk3⟩; have z12 := (hk1.trans0 hk2).size; simp only [World.size_drew] at z12; have hkr := ((((Kept.refl [] ww1).drew).trans0 hk1).trans0 hk2).trans0 hk3; have rg0 := hkr.cell (p := ⟨w.heap.size + 1 + 1, 0, none⟩) nR0.out (by simp); have rg1 := hkr.cell (p := ⟨w.heap.size + 1 + 1, 1, none⟩) nR1.out (by simp); have rg2 := hkr.cell (p := ⟨w.heap.size + 1 + 1, 2, none⟩) nR2.out (by simp); have rg3 := hkr.cell (p := ⟨w.heap.size + 1 + 1, 3, none⟩) nR3.out (by simp); have rg4 := hkr.cell (p := ⟨w.heap.size + 1 + 1, 4, none⟩) nR4.out (by simp); have ru0 := hkr.free' (p := ⟨w.heap.size + 1 + 1, 0, none⟩) nR0.out fR0.out (by simp); have ru1 := hkr.free' (p := ⟨w.heap.size + 1 + 1, 1, none⟩) nR1.out fR1.out (by simp); have ru2 := hkr.free' (p := ⟨w.heap.size + 1 + 1, 2, none⟩) nR2.out fR2.out (by simp); have ru3 := hkr.free' (p := ⟨w.heap.size + 1 + 1, 3, none⟩) nR3.out fR3.out (by simp); have ru4 := hkr.free' (p := ⟨w.heap.size + 1 + 1, 4, none⟩) nR4.out fR4.out (by simp)))
    clear tA0 tA1 tA2 tA3 tB0 tB1 tB2 tB3
    have hk := hkr
    clear hkr
    clear hs1 hf1 hs2 hf2 hk1 hk2 hk3
    rw [← HR.out] at hs3 hs4 hf3 hf4 hne ⊢
    have z2 := hk.size
    replace fR0 := Lib.hid (hk.free' (p := ⟨w.heap.size + 1 + 1, 0, none⟩) nR0.out fR0.out (by simp))
    replace fR1 := Lib.hid (hk.free' (p := ⟨w.heap.size + 1 + 1, 1, none⟩) nR1.out fR1.out (by simp))
    replace fR2 := Lib.hid (hk.free' (p := ⟨w.heap.size + 1 + 1, 2, none⟩) nR2.out fR2.out (by simp))
    replace fR3 := Lib.hid (hk.free' (p := ⟨w.heap.size + 1 + 1, 3, none⟩) nR3.out fR3.out (by simp))
    replace fR4 := Lib.hid (hk.free' (p := ⟨w.heap.size + 1 + 1, 4, none⟩) nR4.out fR4.out (by simp))
    replace nA0 := Lib.hid (hk.cell (p := ⟨w.heap.size, 0, none⟩) nA0.out (by simp))
    replace nA1 := Lib.hid (hk.cell (p := ⟨w.heap.size, 1, none⟩) nA1.out (by simp))
    replace nA2 := Lib.hid (hk.cell (p := ⟨w.heap.size, 2, none⟩) nA2.out (by simp))
    replace nA3 := Lib.hid (hk.cell (p := ⟨w.heap.size, 3, none⟩) nA3.out (by simp))
    replace nB0 := Lib.hid (hk.cell (p := ⟨w.heap.size + 1, 0, none⟩) nB0.out (by simp))
    replace nB1 := Lib.hid (hk.cell (p := ⟨w.heap.size + 1, 1, none⟩) nB1.out (by simp))
    replace nB2 := Lib.hid (hk.cell (p := ⟨w.heap.size + 1, 2, none⟩) nB2.out (by simp))
    replace nB3 := Lib.hid (hk.cell (p := ⟨w.heap.size + 1, 3, none⟩) nB3.out (by simp))
    replace nR0 := Lib.hid (hk.cell (p := ⟨w.heap.size + 1 + 1, 0, none⟩) nR0.out (by simp))
    replace nR1 := Lib.hid (hk.cell (p := ⟨w.heap.size + 1 + 1, 1, none⟩) nR1.out (by simp))
    replace nR2 := Lib.hid (hk.cell (p := ⟨w.heap.size + 1 + 1, 2, none⟩) nR2.out (by simp))
    replace nR3 := Lib.hid (hk.cell (p := ⟨w.heap.size + 1 + 1, 3, none⟩) nR3.out (by simp))
    replace nR4 := Lib.hid (hk.cell (p := ⟨w.heap.size + 1 + 1, 4, none⟩) nR4.out (by simp))
    replace H1 := Lib.hid (H1.out.kept0 hk)
    replace H2 := Lib.hid (H2.out.kept0 hk)
    replace H3 := Lib.hid (H3.out.kept0 hk)
    replace H4 := Lib.hid (H4.out.kept0 hk)
    replace KT := Lib.hid (KT.out.trans0 hk)
    clear hk
    have hs3 := Lib.hid hs3
    have hs4 := Lib.hid hs4
    have HNE := Lib.hid hne
    have G3 := Lib.hid (hf3.mono (B' := w.heap.size + 1 + 1 + 1) (by omega))
    have G4 := Lib.hid (hf4.mono (B' := w.heap.size + 1 + 1 + 1) (by omega))
    clear hf3 hf4 hne
    generalize hW : (((((v3.setCell ⟨w.heap.size + 1 + 1, 0, none⟩ (.int .i64 r.code)).setCell ⟨w.heap.size + 1 + 1, 1, none⟩ (.bool (isNeg r.lo))).setCell ⟨w.heap.size + 1 + 1, 2, none⟩ (.slice a3 (mag r.lo).length c3)).setCell ⟨w.heap.size + 1 + 1, 3, none⟩ (.bool (isNeg r.hi))).setCell ⟨w.heap.size + 1 + 1, 4, none⟩ (.slice b3 (mag r.hi).length d3)) = ww3
    have hk : Kept [w.heap.size + 1 + 1] v3 ww3 := by rw [← hW]; exact (((((Kept.refl _ _).setCell _ _ (by simp)).setCell _ _ (by simp)).setCell _ _ (by simp)).setCell _ _ (by simp)).setCell _ _ (by simp)
    have hfz : ∀ x, ww3.frozen? x = v3.frozen? x := by rw [← hW]; intro x; simp only [World.frozen?_setCell]
    have e0 : ww3.cell? ⟨w.heap.size + 1 + 1, 0, none⟩ = some (.int .i64 r.code) := by rw [← hW]; rw [World.cell?_setCell_other _ _ _ _ (by simp), World.cell?_setCell_other _ _ _ _ (by simp), World.cell?_setCell_other _ _ _ _ (by simp), World.cell?_setCell_other _ _ _ _ (by simp)]; exact World.cell?_setCell_same _ _ _ (by exact nR0.out)
    have e1 : ww3.cell? ⟨w.heap.size + 1 + 1, 1, none⟩ = some (.bool (isNeg r.lo)) := by rw [← hW]; rw [World.cell?_setCell_other _ _ _ _ (by simp), World.cell?_setCell_other _ _ _ _ (by simp), World.cell?_setCell_other _ _ _ _ (by simp)]; exact World.cell?_setCell_same _ _ _ (by rw [World.cell?_setCell_other _ _ _ _ (by simp)]; exact nR1.out)
    have e2 : ww3.cell? ⟨w.heap.size + 1 + 1, 2, none⟩ = some (.slice a3 (mag r.lo).length c3) := by rw [← hW]; rw [World.cell?_setCell_other _ _ _ _ (by simp), World.cell?_setCell_other _ _ _ _ (by simp)]; exact World.cell?_setCell_same _ _ _ (by rw [World.cell?_setCell_other _ _ _ _ (by simp), World.cell?_setCell_other _ _ _ _ (by simp)]; exact nR2.out)
    have e3 : ww3.cell? ⟨w.heap.size + 1 + 1, 3, none⟩ = some (.bool (isNeg r.hi)) := by rw [← hW]; rw [World.cell?_setCell_other _ _ _ _ (by simp)]; exact World.cell?_setCell_same _ _ _ (by rw [World.cell?_setCell_other _ _ _ _ (by simp), World.cell?_setCell_other _ _ _ _ (by simp), World.cell?_setCell_other _ _ _ _ (by simp)]; exact nR3.out)
    have e4 : ww3.cell? ⟨w.heap.size + 1 + 1, 4, none⟩ = some (.slice b3 (mag r.hi).length d3) := by rw [← hW]; exact World.cell?_setCell_same _ _ _ (by rw [World.cell?_setCell_other _ _ _ _ (by simp), World.cell?_setCell_other _ _ _ _ (by simp), World.cell?_setCell_other _ _ _ _ (by simp), World.cell?_setCell_other _ _ _ _ (by simp)]; exact nR4.out)
    have z3 := hk.size
    replace fR0 := Lib.hid (show ww3.frozen? ⟨w.heap.size + 1 + 1, 0, none⟩ = false by rw [hfz]; exact fR0.out)
    replace fR1 := Lib.hid (show ww3.frozen? ⟨w.heap.size + 1 + 1, 1, none⟩ = false by rw [hfz]; exact fR1.out)
    replace fR2 := Lib.hid (show ww3.frozen? ⟨w.heap.size + 1 + 1, 2, none⟩ = false by rw [hfz]; exact fR2.out)
    replace fR3 := Lib.hid (show ww3.frozen? ⟨w.heap.size + 1 + 1, 3, none⟩ = false by rw [hfz]; exact fR3.out)
    replace fR4 := Lib.hid (show ww3.frozen? ⟨w.heap.size + 1 + 1, 4, none⟩ = false by rw [hfz]; exact fR4.out)
    replace nA0 := Lib.hid (hk.cell (p := ⟨w.heap.size, 0, none⟩) nA0.out (by simp <;> omega))
    replace nA1 := Lib.hid (hk.cell (p := ⟨w.heap.size, 1, none⟩) nA1.out (by simp <;> omega))
    replace nA2 := Lib.hid (hk.cell (p := ⟨w.heap.size, 2, none⟩) nA2.out (by simp <;> omega))
    replace nA3 := Lib.hid (hk.cell (p := ⟨w.heap.size, 3, none⟩) nA3.out (by simp <;> omega))
    replace nB0 := Lib.hid (hk.cell (p := ⟨w.heap.size + 1, 0, none⟩) nB0.out (by simp <;> omega))
    replace nB1 := Lib.hid (hk.cell (p := ⟨w.heap.size + 1, 1, none⟩) nB1.out (by simp <;> omega))
    replace nB2 := Lib.hid (hk.cell (p := ⟨w.heap.size + 1, 2, none⟩) nB2.out (by simp <;> omega))
    replace nB3 := Lib.hid (hk.cell (p := ⟨w.heap.size + 1, 3, none⟩) nB3.out (by simp <;> omega))
    replace H1 := Lib.hid (H1.out.kept hk (fun hn y hy hm => by have h9 := F1.out hn y hy; simp at hm; omega))
    replace H2 := Lib.hid (H2.out.kept hk (fun hn y hy hm => by have h9 := F2.out hn y hy; simp at hm; omega))
    replace H3 := Lib.hid (H3.out.kept hk (fun hn y hy hm => by have h9 := F3.out hn y hy; simp at hm; omega))
    replace H4 := Lib.hid (H4.out.kept hk (fun hn y hy hm => by have h9 := F4.out hn y hy; simp at hm; omega))
    replace hs3 := Lib.hid (hs3.out.kept hk (fun hn y hy hm => by have h9 := G3.out hn y hy; simp at hm; omega))
    replace hs4 := Lib.hid (hs4.out.kept hk (fun hn y hy hm => by have h9 := G4.out hn y hy; simp at hm; omega))
    replace nR0 := Lib.hid e0
    replace nR1 := Lib.hid e1
    replace nR2 := Lib.hid e2
    replace nR3 := Lib.hid e3
    replace nR4 := Lib.hid e4
    replace KT := Lib.hid (KT.out.trans hk (fun x hx hlt => by simp at hx; omega))
    clear hk hfz hW e0 e1 e2 e3 e4
    go_wp2_with fail
    have e0 := nR0.out
    have e1 := nR1.out
    have e2 := nR2.out
    have e3 := nR3.out
    have e4 := nR4.out
    refine bodyPost_ret (v := .agg #[.int .i64 r.code, .bool (isNeg r.lo), .slice a3 (mag r.lo).length c3, .bool (isNeg r.hi), .slice b3 (mag r.hi).length d3]) (by simp [results, Try.results25, go_sem, e0, e1, e2, e3, e4]) rfl ?_
    exact ⟨a3, c3, b3, d3, rfl, hs3.out, hs4.out, G3.out.mono (by omega), G4.out.mono (by omega), HNE.out, KT.out⟩
  · skip
    rw [show addS p xs q ys p' xs' q' ys' = noSpan (spanFault2 p xs q ys p' xs' q' ys') from twoS_not hz]
    generalize hf : spanFault2 p xs q ys p' xs' q' ys' = f at *
    have hne : (f == 0) = false := by rw [beq_eq_false_iff_ne]; exact hz
    have HZ := Lib.hid hf
    clear hf hz
    go_enter Try.func25, Try.ntmps25
    go_wp2_with fail
    generalize hW : (((w.alloc (.cells #[.bool p, .slice a n c, .bool q, .slice b m d] 31)).alloc (.cells #[.bool p', .slice a' n' c', .bool q', .slice b' m' d'] 31)).alloc (.cells #[.int .i64 0, .bool false, .slice none 0 0, .bool false, .slice none 0 0] 38)) = ww0
    have hkk : Kept [] (((w.alloc (.cells #[.bool p, .slice a n c, .bool q, .slice b m d] 31)).alloc (.cells #[.bool p', .slice a' n' c', .bool q', .slice b' m' d'] 31)).alloc (.cells #[.int .i64 0, .bool false, .slice none 0 0, .bool false, .slice none 0 0] 38)) ww0 := by rw [hW]; exact Kept.refl _ _
    have zzA : w.heap.size + 1 + 1 + 1 = ww0.heap.size := by rw [← hW]; simp
    have nA0 := Lib.hid (hkk.peel.peel.top (g := w.heap.size) (by simp) (by simp) 0 (v := .bool p) rfl).1
    have nA1 := Lib.hid (hkk.peel.peel.top (g := w.heap.size) (by simp) (by simp) 1 (v := .slice a n c) rfl).1
    have nA2 := Lib.hid (hkk.peel.peel.top (g := w.heap.size) (by simp) (by simp) 2 (v := .bool q) rfl).1
    have nA3 := Lib.hid (hkk.peel.peel.top (g := w.heap.size) (by simp) (by simp) 3 (v := .slice b m d) rfl).1
    have nB0 := Lib.hid (hkk.peel.top (g := w.heap.size + 1) (by simp) (by simp) 0 (v := .bool p') rfl).1
    have nB1 := Lib.hid (hkk.peel.top (g := w.heap.size + 1) (by simp) (by simp) 1 (v := .slice a' n' c') rfl).1
    have nB2 := Lib.hid (hkk.peel.top (g := w.heap.size + 1) (by simp) (by simp) 2 (v := .bool q') rfl).1
    have nB3 := Lib.hid (hkk.peel.top (g := w.heap.size + 1) (by simp) (by simp) 3 (v := .slice b' m' d') rfl).1
    have nR0 := Lib.hid (hkk.top (g := w.heap.size + 1 + 1) (by simp) (by simp) 0 (v := .int .i64 0) rfl).1
    have fR0 := Lib.hid (hkk.top (g := w.heap.size + 1 + 1) (by simp) (by simp) 0 (v := .int .i64 0) rfl).2.1
    have nR1 := Lib.hid (hkk.top (g := w.heap.size + 1 + 1) (by simp) (by simp) 1 (v := .bool false) rfl).1
    have fR1 := Lib.hid (hkk.top (g := w.heap.size + 1 + 1) (by simp) (by simp) 1 (v := .bool false) rfl).2.1
    have nR2 := Lib.hid (hkk.top (g := w.heap.size + 1 + 1) (by simp) (by simp) 2 (v := .slice none 0 0) rfl).1
    have fR2 := Lib.hid (hkk.top (g := w.heap.size + 1 + 1) (by simp) (by simp) 2 (v := .slice none 0 0) rfl).2.1
    have nR3 := Lib.hid (hkk.top (g := w.heap.size + 1 + 1) (by simp) (by simp) 3 (v := .bool false) rfl).1
    have fR3 := Lib.hid (hkk.top (g := w.heap.size + 1 + 1) (by simp) (by simp) 3 (v := .bool false) rfl).2.1
    have nR4 := Lib.hid (hkk.top (g := w.heap.size + 1 + 1) (by simp) (by simp) 4 (v := .slice none 0 0) rfl).1
    have fR4 := Lib.hid (hkk.top (g := w.heap.size + 1 + 1) (by simp) (by simp) 4 (v := .slice none 0 0) rfl).2.1
    have hk := hkk.peel.peel.peel
    clear hkk hW
    have z0 := hk.size
    have KT := Lib.hid hk
    clear hk
    replace H1 := Lib.hid (H1.out.kept0 KT.out)
    replace H2 := Lib.hid (H2.out.kept0 KT.out)
    replace H3 := Lib.hid (H3.out.kept0 KT.out)
    replace H4 := Lib.hid (H4.out.kept0 KT.out)
    refine (firstSpanFault_two _ _ _ _ _ _ _ _ _ _ _ _ _ _ _ _ _ _ _ _ _ _ (by omega) H1.out H2.out H3.out H4.out).mono ?_
    rintro e ww1 ⟨rfl, hk⟩
    rw [HZ.out]
    have z1 := hk.size
    replace fR0 := Lib.hid (hk.free' (p := ⟨w.heap.size + 1 + 1, 0, none⟩) nR0.out fR0.out (by simp))
    replace fR1 := Lib.hid (hk.free' (p := ⟨w.heap.size + 1 + 1, 1, none⟩) nR1.out fR1.out (by simp))
    replace fR2 := Lib.hid (hk.free' (p := ⟨w.heap.size + 1 + 1, 2, none⟩) nR2.out fR2.out (by simp))
    replace fR3 := Lib.hid (hk.free' (p := ⟨w.heap.size + 1 + 1, 3, none⟩) nR3.out fR3.out (by simp))
    replace fR4 := Lib.hid (hk.free' (p := ⟨w.heap.size + 1 + 1, 4, none⟩) nR4.out fR4.out (by simp))
    replace nA0 := Lib.hid (hk.cell (p := ⟨w.heap.size, 0, none⟩) nA0.out (by simp))
    replace nA1 := Lib.hid (hk.cell (p := ⟨w.heap.size, 1, none⟩) nA1.out (by simp))
    replace nA2 := Lib.hid (hk.cell (p := ⟨w.heap.size, 2, none⟩) nA2.out (by simp))
    replace nA3 := Lib.hid (hk.cell (p := ⟨w.heap.size, 3, none⟩) nA3.out (by simp))
    replace nB0 := Lib.hid (hk.cell (p := ⟨w.heap.size + 1, 0, none⟩) nB0.out (by simp))
    replace nB1 := Lib.hid (hk.cell (p := ⟨w.heap.size + 1, 1, none⟩) nB1.out (by simp))
    replace nB2 := Lib.hid (hk.cell (p := ⟨w.heap.size + 1, 2, none⟩) nB2.out (by simp))
    replace nB3 := Lib.hid (hk.cell (p := ⟨w.heap.size + 1, 3, none⟩) nB3.out (by simp))
    replace nR0 := Lib.hid (hk.cell (p := ⟨w.heap.size + 1 + 1, 0, none⟩) nR0.out (by simp))
    replace nR1 := Lib.hid (hk.cell (p := ⟨w.heap.size + 1 + 1, 1, none⟩) nR1.out (by simp))
    replace nR2 := Lib.hid (hk.cell (p := ⟨w.heap.size + 1 + 1, 2, none⟩) nR2.out (by simp))
    replace nR3 := Lib.hid (hk.cell (p := ⟨w.heap.size + 1 + 1, 3, none⟩) nR3.out (by simp))
    replace nR4 := Lib.hid (hk.cell (p := ⟨w.heap.size + 1 + 1, 4, none⟩) nR4.out (by simp))
    replace H1 := Lib.hid (H1.out.kept0 hk)
    replace H2 := Lib.hid (H2.out.kept0 hk)
    replace H3 := Lib.hid (H3.out.kept0 hk)
    replace H4 := Lib.hid (H4.out.kept0 hk)
    replace KT := Lib.hid (KT.out.trans0 hk)
    clear hk
    have tR0 := nR0.out
    have tR1 := nR1.out
    have tR2 := nR2.out
    have tR3 := nR3.out
    have tR4 := nR4.out
    have uR0 := fR0.out
    have uR1 := fR1.out
    have uR2 := fR2.out
    have uR3 := fR3.out
    have uR4 := fR4.out
    go_wp2_with fail
    clear tR0 tR1 tR2 tR3 tR4 uR0 uR1 uR2 uR3 uR4
    generalize hW : (((((ww1.setCell ⟨w.heap.size + 1 + 1, 0, none⟩ (.int .i64 f)).setCell ⟨w.heap.size + 1 + 1, 1, none⟩ (.bool false)).setCell ⟨w.heap.size + 1 + 1, 2, none⟩ (.slice none 0 0)).setCell ⟨w.heap.size + 1 + 1, 3, none⟩ (.bool false)).setCell ⟨w.heap.size + 1 + 1, 4, none⟩ (.slice none 0 0)) = ww2
    have hk : Kept [w.heap.size + 1 + 1] ww1 ww2 := by rw [← hW]; exact (((((Kept.refl _ _).setCell _ _ (by simp)).setCell _ _ (by simp)).setCell _ _ (by simp)).setCell _ _ (by simp)).setCell _ _ (by simp)
    have hfz : ∀ x, ww2.frozen? x = ww1.frozen? x := by rw [← hW]; intro x; simp only [World.frozen?_setCell]
    have e0 : ww2.cell? ⟨w.heap.size + 1 + 1, 0, none⟩ = some (.int .i64 f) := by rw [← hW]; rw [World.cell?_setCell_other _ _ _ _ (by simp), World.cell?_setCell_other _ _ _ _ (by simp), World.cell?_setCell_other _ _ _ _ (by simp), World.cell?_setCell_other _ _ _ _ (by simp)]; exact World.cell?_setCell_same _ _ _ (by exact nR0.out)
    have e1 : ww2.cell? ⟨w.heap.size + 1 + 1, 1, none⟩ = some (.bool false) := by rw [← hW]; rw [World.cell?_setCell_other _ _ _ _ (by simp), World.cell?_setCell_other _ _ _ _ (by simp), World.cell?_setCell_other _ _ _ _ (by simp)]; exact World.cell?_setCell_same _ _ _ (by rw [World.cell?_setCell_other _ _ _ _ (by simp)]; exact nR1.out)
    have e2 : ww2.cell? ⟨w.heap.size + 1 + 1, 2, none⟩ = some (.slice none 0 0) := by rw [← hW]; rw [World.cell?_setCell_other _ _ _ _ (by simp), World.cell?_setCell_other _ _ _ _ (by simp)]; exact World.cell?_setCell_same _ _ _ (by rw [World.cell?_setCell_other _ _ _ _ (by simp), World.cell?_setCell_other _ _ _ _ (by simp)]; exact nR2.out)
    have e3 : ww2.cell? ⟨w.heap.size + 1 + 1, 3, none⟩ = some (.bool false) := by rw [← hW]; rw [World.cell?_setCell_other _ _ _ _ (by simp)]; exact World.cell?_setCell_same _ _ _ (by rw [World.cell?_setCell_other _ _ _ _ (by simp), World.cell?_setCell_other _ _ _ _ (by simp), World.cell?_setCell_other _ _ _ _ (by simp)]; exact nR3.out)
    have e4 : ww2.cell? ⟨w.heap.size + 1 + 1, 4, none⟩ = some (.slice none 0 0) := by rw [← hW]; exact World.cell?_setCell_same _ _ _ (by rw [World.cell?_setCell_other _ _ _ _ (by simp), World.cell?_setCell_other _ _ _ _ (by simp), World.cell?_setCell_other _ _ _ _ (by simp), World.cell?_setCell_other _ _ _ _ (by simp)]; exact nR4.out)
    have z2 := hk.size
    replace fR0 := Lib.hid (show ww2.frozen? ⟨w.heap.size + 1 + 1, 0, none⟩ = false by rw [hfz]; exact fR0.out)
    replace fR1 := Lib.hid (show ww2.frozen? ⟨w.heap.size + 1 + 1, 1, none⟩ = false by rw [hfz]; exact fR1.out)
    replace fR2 := Lib.hid (show ww2.frozen? ⟨w.heap.size + 1 + 1, 2, none⟩ = false by rw [hfz]; exact fR2.out)
    replace fR3 := Lib.hid (show ww2.frozen? ⟨w.heap.size + 1 + 1, 3, none⟩ = false by rw [hfz]; exact fR3.out)
    replace fR4 := Lib.hid (show ww2.frozen? ⟨w.heap.size + 1 + 1, 4, none⟩ = false by rw [hfz]; exact fR4.out)
    replace nA0 := Lib.hid (hk.cell (p := ⟨w.heap.size, 0, none⟩) nA0.out (by simp <;> omega))
    replace nA1 := Lib.hid (hk.cell (p := ⟨w.heap.size, 1, none⟩) nA1.out (by simp <;> omega))
    replace nA2 := Lib.hid (hk.cell (p := ⟨w.heap.size, 2, none⟩) nA2.out (by simp <;> omega))
    replace nA3 := Lib.hid (hk.cell (p := ⟨w.heap.size, 3, none⟩) nA3.out (by simp <;> omega))
    replace nB0 := Lib.hid (hk.cell (p := ⟨w.heap.size + 1, 0, none⟩) nB0.out (by simp <;> omega))
    replace nB1 := Lib.hid (hk.cell (p := ⟨w.heap.size + 1, 1, none⟩) nB1.out (by simp <;> omega))
    replace nB2 := Lib.hid (hk.cell (p := ⟨w.heap.size + 1, 2, none⟩) nB2.out (by simp <;> omega))
    replace nB3 := Lib.hid (hk.cell (p := ⟨w.heap.size + 1, 3, none⟩) nB3.out (by simp <;> omega))
    replace H1 := Lib.hid (H1.out.kept hk (fun hn y hy hm => by have h9 := F1.out hn y hy; simp at hm; omega))
    replace H2 := Lib.hid (H2.out.kept hk (fun hn y hy hm => by have h9 := F2.out hn y hy; simp at hm; omega))
    replace H3 := Lib.hid (H3.out.kept hk (fun hn y hy hm => by have h9 := F3.out hn y hy; simp at hm; omega))
    replace H4 := Lib.hid (H4.out.kept hk (fun hn y hy hm => by have h9 := F4.out hn y hy; simp at hm; omega))
    replace nR0 := Lib.hid e0
    replace nR1 := Lib.hid e1
    replace nR2 := Lib.hid e2
    replace nR3 := Lib.hid e3
    replace nR4 := Lib.hid e4
    replace KT := Lib.hid (KT.out.trans hk (fun x hx hlt => by simp at hx; omega))
    clear hk hfz hW e0 e1 e2 e3 e4
    have e0 := nR0.out
    have e1 := nR1.out
    have e2 := nR2.out
    have e3 := nR3.out
    have e4 := nR4.out
    refine bodyPost_ret (v := .agg #[.int .i64 f, .bool false, .slice none 0 0, .bool false, .slice none 0 0]) (by simp [results, Try.results25, go_sem, e0, e1, e2, e3, e4]) rfl ?_
    exact spanR_no KT.out

set_option maxHeartbeats 8000000 in
set_option maxRecDepth 20000 in
theorem SubSpan_any (p q : Bool) (a b : Option Addr) (n c m d : Nat) (xs ys : List Int) (p' q' : Bool) (a' b' : Option Addr) (n' c' m' d' : Nat) (xs' ys' : List Int) (w : World) (h1 : Sl w a n c xs) (h2 : Sl w b m d ys) (h3 : Sl w a' n' c' xs') (h4 : Sl w b' m' d' ys') :
    Calls Try.prog 31 #[.agg #[.bool p, .slice a n c, .bool q, .slice b m d], .agg #[.bool p', .slice a' n' c', .bool q', .slice b' m' d']] w (SpanR w (subS p xs q ys p' xs' q' ys')) := by
  have H1 := Lib.hid h1
  have H2 := Lib.hid h2
  have H3 := Lib.hid h3
  have H4 := Lib.hid h4
  clear h1 h2 h3 h4
  have F1 := Lib.hid H1.out.lt
  have F2 := Lib.hid H2.out.lt
  have F3 := Lib.hid H3.out.lt
  have F4 := Lib.hid H4.out.lt
  by_cases hz : spanFault2 p xs q ys p' xs' q' ys' = 0
  · skip
    obtain ⟨t1, ht1⟩ : ∃ t, t = sv p xs - sv q' ys' := ⟨_, rfl⟩
    obtain ⟨t2, ht2⟩ : ∃ t, t = sv q ys - sv p' xs' := ⟨_, rfl⟩
    obtain ⟨r, hr⟩ : ∃ r, r = fitS t1 t2 := ⟨_, rfl⟩
    rw [show subS p xs q ys p' xs' q' ys' = r from by unfold subS; rw [twoS_zero hz, hr, ht1, ht2]]
    have HZ := Lib.hid hz
    obtain ⟨ox, oy⟩ := spanFault2_zero hz
    have OX := Lib.hid ox
    have OY := Lib.hid oy
    clear ox oy hz
    have B1 := Lib.hid OX.out.lo
    have B2 := Lib.hid OX.out.hi
    have B3 := Lib.hid OY.out.lo
    have B4 := Lib.hid OY.out.hi
    have X1 := Lib.hid OX.out.lx
    have X2 := Lib.hid OX.out.ly
    have X3 := Lib.hid OY.out.lx
    have X4 := Lib.hid OY.out.ly
    have HT1 := Lib.hid ht1
    have HT2 := Lib.hid ht2
    have HR := Lib.hid hr
    clear ht1 ht2 hr
    go_enter Try.func31, Try.ntmps31
    go_wp2_with fail
    generalize hW : (((w.alloc (.cells #[.bool p, .slice a n c, .bool q, .slice b m d] 31)).alloc (.cells #[.bool p', .slice a' n' c', .bool q', .slice b' m' d'] 31)).alloc (.cells #[.int .i64 0, .bool false, .slice none 0 0, .bool false, .slice none 0 0] 38)) = ww0
    have hkk : Kept [] (((w.alloc (.cells #[.bool p, .slice a n c, .bool q, .slice b m d] 31)).alloc (.cells #[.bool p', .slice a' n' c', .bool q', .slice b' m' d'] 31)).alloc (.cells #[.int .i64 0, .bool false, .slice none 0 0, .bool false, .slice none 0 0] 38)) ww0 := by rw [hW]; exact Kept.refl _ _
    have zzA : w.heap.size + 1 + 1 + 1 = ww0.heap.size := by rw [← hW]; simp
    have nA0 := Lib.hid (hkk.peel.peel.top (g := w.heap.size) (by simp) (by simp) 0 (v := .bool p) rfl).1
    have nA1 := Lib.hid (hkk.peel.peel.top (g := w.heap.size) (by simp) (by simp) 1 (v := .slice a n c) rfl).1
    have nA2 := Lib.hid (hkk.peel.peel.top (g := w.heap.size) (by simp) (by simp) 2 (v := .bool q) rfl).1
    have nA3 := Lib.hid (hkk.peel.peel.top (g := w.heap.size) (by simp) (by simp) 3 (v := .slice b m d) rfl).1
    have nB0 := Lib.hid (hkk.peel.top (g := w.heap.size + 1) (by simp) (by simp) 0 (v := .bool p') rfl).1
    have nB1 := Lib.hid (hkk.peel.top (g := w.heap.size + 1) (by simp) (by simp) 1 (v := .slice a' n' c') rfl).1
    have nB2 := Lib.hid (hkk.peel.top (g := w.heap.size + 1) (by simp) (by simp) 2 (v := .bool q') rfl).1
    have nB3 := Lib.hid (hkk.peel.top (g := w.heap.size + 1) (by simp) (by simp) 3 (v := .slice b' m' d') rfl).1
    have nR0 := Lib.hid (hkk.top (g := w.heap.size + 1 + 1) (by simp) (by simp) 0 (v := .int .i64 0) rfl).1
    have fR0 := Lib.hid (hkk.top (g := w.heap.size + 1 + 1) (by simp) (by simp) 0 (v := .int .i64 0) rfl).2.1
    have nR1 := Lib.hid (hkk.top (g := w.heap.size + 1 + 1) (by simp) (by simp) 1 (v := .bool false) rfl).1
    have fR1 := Lib.hid (hkk.top (g := w.heap.size + 1 + 1) (by simp) (by simp) 1 (v := .bool false) rfl).2.1
    have nR2 := Lib.hid (hkk.top (g := w.heap.size + 1 + 1) (by simp) (by simp) 2 (v := .slice none 0 0) rfl).1
    have fR2 := Lib.hid (hkk.top (g := w.heap.size + 1 + 1) (by simp) (by simp) 2 (v := .slice none 0 0) rfl).2.1
    have nR3 := Lib.hid (hkk.top (g := w.heap.size + 1 + 1) (by simp) (by simp) 3 (v := .bool false) rfl).1
    have fR3 := Lib.hid (hkk.top (g := w.heap.size + 1 + 1) (by simp) (by simp) 3 (v := .bool false) rfl).2.1
    have nR4 := Lib.hid (hkk.top (g := w.heap.size + 1 + 1) (by simp) (by simp) 4 (v := .slice none 0 0) rfl).1
    have fR4 := Lib.hid (hkk.top (g := w.heap.size + 1 + 1) (by simp) (by simp) 4 (v := .slice none 0 0) rfl).2.1
    have hk := hkk.peel.peel.peel
    clear hkk hW
    have z0 := hk.size
    have KT := Lib.hid hk
    clear hk
    replace H1 := Lib.hid (H1.out.kept0 KT.out)
    replace H2 := Lib.hid (H2.out.kept0 KT.out)
    replace H3 := Lib.hid (H3.out.kept0 KT.out)
    replace H4 := Lib.hid (H4.out.kept0 KT.out)
    refine (firstSpanFault_two _ _ _ _ _ _ _ _ _ _ _ _ _ _ _ _ _ _ _ _ _ _ (by omega) H1.out H2.out H3.out H4.out).mono ?_
    rintro e ww1 ⟨rfl, hk⟩
    rw [HZ.out]
    have z1 := hk.size
    replace fR0 := Lib.hid (hk.free' (p := ⟨w.heap.size + 1 + 1, 0, none⟩) nR0.out fR0.out (by simp))
    replace fR1 := Lib.hid (hk.free' (p := ⟨w.heap.size + 1 + 1, 1, none⟩) nR1.out fR1.out (by simp))
    replace fR2 := Lib.hid (hk.free' (p := ⟨w.heap.size + 1 + 1, 2, none⟩) nR2.out fR2.out (by simp))
    replace fR3 := Lib.hid (hk.free' (p := ⟨w.heap.size + 1 + 1, 3, none⟩) nR3.out fR3.out (by simp))
    replace fR4 := Lib.hid (hk.free' (p := ⟨w.heap.size + 1 + 1, 4, none⟩) nR4.out fR4.out (by simp))
    replace nA0 := Lib.hid (hk.cell (p := ⟨w.heap.size, 0, none⟩) nA0.out (by simp))
    replace nA1 := Lib.hid (hk.cell (p := ⟨w.heap.size, 1, none⟩) nA1.out (by simp))
    replace nA2 := Lib.hid (hk.cell (p := ⟨w.heap.size, 2, none⟩) nA2.out (by simp))
    replace nA3 := Lib.hid (hk.cell (p := ⟨w.heap.size, 3, none⟩) nA3.out (by simp))
    replace nB0 := Lib.hid (hk.cell (p := ⟨w.heap.size + 1, 0, none⟩) nB0.out (by simp))
    replace nB1 := Lib.hid (hk.cell (p := ⟨w.heap.size + 1, 1, none⟩) nB1.out (by simp))
    replace nB2 := Lib.hid (hk.cell (p := ⟨w.heap.size + 1, 2, none⟩) nB2.out (by simp))
    replace nB3 := Lib.hid (hk.cell (p := ⟨w.heap.size + 1, 3, none⟩) nB3.out (by simp))
    replace nR0 := Lib.hid (hk.cell (p := ⟨w.heap.size + 1 + 1, 0, none⟩) nR0.out (by simp))
    replace nR1 := Lib.hid (hk.cell (p := ⟨w.heap.size + 1 + 1, 1, none⟩) nR1.out (by simp))
    replace nR2 := Lib.hid (hk.cell (p := ⟨w.heap.size + 1 + 1, 2, none⟩) nR2.out (by simp))
    replace nR3 := Lib.hid (hk.cell (p := ⟨w.heap.size + 1 + 1, 3, none⟩) nR3.out (by simp))
    replace nR4 := Lib.hid (hk.cell (p := ⟨w.heap.size + 1 + 1, 4, none⟩) nR4.out (by simp))
    replace H1 := Lib.hid (H1.out.kept0 hk)
    replace H2 := Lib.hid (H2.out.kept0 hk)
    replace H3 := Lib.hid (H3.out.kept0 hk)
    replace H4 := Lib.hid (H4.out.kept0 hk)
    replace KT := Lib.hid (KT.out.trans0 hk)
    clear hk
    have tA0 := nA0.out
    have tA1 := nA1.out
    have tA2 := nA2.out
    have tA3 := nA3.out
    have tB0 := nB0.out
    have tB1 := nB1.out
    have tB2 := nB2.out
    have tB3 := nB3.out
    go_wp2_with fail
    clear tA0 tA1 tA2 tA3 tB0 tB1 tB2 tB3
    have tA0 := nA0.out
    have tA1 := nA1.out
    have tA2 := nA2.out
    have tA3 := nA3.out
    have tB0 := nB0.out
    have tB1 := nB1.out
    have tB2 := nB2.out
    have tB3 := nB3.out
    go_region_held3 (fun w' => w'.cell? ⟨w.heap.size, 0, none⟩ = some (.bool p) ∧ w'.cell? ⟨w.heap.size, 1, none⟩ = some (.slice a n c) ∧ w'.cell? ⟨w.heap.size, 2, none⟩ = some (.bool q) ∧ w'.cell? ⟨w.heap.size, 3, none⟩ = some (.slice b m d) ∧ w'.cell? ⟨w.heap.size + 1, 0, none⟩ = some (.bool p') ∧ w'.cell? ⟨w.heap.size + 1, 1, none⟩ = some (.slice a' n' c') ∧ w'.cell? ⟨w.heap.size + 1, 2, none⟩ = some (.bool q') ∧ w'.cell? ⟨w.heap.size + 1, 3, none⟩ = some (.slice b' m' d') ∧ Hid (Kept [w.heap.size + 1 + 1] ww1 w'))
      ((go_split_ands; (try refine ⟨?_, ?_, ?_, ?_, ?_, ?_, ?_, ?_, ?_⟩) <;> with_reducible first | exact Kept.set5 (by assumption) | exact cell_set5 (by assumption) (by simp <;> omega) | exact Lib.hid ((Kept.refl _ _).drew) | exact drew_cell (by assumption) | exact Kept.allocH (by assumption) | exact alloc_cell (by assumption) | exact Lib.hid (Kept.trans0 (Hid.out (by assumption)) (by assumption)) | exact Kept.cell (by assumption) (by assumption) (by simp)))
      (first
        | (go_at_call_of 65 (Value.agg #[Value.bool p, Value.slice a n c]); go_split_ands; refine (SubBigs_z _ _ _ _ _ _ _ _ _ _ _ _ (H1.out.kept0 ((Kept.refl [] _).drew)) (H4.out.kept0 ((Kept.refl [] _).drew)) B1.out B4.out X1.out X4.out HT1.out).mono ?_; rintro e v1 ⟨a1, c1, rfl, hs1, hf1, hk1⟩)
        | (go_at_call_of 65 (Value.agg #[Value.bool q, Value.slice b m d]); go_split_ands; refine (SubBigs_z _ _ _ _ _ _ _ _ _ _ _ _ (H2.out.kept0 (((Kept.refl [] _).drew).trans0 hk1)) (H3.out.kept0 (((Kept.refl [] _).drew).trans0 hk1)) B2.out B3.out X2.out X3.out HT2.out).mono ?_; rintro e v2 ⟨a2, c2, rfl, hs2, hf2, hk2⟩)
        | (go_at_call 61; go_split_ands; refine (spanResult_any _ _ _ _ _ _ _ _ _ (hs1.kept0 hk2) hs2).mono ?_; rintro e v3 ⟨a3, c3, b3, d3, rfl, hs3, hs4, hf3, hf4, hne, hk3⟩; have z12 := (hk1.trans0 hk2).size; simp only [World.size_drew] at z12; have hkr := ((((Kept.refl [] ww1).drew).trans0 hk1).trans0 hk2).trans0 hk3; have rg0 := hkr.cell (p := ⟨w.heap.size + 1 + 1, 0, none⟩) nR0.out (by simp); have rg1 := hkr.cell (p := ⟨w.heap.size + 1 + 1, 1, none⟩) nR1.out (by simp); have rg2 := hkr.cell (p := ⟨w.heap.size + 1 + 1, 2, none⟩) nR2.out (by simp); have rg3 := hkr.cell (p := ⟨w.heap.size + 1 + 1, 3, none⟩) nR3.out (by simp); have rg4 := hkr.cell (p := ⟨w.heap.size + 1 + 1, 4, none⟩) nR4.out (by simp); have ru0 := hkr.free' (p := ⟨w.heap.size + 1 + 1, 0, none⟩) nR0.out fR0.out (by simp); have ru1 := hkr.free' (p := ⟨w.heap.size + 1 + 1, 1, none⟩) nR1.out fR1.out (by simp); have ru2 := hkr.free' (p := ⟨w.heap.size + 1 + 1, 2, none⟩) nR2.out fR2.out (by simp); have ru3 := hkr.free' (p := ⟨w.heap.size + 1 + 1, 3, none⟩) nR3.out fR3.out (by simp); have ru4 := hkr.free' (p := ⟨w.heap.size + 1 + 1, 4, none⟩) nR4.out fR4.out (by simp)))
    clear tA0 tA1 tA2 tA3 tB0 tB1 tB2 tB3
    have hk := hkr
    clear hkr
    clear hs1 hf1 hs2 hf2 hk1 hk2 hk3
    rw [← HR.out] at hs3 hs4 hf3 hf4 hne ⊢
    have z2 := hk.size
    replace fR0 := Lib.hid (hk.free' (p := ⟨w.heap.size + 1 + 1, 0, none⟩) nR0.out fR0.out (by simp))
    replace fR1 := Lib.hid (hk.free' (p := ⟨w.heap.size + 1 + 1, 1, none⟩) nR1.out fR1.out (by simp))
    replace fR2 := Lib.hid (hk.free' (p := ⟨w.heap.size + 1 + 1, 2, none⟩) nR2.out fR2.out (by simp))
    replace fR3 := Lib.hid (hk.free' (p := ⟨w.heap.size + 1 + 1, 3, none⟩) nR3.out fR3.out (by simp))
    replace fR4 := Lib.hid (hk.free' (p := ⟨w.heap.size + 1 + 1, 4, none⟩) nR4.out fR4.out (by simp))
    replace nA0 := Lib.hid (hk.cell (p := ⟨w.heap.size, 0, none⟩) nA0.out (by simp))
    replace nA1 := Lib.hid (hk.cell (p := ⟨w.heap.size, 1, none⟩) nA1.out (by simp))
    replace nA2 := Lib.hid (hk.cell (p := ⟨w.heap.size, 2, none⟩) nA2.out (by simp))
    replace nA3 := Lib.hid (hk.cell (p := ⟨w.heap.size, 3, none⟩) nA3.out (by simp))
    replace nB0 := Lib.hid (hk.cell (p := ⟨w.heap.size + 1, 0, none⟩) nB0.out (by simp))
    replace nB1 := Lib.hid (hk.cell (p := ⟨w.heap.size + 1, 1, none⟩) nB1.out (by simp))
    replace nB2 := Lib.hid (hk.cell (p := ⟨w.heap.size + 1, 2, none⟩) nB2.out (by simp))
    replace nB3 := Lib.hid (hk.cell (p := ⟨w.heap.size + 1, 3, none⟩) nB3.out (by simp))
    replace nR0 := Lib.hid (hk.cell (p := ⟨w.heap.size + 1 + 1, 0, none⟩) nR0.out (by simp))
    replace nR1 := Lib.hid (hk.cell (p := ⟨w.heap.size + 1 + 1, 1, none⟩) nR1.out (by simp))
    replace nR2 := Lib.hid (hk.cell (p := ⟨w.heap.size + 1 + 1, 2, none⟩) nR2.out (by simp))
    replace nR3 := Lib.hid (hk.cell (p := ⟨w.heap.size + 1 + 1, 3, none⟩) nR3.out (by simp))
    replace nR4 := Lib.hid (hk.cell (p := ⟨w.heap.size + 1 + 1, 4, none⟩) nR4.out (by simp))
    replace H1 := Lib.hid (H1.out.kept0 hk)
    replace H2 := Lib.hid (H2.out.kept0 hk)
    replace H3 := Lib.hid (H3.out.kept0 hk)
    replace H4 := Lib.hid (H4.out.kept0 hk)
    replace KT := Lib.hid (KT.out.trans0 hk)
    clear hk
    have hs3 := Lib.hid hs3
    have hs4 := Lib.hid hs4
    have HNE := Lib.hid hne
    have G3 := Lib.hid (hf3.mono (B' := w.heap.size + 1 + 1 + 1) (by omega))
    have G4 := Lib.hid (hf4.mono (B' := w.heap.size + 1 + 1 + 1) (by omega))
    clear hf3 hf4 hne
    generalize hW : (((((v3.setCell ⟨w.heap.size + 1 + 1, 0, none⟩ (.int .i64 r.code)).setCell ⟨w.heap.size + 1 + 1, 1, none⟩ (.bool (isNeg r.lo))).setCell ⟨w.heap.size + 1 + 1, 2, none⟩ (.slice a3 (mag r.lo).length c3)).setCell ⟨w.heap.size + 1 + 1, 3, none⟩ (.bool (isNeg r.hi))).setCell ⟨w.heap.size + 1 + 1, 4, none⟩ (.slice b3 (mag r.hi).length d3)) = ww3
    have hk : Kept [w.heap.size + 1 + 1] v3 ww3 := by rw [← hW]; exact (((((Kept.refl _ _).setCell _ _ (by simp)).setCell _ _ (by simp)).setCell _ _ (by simp)).setCell _ _ (by simp)).setCell _ _ (by simp)
    have hfz : ∀ x, ww3.frozen? x = v3.frozen? x := by rw [← hW]; intro x; simp only [World.frozen?_setCell]
    have e0 : ww3.cell? ⟨w.heap.size + 1 + 1, 0, none⟩ = some (.int .i64 r.code) := by rw [← hW]; rw [World.cell?_setCell_other _ _ _ _ (by simp), World.cell?_setCell_other _ _ _ _ (by simp), World.cell?_setCell_other _ _ _ _ (by simp), World.cell?_setCell_other _ _ _ _ (by simp)]; exact World.cell?_setCell_same _ _ _ (by exact nR0.out)
    have e1 : ww3.cell? ⟨w.heap.size + 1 + 1, 1, none⟩ = some (.bool (isNeg r.lo)) := by rw [← hW]; rw [World.cell?_setCell_other _ _ _ _ (by simp), World.cell?_setCell_other _ _ _ _ (by simp), World.cell?_setCell_other _ _ _ _ (by simp)]; exact World.cell?_setCell_same _ _ _ (by rw [World.cell?_setCell_other _ _ _ _ (by simp)]; exact nR1.out)
    have e2 : ww3.cell? ⟨w.heap.size + 1 + 1, 2, none⟩ = some (.slice a3 (mag r.lo).length c3) := by rw [← hW]; rw [World.cell?_setCell_other _ _ _ _ (by simp), World.cell?_setCell_other _ _ _ _ (by simp)]; exact World.cell?_setCell_same _ _ _ (by rw [World.cell?_setCell_other _ _ _ _ (by simp), World.cell?_setCell_other _ _ _ _ (by simp)]; exact nR2.out)
    have e3 : ww3.cell? ⟨w.heap.size + 1 + 1, 3, none⟩ = some (.bool (isNeg r.hi)) := by rw [← hW]; rw [World.cell?_setCell_other _ _ _ _ (by simp)]; exact World.cell?_setCell_same _ _ _ (by rw [World.cell?_setCell_other _ _ _ _ (by simp), World.cell?_setCell_other _ _ _ _ (by simp), World.cell?_setCell_other _ _ _ _ (by simp)]; exact nR3.out)
    have e4 : ww3.cell? ⟨w.heap.size + 1 + 1, 4, none⟩ = some (.slice b3 (mag r.hi).length d3) := by rw [← hW]; exact World.cell?_setCell_same _ _ _ (by rw [World.cell?_setCell_other _ _ _ _ (by simp), World.cell?_setCell_other _ _ _ _ (by simp), World.cell?_setCell_other _ _ _ _ (by simp), World.cell?_setCell_other _ _ _ _ (by simp)]; exact nR4.out)
    have z3 := hk.size
    replace fR0 := Lib.hid (show ww3.frozen? ⟨w.heap.size + 1 + 1, 0, none⟩ = false by rw [hfz]; exact fR0.out)
    replace fR1 := Lib.hid (show ww3.frozen? ⟨w.heap.size + 1 + 1, 1, none⟩ = false by rw [hfz]; exact fR1.out)
    replace fR2 := Lib.hid (show ww3.frozen? ⟨w.heap.size + 1 + 1, 2, none⟩ = false by rw [hfz]; exact fR2.out)
    replace fR3 := Lib.hid (show ww3.frozen? ⟨w.heap.size + 1 + 1, 3, none⟩ = false by rw [hfz]; exact fR3.out)
    replace fR4 := Lib.hid (show ww3.frozen? ⟨w.heap.size + 1 + 1, 4, none⟩ = false by rw [hfz]; exact fR4.out)
    replace nA0 := Lib.hid (hk.cell (p := ⟨w.heap.size, 0, none⟩) nA0.out (by simp <;> omega))
    replace nA1 := Lib.hid (hk.cell (p := ⟨w.heap.size, 1, none⟩) nA1.out (by simp <;> omega))
    replace nA2 := Lib.hid (hk.cell (p := ⟨w.heap.size, 2, none⟩) nA2.out (by simp <;> omega))
    replace nA3 := Lib.hid (hk.cell (p := ⟨w.heap.size, 3, none⟩) nA3.out (by simp <;> omega))
    replace nB0 := Lib.hid (hk.cell (p := ⟨w.heap.size + 1, 0, none⟩) nB0.out (by simp <;> omega))
    replace nB1 := Lib.hid (hk.cell (p := ⟨w.heap.size + 1, 1, none⟩) nB1.out (by simp <;> omega))
    replace nB2 := Lib.hid (hk.cell (p := ⟨w.heap.size + 1, 2, none⟩) nB2.out (by simp <;> omega))
    replace nB3 := Lib.hid (hk.cell (p := ⟨w.heap.size + 1, 3, none⟩) nB3.out (by simp <;> omega))
    replace H1 := Lib.hid (H1.out.kept hk (fun hn y hy hm => by have h9 := F1.out hn y hy; simp at hm; omega))
    replace H2 := Lib.hid (H2.out.kept hk (fun hn y hy hm => by have h9 := F2.out hn y hy; simp at hm; omega))
    replace H3 := Lib.hid (H3.out.kept hk (fun hn y hy hm => by have h9 := F3.out hn y hy; simp at hm; omega))
    replace H4 := Lib.hid (H4.out.kept hk (fun hn y hy hm => by have h9 := F4.out hn y hy; simp at hm; omega))
    replace hs3 := Lib.hid (hs3.out.kept hk (fun hn y hy hm => by have h9 := G3.out hn y hy; simp at hm; omega))
    replace hs4 := Lib.hid (hs4.out.kept hk (fun hn y hy hm => by have h9 := G4.out hn y hy; simp at hm; omega))
    replace nR0 := Lib.hid e0
    replace nR1 := Lib.hid e1
    replace nR2 := Lib.hid e2
    replace nR3 := Lib.hid e3
    replace nR4 := Lib.hid e4
    replace KT := Lib.hid (KT.out.trans hk (fun x hx hlt => by simp at hx; omega))
    clear hk hfz hW e0 e1 e2 e3 e4
    go_wp2_with fail
    have e0 := nR0.out
    have e1 := nR1.out
    have e2 := nR2.out
    have e3 := nR3.out
    have e4 := nR4.out
    refine bodyPost_ret (v := .agg #[.int .i64 r.code, .bool (isNeg r.lo), .slice a3 (mag r.lo).length c3, .bool (isNeg r.hi), .slice b3 (mag r.hi).length d3]) (by simp [results, Try.results31, go_sem, e0, e1, e2, e3, e4]) rfl ?_
    exact ⟨a3, c3, b3, d3, rfl, hs3.out, hs4.out, G3.out.mono (by omega), G4.out.mono (by omega), HNE.out, KT.out⟩
  · skip
    rw [show subS p xs q ys p' xs' q' ys' = noSpan (spanFault2 p xs q ys p' xs' q' ys') from twoS_not hz]
    generalize hf : spanFault2 p xs q ys p' xs' q' ys' = f at *
    have hne : (f == 0) = false := by rw [beq_eq_false_iff_ne]; exact hz
    have HZ := Lib.hid hf
    clear hf hz
    go_enter Try.func31, Try.ntmps31
    go_wp2_with fail
    generalize hW : (((w.alloc (.cells #[.bool p, .slice a n c, .bool q, .slice b m d] 31)).alloc (.cells #[.bool p', .slice a' n' c', .bool q', .slice b' m' d'] 31)).alloc (.cells #[.int .i64 0, .bool false, .slice none 0 0, .bool false, .slice none 0 0] 38)) = ww0
    have hkk : Kept [] (((w.alloc (.cells #[.bool p, .slice a n c, .bool q, .slice b m d] 31)).alloc (.cells #[.bool p', .slice a' n' c', .bool q', .slice b' m' d'] 31)).alloc (.cells #[.int .i64 0, .bool false, .slice none 0 0, .bool false, .slice none 0 0] 38)) ww0 := by rw [hW]; exact Kept.refl _ _
    have zzA : w.heap.size + 1 + 1 + 1 = ww0.heap.size := by rw [← hW]; simp
    have nA0 := Lib.hid (hkk.peel.peel.top (g := w.heap.size) (by simp) (by simp) 0 (v := .bool p) rfl).1
    have nA1 := Lib.hid (hkk.peel.peel.top (g := w.heap.size) (by simp) (by simp) 1 (v := .slice a n c) rfl).1
    have nA2 := Lib.hid (hkk.peel.peel.top (g := w.heap.size) (by simp) (by simp) 2 (v := .bool q) rfl).1
    have nA3 := Lib.hid (hkk.peel.peel.top (g := w.heap.size) (by simp) (by simp) 3 (v := .slice b m d) rfl).1
    have nB0 := Lib.hid (hkk.peel.top (g := w.heap.size + 1) (by simp) (by simp) 0 (v := .bool p') rfl).1
    have nB1 := Lib.hid (hkk.peel.top (g := w.heap.size + 1) (by simp) (by simp) 1 (v := .slice a' n' c') rfl).1
    have nB2 := Lib.hid (hkk.peel.top (g := w.heap.size + 1) (by simp) (by simp) 2 (v := .bool q') rfl).1
    have nB3 := Lib.hid (hkk.peel.top (g := w.heap.size + 1) (by simp) (by simp) 3 (v := .slice b' m' d') rfl).1
    have nR0 := Lib.hid (hkk.top (g := w.heap.size + 1 + 1) (by simp) (by simp) 0 (v := .int .i64 0) rfl).1
    have fR0 := Lib.hid (hkk.top (g := w.heap.size + 1 + 1) (by simp) (by simp) 0 (v := .int .i64 0) rfl).2.1
    have nR1 := Lib.hid (hkk.top (g := w.heap.size + 1 + 1) (by simp) (by simp) 1 (v := .bool false) rfl).1
    have fR1 := Lib.hid (hkk.top (g := w.heap.size + 1 + 1) (by simp) (by simp) 1 (v := .bool false) rfl).2.1
    have nR2 := Lib.hid (hkk.top (g := w.heap.size + 1 + 1) (by simp) (by simp) 2 (v := .slice none 0 0) rfl).1
    have fR2 := Lib.hid (hkk.top (g := w.heap.size + 1 + 1) (by simp) (by simp) 2 (v := .slice none 0 0) rfl).2.1
    have nR3 := Lib.hid (hkk.top (g := w.heap.size + 1 + 1) (by simp) (by simp) 3 (v := .bool false) rfl).1
    have fR3 := Lib.hid (hkk.top (g := w.heap.size + 1 + 1) (by simp) (by simp) 3 (v := .bool false) rfl).2.1
    have nR4 := Lib.hid (hkk.top (g := w.heap.size + 1 + 1) (by simp) (by simp) 4 (v := .slice none 0 0) rfl).1
    have fR4 := Lib.hid (hkk.top (g := w.heap.size + 1 + 1) (by simp) (by simp) 4 (v := .slice none 0 0) rfl).2.1
    have hk := hkk.peel.peel.peel
    clear hkk hW
    have z0 := hk.size
    have KT := Lib.hid hk
    clear hk
    replace H1 := Lib.hid (H1.out.kept0 KT.out)
    replace H2 := Lib.hid (H2.out.kept0 KT.out)
    replace H3 := Lib.hid (H3.out.kept0 KT.out)
    replace H4 := Lib.hid (H4.out.kept0 KT.out)
    refine (firstSpanFault_two _ _ _ _ _ _ _ _ _ _ _ _ _ _ _ _ _ _ _ _ _ _ (by omega) H1.out H2.out H3.out H4.out).mono ?_
    rintro e ww1 ⟨rfl, hk⟩
    rw [HZ.out]
    have z1 := hk.size
    replace fR0 := Lib.hid (hk.free' (p := ⟨w.heap.size + 1 + 1, 0, none⟩) nR0.out fR0.out (by simp))
    replace fR1 := Lib.hid (hk.free' (p := ⟨w.heap.size + 1 + 1, 1, none⟩) nR1.out fR1.out (by simp))
    replace fR2 := Lib.hid (hk.free' (p := ⟨w.heap.size + 1 + 1, 2, none⟩) nR2.out fR2.out (by simp))
    replace fR3 := Lib.hid (hk.free' (p := ⟨w.heap.size + 1 + 1, 3, none⟩) nR3.out fR3.out (by simp))
    replace fR4 := Lib.hid (hk.free' (p := ⟨w.heap.size + 1 + 1, 4, none⟩) nR4.out fR4.out (by simp))
    replace nA0 := Lib.hid (hk.cell (p := ⟨w.heap.size, 0, none⟩) nA0.out (by simp))
    replace nA1 := Lib.hid (hk.cell (p := ⟨w.heap.size, 1, none⟩) nA1.out (by simp))
    replace nA2 := Lib.hid (hk.cell (p := ⟨w.heap.size, 2, none⟩) nA2.out (by simp))
    replace nA3 := Lib.hid (hk.cell (p := ⟨w.heap.size, 3, none⟩) nA3.out (by simp))
    replace nB0 := Lib.hid (hk.cell (p := ⟨w.heap.size + 1, 0, none⟩) nB0.out (by simp))
    replace nB1 := Lib.hid (hk.cell (p := ⟨w.heap.size + 1, 1, none⟩) nB1.out (by simp))
    replace nB2 := Lib.hid (hk.cell (p := ⟨w.heap.size + 1, 2, none⟩) nB2.out (by simp))
    replace nB3 := Lib.hid (hk.cell (p := ⟨w.heap.size + 1, 3, none⟩) nB3.out (by simp))
    replace nR0 := Lib.hid (hk.cell (p := ⟨w.heap.size + 1 + 1, 0, none⟩) nR0.out (by simp))
    replace nR1 := Lib.hid (hk.cell (p := ⟨w.heap.size + 1 + 1, 1, none⟩) nR1.out (by simp))
    replace nR2 := Lib.hid (hk.cell (p := ⟨w.heap.size + 1 + 1, 2, none⟩) nR2.out (by simp))
    replace nR3 := Lib.hid (hk.cell (p := ⟨w.heap.size + 1 + 1, 3, none⟩) nR3.out (by simp))
    replace nR4 := Lib.hid (hk.cell (p := ⟨w.heap.size + 1 + 1, 4, none⟩) nR4.out (by simp))
    replace H1 := Lib.hid (H1.out.kept0 hk)
    replace H2 := Lib.hid (H2.out.kept0 hk)
    replace H3 := Lib.hid (H3.out.kept0 hk)
    replace H4 := Lib.hid (H4.out.kept0 hk)
    replace KT := Lib.hid (KT.out.trans0 hk)
    clear hk
    have tR0 := nR0.out
    have tR1 := nR1.out
    have tR2 := nR2.out
    have tR3 := nR3.out
    have tR4 := nR4.out
    have uR0 := fR0.out
    have uR1 := fR1.out
    have uR2 := fR2.out
    have uR3 := fR3.out
    have uR4 := fR4.out
    go_wp2_with fail
    clear tR0 tR1 tR2 tR3 tR4 uR0 uR1 uR2 uR3 uR4
    generalize hW : (((((ww1.setCell ⟨w.heap.size + 1 + 1, 0, none⟩ (.int .i64 f)).setCell ⟨w.heap.size + 1 + 1, 1, none⟩ (.bool false)).setCell ⟨w.heap.size + 1 + 1, 2, none⟩ (.slice none 0 0)).setCell ⟨w.heap.size + 1 + 1, 3, none⟩ (.bool false)).setCell ⟨w.heap.size + 1 + 1, 4, none⟩ (.slice none 0 0)) = ww2
    have hk : Kept [w.heap.size + 1 + 1] ww1 ww2 := by rw [← hW]; exact (((((Kept.refl _ _).setCell _ _ (by simp)).setCell _ _ (by simp)).setCell _ _ (by simp)).setCell _ _ (by simp)).setCell _ _ (by simp)
    have hfz : ∀ x, ww2.frozen? x = ww1.frozen? x := by rw [← hW]; intro x; simp only [World.frozen?_setCell]
    have e0 : ww2.cell? ⟨w.heap.size + 1 + 1, 0, none⟩ = some (.int .i64 f) := by rw [← hW]; rw [World.cell?_setCell_other _ _ _ _ (by simp), World.cell?_setCell_other _ _ _ _ (by simp), World.cell?_setCell_other _ _ _ _ (by simp), World.cell?_setCell_other _ _ _ _ (by simp)]; exact World.cell?_setCell_same _ _ _ (by exact nR0.out)
    have e1 : ww2.cell? ⟨w.heap.size + 1 + 1, 1, none⟩ = some (.bool false) := by rw [← hW]; rw [World.cell?_setCell_other _ _ _ _ (by simp), World.cell?_setCell_other _ _ _ _ (by simp), World.cell?_setCell_other _ _ _ _ (by simp)]; exact World.cell?_setCell_same _ _ _ (by rw [World.cell?_setCell_other _ _ _ _ (by simp)]; exact nR1.out)
    have e2 : ww2.cell? ⟨w.heap.size + 1 + 1, 2, none⟩ = some (.slice none 0 0) := by rw [← hW]; rw [World.cell?_setCell_other _ _ _ _ (by simp), World.cell?_setCell_other _ _ _ _ (by simp)]; exact World.cell?_setCell_same _ _ _ (by rw [World.cell?_setCell_other _ _ _ _ (by simp), World.cell?_setCell_other _ _ _ _ (by simp)]; exact nR2.out)
    have e3 : ww2.cell? ⟨w.heap.size + 1 + 1, 3, none⟩ = some (.bool false) := by rw [← hW]; rw [World.cell?_setCell_other _ _ _ _ (by simp)]; exact World.cell?_setCell_same _ _ _ (by rw [World.cell?_setCell_other _ _ _ _ (by simp), World.cell?_setCell_other _ _ _ _ (by simp), World.cell?_setCell_other _ _ _ _ (by simp)]; exact nR3.out)
    have e4 : ww2.cell? ⟨w.heap.size + 1 + 1, 4, none⟩ = some (.slice none 0 0) := by rw [← hW]; exact World.cell?_setCell_same _ _ _ (by rw [World.cell?_setCell_other _ _ _ _ (by simp), World.cell?_setCell_other _ _ _ _ (by simp), World.cell?_setCell_other _ _ _ _ (by simp), World.cell?_setCell_other _ _ _ _ (by simp)]; exact nR4.out)
    have z2 := hk.size
    replace fR0 := Lib.hid (show ww2.frozen? ⟨w.heap.size + 1 + 1, 0, none⟩ = false by rw [hfz]; exact fR0.out)
    replace fR1 := Lib.hid (show ww2.frozen? ⟨w.heap.size + 1 + 1, 1, none⟩ = false by rw [hfz]; exact fR1.out)
    replace fR2 := Lib.hid (show ww2.frozen? ⟨w.heap.size + 1 + 1, 2, none⟩ = false by rw [hfz]; exact fR2.out)
    replace fR3 := Lib.hid (show ww2.frozen? ⟨w.heap.size + 1 + 1, 3, none⟩ = false by rw [hfz]; exact fR3.out)
    replace fR4 := Lib.hid (show ww2.frozen? ⟨w.heap.size + 1 + 1, 4, none⟩ = false by rw [hfz]; exact fR4.out)
    replace nA0 := Lib.hid (hk.cell (p := ⟨w.heap.size, 0, none⟩) nA0.out (by simp <;> omega))
    replace nA1 := Lib.hid (hk.cell (p := ⟨w.heap.size, 1, none⟩) nA1.out (by simp <;> omega))
    replace nA2 := Lib.hid (hk.cell (p := ⟨w.heap.size, 2, none⟩) nA2.out (by simp <;> omega))
    replace nA3 := Lib.hid (hk.cell (p := ⟨w.heap.size, 3, none⟩) nA3.out (by simp <;> omega))
    replace nB0 := Lib.hid (hk.cell (p := ⟨w.heap.size + 1, 0, none⟩) nB0.out (by simp <;> omega))
    replace nB1 := Lib.hid (hk.cell (p := ⟨w.heap.size + 1, 1, none⟩) nB1.out (by simp <;> omega))
    replace nB2 := Lib.hid (hk.cell (p := ⟨w.heap.size + 1, 2, none⟩) nB2.out (by simp <;> omega))
    replace nB3 := Lib.hid (hk.cell (p := ⟨w.heap.size + 1, 3, none⟩) nB3.out (by simp <;> omega))
    replace H1 := Lib.hid (H1.out.kept hk (fun hn y hy hm => by have h9 := F1.out hn y hy; simp at hm; omega))
    replace H2 := Lib.hid (H2.out.kept hk (fun hn y hy hm => by have h9 := F2.out hn y hy; simp at hm; omega))
    replace H3 := Lib.hid (H3.out.kept hk (fun hn y hy hm => by have h9 := F3.out hn y hy; simp at hm; omega))
    replace H4 := Lib.hid (H4.out.kept hk (fun hn y hy hm => by have h9 := F4.out hn y hy; simp at hm; omega))
    replace nR0 := Lib.hid e0
    replace nR1 := Lib.hid e1
    replace nR2 := Lib.hid e2
    replace nR3 := Lib.hid e3
    replace nR4 := Lib.hid e4
    replace KT := Lib.hid (KT.out.trans hk (fun x hx hlt => by simp at hx; omega))
    clear hk hfz hW e0 e1 e2 e3 e4
    have e0 := nR0.out
    have e1 := nR1.out
    have e2 := nR2.out
    have e3 := nR3.out
    have e4 := nR4.out
    refine bodyPost_ret (v := .agg #[.int .i64 f, .bool false, .slice none 0 0, .bool false, .slice none 0 0]) (by simp [results, Try.results31, go_sem, e0, e1, e2, e3, e4]) rfl ?_
    exact spanR_no KT.out

open Go.RowKit

/-- Block g holds these bigs one behind the other; each has no fault. -/
def RowB (w : World) (g : Nat) (l : List BE) : Prop :=
  ∀ j (h : j < l.length), w.cell? ⟨g, j * 2, none⟩ = some (.bool l[j].neg) ∧ w.cell? ⟨g, j * 2 + 1, none⟩ = some (.slice l[j].ptr l[j].len l[j].cap)
def OkB (w : World) (l : List BE) : Prop := ∀ b ∈ l, Sl w b.ptr b.len b.cap b.limbs ∧ BigOk b.neg b.limbs
theorem RowB.kept {L : List Nat} {w w' : World} {g : Nat} {l : List BE} (h : RowB w g l) (k : Kept L w w') (hg : g ∉ L) : RowB w' g l := fun j hj =>
  ⟨k.cell (p := ⟨g, j * 2, none⟩) (h j hj).1 hg, k.cell (p := ⟨g, j * 2 + 1, none⟩) (h j hj).2 hg⟩
theorem OkB.kept {w w' : World} {l : List BE} (h : OkB w l) (k : Kept [] w w') : OkB w' l := fun b hb => ⟨(h b hb).1.kept0 k, (h b hb).2⟩

set_option maxHeartbeats 4000000 in
set_option maxRecDepth 20000 in
theorem leastOf_isBelow (g : Nat) (e : BE) (t : List BE) (w : World) (h : RowB w g (e :: t)) (ho : OkB w (e :: t)) (hl : t.length < 100) :
    Calls Try.prog 67 #[.func (.func 54) #[] #[], .slice (some ⟨g, 0, none⟩) (t.length + 1) (t.length + 1)] w (Val w (pickF ltZ e t).val) := by
  have HR := Lib.hid h
  have HO := Lib.hid ho
  have hglt : g < w.heap.size := World.block_lt_of_cell? w _ (h 0 (by simp)).1
  have OKW := Lib.hid (show ∀ u, u ∈ (e :: t) → 0 < u.len → ∀ v, u.ptr = some v → v.block < w.heap.size from fun u hu => (ho u hu).1.lt)
  clear h ho
  go_enter Try.func67, Try.ntmps67
  go_wp2_with fail
  generalize hW : ((w.alloc (.cells #[.bool false, .slice none 0 0] 29)).alloc (.cells #[.bool false, .slice none 0 0] 29)) = ww0
  have hkk : Kept [] ((w.alloc (.cells #[.bool false, .slice none 0 0] 29)).alloc (.cells #[.bool false, .slice none 0 0] 29)) ww0 := by rw [hW]; exact Kept.refl _ _
  have zzA : w.heap.size + 1 + 1 = ww0.heap.size := by rw [← hW]; simp
  have hk := hkk.peel.peel
  have R0 := Lib.hid (hkk.peel.top (g := w.heap.size) (by simp) (by simp) 0 (v := .bool false) rfl)
  have R1 := Lib.hid (hkk.peel.top (g := w.heap.size) (by simp) (by simp) 1 (v := .slice none 0 0) rfl)
  have L0 := Lib.hid (hkk.top (g := w.heap.size + 1) (by simp) (by simp) 0 (v := .bool false) rfl)
  have L1 := Lib.hid (hkk.top (g := w.heap.size + 1) (by simp) (by simp) 1 (v := .slice none 0 0) rfl)
  replace HR := Lib.hid (HR.out.kept hk (by simp))
  replace HO := Lib.hid (HO.out.kept hk)
  have KT := Lib.hid hk
  clear hk hkk hW
  go_loopw [10] (fun i wr => ∃ (k : Nat) (c : BE), k ≤ t.length + 1 ∧ i = .int .i64 k ∧ Hid (0 < k → c = pickF ltZ e (t.take (k - 1))) ∧ Hid (Kept [w.heap.size + 1] ww0 wr) ∧
      Hid (OkB wr (e :: t)) ∧
      Hid (∃ x y, wr.cell? ⟨w.heap.size + 1, 0, none⟩ = some x ∧ wr.cell? ⟨w.heap.size + 1, 1, none⟩ = some y ∧ (0 < k → x = .bool c.neg ∧ y = .slice c.ptr c.len c.cap)) ∧
      Hid (wr.frozen? ⟨w.heap.size + 1, 0, none⟩ = false ∧ wr.frozen? ⟨w.heap.size + 1, 1, none⟩ = false)) (fun i _ => t.length + 1 - (intOf i).toNat)
  case atStart => exact ⟨0, e, by omega, rfl, fun h => by omega, Kept.refl _ _, HO.out, ⟨_, _, L0.out.1, L1.out.1, fun h => by omega⟩, L0.out.2.1, L1.out.2.1⟩
  case round =>
    obtain ⟨k, c, hk, rfl, hP, hK, hO, hC, hF⟩ := hrel
    by_cases hlt : k < t.length + 1
    · obtain ⟨x, y, cx, cy, hxy⟩ := hC.out
      obtain ⟨f0, f1⟩ := hF.out
      have hrow := (HR.out.kept hK.out (by simp; omega)) k (by simpa using hlt)
      have hmem : (e :: t)[k] ∈ (e :: t) := List.getElem_mem _
      have hnth : 0 < k → ∀ h9 : k - 1 < t.length, (e :: t)[k] = t[k - 1]'h9 := fun h h9 => by
        obtain ⟨j, rfl⟩ : ∃ j, k = j + 1 := ⟨k - 1, by omega⟩
        rfl
      have hnth0 : k = 0 → (e :: t)[k] = e := fun h => by subst h; rfl
      generalize (e :: t)[k] = b at hrow hmem hnth hnth0
      obtain ⟨r0, r1⟩ := hrow
      have HM := Lib.hid hmem
      have HN := Lib.hid hnth
      have HN0 := Lib.hid hnth0
      have HXY := Lib.hid hxy
      have FL := Lib.hid (And.intro f0 f1)
      have CX := Lib.hid cx
      have CY := Lib.hid cy
      clear hmem hnth hnth0 hxy f0 f1 cx cy
      go_upto_region 5 with fail
      have zk := hK.out.size
      generalize hW1 : (wr.alloc (.cells #[.bool b.neg, .slice b.ptr b.len b.cap] 29)) = w1
      have hkk : Kept [] (wr.alloc (.cells #[.bool b.neg, .slice b.ptr b.len b.cap] 29)) w1 := by rw [hW1]; exact Kept.refl _ _
      have zw1 : wr.heap.size + 1 = w1.heap.size := by rw [← hW1]; simp
      have e0 := (hkk.top (g := wr.heap.size) (by simp) (by simp) 0 (v := .bool b.neg) rfl).1
      have e1 := (hkk.top (g := wr.heap.size) (by simp) (by simp) 1 (v := .slice b.ptr b.len b.cap) rfl).1
      have hk1 := hkk.peel
      have f0 := hk1.free' (p := ⟨w.heap.size + 1, 0, none⟩) CX.out FL.out.1 (by simp)
      have f1 := hk1.free' (p := ⟨w.heap.size + 1, 1, none⟩) CY.out FL.out.2 (by simp)
      have cx := hk1.cell (p := ⟨w.heap.size + 1, 0, none⟩) CX.out (by simp)
      have cy := hk1.cell (p := ⟨w.heap.size + 1, 1, none⟩) CY.out (by simp)
      have hO1 := Lib.hid (hO.out.kept hk1)
      have hK1 := Lib.hid (hK.out.trans0 hk1)
      clear hk1 hkk hW1 r0 r1
      by_cases h0 : k = 0
      · have hb := Lib.hid (HN0.out h0)
        subst h0
        clear HN0
        go_wp2_with fail
        obtain ⟨_, s0, s1⟩ := cells2 (.bool b.neg) (.slice b.ptr b.len b.cap) cx cy
        have hk2 : Kept [w.heap.size + 1] w1 ((w1.setCell ⟨w.heap.size + 1, 0, none⟩ (.bool b.neg)).setCell ⟨w.heap.size + 1, 1, none⟩ (.slice b.ptr b.len b.cap)) := ((Kept.refl _ _).setCell _ _ (by simp)).setCell _ _ (by simp)
        have hfz : ∀ x, ((w1.setCell ⟨w.heap.size + 1, 0, none⟩ (.bool b.neg)).setCell ⟨w.heap.size + 1, 1, none⟩ (.slice b.ptr b.len b.cap)).frozen? x = w1.frozen? x := by intro x; simp only [World.frozen?_setCell]
        have hO2 : OkB ((w1.setCell ⟨w.heap.size + 1, 0, none⟩ (.bool b.neg)).setCell ⟨w.heap.size + 1, 1, none⟩ (.slice b.ptr b.len b.cap)) (e :: t) := fun u hu => ⟨(hO1.out u hu).1.kept hk2 (fun hn v hv hm => by
          have h9 := OKW.out u hu hn v hv
          simp at hm; omega), (hO1.out u hu).2⟩
        generalize ((w1.setCell ⟨w.heap.size + 1, 0, none⟩ (.bool b.neg)).setCell ⟨w.heap.size + 1, 1, none⟩ (.slice b.ptr b.len b.cap)) = w2 at *
        have hK2 := Lib.hid (hK1.out.trans hk2 (by simp))
        have S0 := Lib.hid s0
        have S1 := Lib.hid s1
        have HZ := Lib.hid hfz
        have HO2 := Lib.hid hO2
        have FF := Lib.hid (And.intro f0 f1)
        clear s0 s1 hfz hO2 hk2 cx cy f0 f1 e0 e1
        go_roundw
        case rel => exact ⟨1, b, by omega, by go_num, fun _ => by rw [hb.out]; rfl, hK2, HO2, ⟨_, _, S0.out, S1.out, fun _ => ⟨rfl, rfl⟩⟩, by rw [HZ.out]; exact FF.out.1, by rw [HZ.out]; exact FF.out.2⟩
        case measure => simp [intOf]
      · have hpos : 0 < k := by omega
        obtain ⟨rfl, rfl⟩ := HXY.out hpos
        have hc := hP.out hpos
        have hb := HN.out hpos (by omega)
        have hcm : c ∈ (e :: t) := by
          rw [hc]
          rcases pick_mem ltZ (t.take (k - 1)) e with h | h
          · rw [h]; exact List.mem_cons_self
          · exact List.mem_cons_of_mem _ (List.mem_of_mem_take h)
        have hsnoc : pickF ltZ e (t.take (k + 1 - 1)) = if ltZ b.z c.z = true then b else c := by
          rw [show k + 1 - 1 = k - 1 + 1 by omega, take_get (by omega), pick_snoc, ← hb, ← hc]
        have HS := Lib.hid hsnoc
        have HCM := Lib.hid hcm
        obtain ⟨r, hr⟩ : ∃ r, r = ltZ b.z c.z := ⟨_, rfl⟩
        have HD := Lib.hid hr.symm
        clear hr
        have hne : ((k : Int) == 0) = false := by rw [beq_eq_false_iff_ne]; omega
        have hks : IntKind.i64.wrap ((k : Int) + 1) = (k : Int) + 1 := IntWalk.i64_in _ (by omega)
        clear hsnoc hcm hc hb
        cases r
        · go_wp2_with (refine (isBelow_any _ _ _ _ _ _ _ _ _ _ _ _ (hO1.out b HM.out).1 (hO1.out c HCM.out).1 (hO1.out b HM.out).2 (hO1.out c HCM.out).2 HD.out).mono ?_; rintro e9 w2 ⟨rfl, hk2⟩)
          have S0 := Lib.hid (hk2.cell (p := ⟨w.heap.size + 1, 0, none⟩) cx (by simp))
          have S1 := Lib.hid (hk2.cell (p := ⟨w.heap.size + 1, 1, none⟩) cy (by simp))
          have FF := Lib.hid (And.intro (hk2.free' (p := ⟨w.heap.size + 1, 0, none⟩) cx f0 (by simp)) (hk2.free' (p := ⟨w.heap.size + 1, 1, none⟩) cy f1 (by simp)))
          have HO2 := Lib.hid (hO1.out.kept hk2)
          have hK2 := Lib.hid (hK1.out.trans0 hk2)
          clear hk2 cx cy f0 f1 e0 e1
          go_roundw
          case rel => exact ⟨k + 1, c, by omega, by go_num, fun _ => by rw [HS.out, HD.out]; rfl, hK2, HO2, ⟨_, _, S0.out, S1.out, fun _ => ⟨rfl, rfl⟩⟩, FF.out.1, FF.out.2⟩
          case measure => simp [intOf]; omega
        · go_wp2_with (refine (isBelow_any _ _ _ _ _ _ _ _ _ _ _ _ (hO1.out b HM.out).1 (hO1.out c HCM.out).1 (hO1.out b HM.out).2 (hO1.out c HCM.out).2 HD.out).mono ?_; rintro e9 w2 ⟨rfl, hk2⟩; have cx2 := hk2.cell (p := ⟨w.heap.size + 1, 0, none⟩) cx (by simp); have cy2 := hk2.cell (p := ⟨w.heap.size + 1, 1, none⟩) cy (by simp); have g0 := hk2.free' (p := ⟨w.heap.size + 1, 0, none⟩) cx f0 (by simp); have g1 := hk2.free' (p := ⟨w.heap.size + 1, 1, none⟩) cy f1 (by simp); have d0 := hk2.cell (p := ⟨wr.heap.size, 0, none⟩) e0 (by simp); have d1 := hk2.cell (p := ⟨wr.heap.size, 1, none⟩) e1 (by simp))
          have hO1' := Lib.hid (hO1.out.kept hk2)
          have hK1' := Lib.hid (hK1.out.trans0 hk2)
          obtain ⟨_, s0, s1⟩ := cells2 (.bool b.neg) (.slice b.ptr b.len b.cap) cx2 cy2
          have hk3 : Kept [w.heap.size + 1] w2 ((w2.setCell ⟨w.heap.size + 1, 0, none⟩ (.bool b.neg)).setCell ⟨w.heap.size + 1, 1, none⟩ (.slice b.ptr b.len b.cap)) := ((Kept.refl _ _).setCell _ _ (by simp)).setCell _ _ (by simp)
          have hfz : ∀ x, ((w2.setCell ⟨w.heap.size + 1, 0, none⟩ (.bool b.neg)).setCell ⟨w.heap.size + 1, 1, none⟩ (.slice b.ptr b.len b.cap)).frozen? x = w2.frozen? x := by intro x; simp only [World.frozen?_setCell]
          have hO2 : OkB ((w2.setCell ⟨w.heap.size + 1, 0, none⟩ (.bool b.neg)).setCell ⟨w.heap.size + 1, 1, none⟩ (.slice b.ptr b.len b.cap)) (e :: t) := fun u hu => ⟨(hO1'.out u hu).1.kept hk3 (fun hn v hv hm => by
            have h9 := OKW.out u hu hn v hv
            simp at hm; omega), (hO1'.out u hu).2⟩
          generalize ((w2.setCell ⟨w.heap.size + 1, 0, none⟩ (.bool b.neg)).setCell ⟨w.heap.size + 1, 1, none⟩ (.slice b.ptr b.len b.cap)) = w3 at *
          have hK2 := Lib.hid (hK1'.out.trans hk3 (by simp))
          have S0 := Lib.hid s0
          have S1 := Lib.hid s1
          have HZ := Lib.hid hfz
          have HO2 := Lib.hid hO2
          have FF := Lib.hid (And.intro g0 g1)
          clear s0 s1 hfz hO2 hk3 hk2 cx cy f0 f1 e0 e1 cx2 cy2 g0 g1 d0 d1
          go_roundw
          case rel => exact ⟨k + 1, b, by omega, by go_num, fun _ => by rw [HS.out, HD.out]; rfl, hK2, HO2, ⟨_, _, S0.out, S1.out, fun _ => ⟨rfl, rfl⟩⟩, by rw [HZ.out]; exact FF.out.1, by rw [HZ.out]; exact FF.out.2⟩
          case measure => simp [intOf]; omega
    · have hkl : k = t.length + 1 := by omega
      have hc : c = pickF ltZ e t := by
        have := hP.out (by omega)
        rw [this, take_all (by omega)]
      obtain ⟨x, y, cx, cy, hxy⟩ := hC.out
      obtain ⟨rfl, rfl⟩ := hxy (by omega)
      have g0 := hK.out.cell (p := ⟨w.heap.size, 0, none⟩) R0.out.1 (by simp)
      have g1 := hK.out.cell (p := ⟨w.heap.size, 1, none⟩) R1.out.1 (by simp)
      have u0 := hK.out.free' (p := ⟨w.heap.size, 0, none⟩) R0.out.1 R0.out.2.1 (by simp)
      have u1 := hK.out.free' (p := ⟨w.heap.size, 1, none⟩) R1.out.1 R1.out.2.1 (by simp)
      have HC := Lib.hid hc
      have hKw := Lib.hid (KT.out.trans hK.out (fun x hx hlt => by simp at hx; omega))
      clear hc hP
      obtain ⟨_, s0, s1⟩ := cells2 (.bool c.neg) (.slice c.ptr c.len c.cap) g0 g1
      go_wp2_with fail
      refine bodyPost_ret (v := .agg #[.bool c.neg, .slice c.ptr c.len c.cap]) (by simp [results, Try.results67, go_sem, s0, s1]) rfl ⟨by rw [← HC.out]; rfl, (hKw.out.setCell _ _ (by simp)).setCell _ _ (by simp)⟩

set_option maxHeartbeats 4000000 in
set_option maxRecDepth 20000 in
theorem leastOf_isAbove (g : Nat) (e : BE) (t : List BE) (w : World) (h : RowB w g (e :: t)) (ho : OkB w (e :: t)) (hl : t.length < 100) :
    Calls Try.prog 67 #[.func (.func 57) #[] #[], .slice (some ⟨g, 0, none⟩) (t.length + 1) (t.length + 1)] w (Val w (pickF gtZ e t).val) := by
  have HR := Lib.hid h
  have HO := Lib.hid ho
  have hglt : g < w.heap.size := World.block_lt_of_cell? w _ (h 0 (by simp)).1
  have OKW := Lib.hid (show ∀ u, u ∈ (e :: t) → 0 < u.len → ∀ v, u.ptr = some v → v.block < w.heap.size from fun u hu => (ho u hu).1.lt)
  clear h ho
  go_enter Try.func67, Try.ntmps67
  go_wp2_with fail
  generalize hW : ((w.alloc (.cells #[.bool false, .slice none 0 0] 29)).alloc (.cells #[.bool false, .slice none 0 0] 29)) = ww0
  have hkk : Kept [] ((w.alloc (.cells #[.bool false, .slice none 0 0] 29)).alloc (.cells #[.bool false, .slice none 0 0] 29)) ww0 := by rw [hW]; exact Kept.refl _ _
  have zzA : w.heap.size + 1 + 1 = ww0.heap.size := by rw [← hW]; simp
  have hk := hkk.peel.peel
  have R0 := Lib.hid (hkk.peel.top (g := w.heap.size) (by simp) (by simp) 0 (v := .bool false) rfl)
  have R1 := Lib.hid (hkk.peel.top (g := w.heap.size) (by simp) (by simp) 1 (v := .slice none 0 0) rfl)
  have L0 := Lib.hid (hkk.top (g := w.heap.size + 1) (by simp) (by simp) 0 (v := .bool false) rfl)
  have L1 := Lib.hid (hkk.top (g := w.heap.size + 1) (by simp) (by simp) 1 (v := .slice none 0 0) rfl)
  replace HR := Lib.hid (HR.out.kept hk (by simp))
  replace HO := Lib.hid (HO.out.kept hk)
  have KT := Lib.hid hk
  clear hk hkk hW
  go_loopw [10] (fun i wr => ∃ (k : Nat) (c : BE), k ≤ t.length + 1 ∧ i = .int .i64 k ∧ Hid (0 < k → c = pickF gtZ e (t.take (k - 1))) ∧ Hid (Kept [w.heap.size + 1] ww0 wr) ∧
      Hid (OkB wr (e :: t)) ∧
      Hid (∃ x y, wr.cell? ⟨w.heap.size + 1, 0, none⟩ = some x ∧ wr.cell? ⟨w.heap.size + 1, 1, none⟩ = some y ∧ (0 < k → x = .bool c.neg ∧ y = .slice c.ptr c.len c.cap)) ∧
      Hid (wr.frozen? ⟨w.heap.size + 1, 0, none⟩ = false ∧ wr.frozen? ⟨w.heap.size + 1, 1, none⟩ = false)) (fun i _ => t.length + 1 - (intOf i).toNat)
  case atStart => exact ⟨0, e, by omega, rfl, fun h => by omega, Kept.refl _ _, HO.out, ⟨_, _, L0.out.1, L1.out.1, fun h => by omega⟩, L0.out.2.1, L1.out.2.1⟩
  case round =>
    obtain ⟨k, c, hk, rfl, hP, hK, hO, hC, hF⟩ := hrel
    by_cases hlt : k < t.length + 1
    · obtain ⟨x, y, cx, cy, hxy⟩ := hC.out
      obtain ⟨f0, f1⟩ := hF.out
      have hrow := (HR.out.kept hK.out (by simp; omega)) k (by simpa using hlt)
      have hmem : (e :: t)[k] ∈ (e :: t) := List.getElem_mem _
      have hnth : 0 < k → ∀ h9 : k - 1 < t.length, (e :: t)[k] = t[k - 1]'h9 := fun h h9 => by
        obtain ⟨j, rfl⟩ : ∃ j, k = j + 1 := ⟨k - 1, by omega⟩
        rfl
      have hnth0 : k = 0 → (e :: t)[k] = e := fun h => by subst h; rfl
      generalize (e :: t)[k] = b at hrow hmem hnth hnth0
      obtain ⟨r0, r1⟩ := hrow
      have HM := Lib.hid hmem
      have HN := Lib.hid hnth
      have HN0 := Lib.hid hnth0
      have HXY := Lib.hid hxy
      have FL := Lib.hid (And.intro f0 f1)
      have CX := Lib.hid cx
      have CY := Lib.hid cy
      clear hmem hnth hnth0 hxy f0 f1 cx cy
      go_upto_region 5 with fail
      have zk := hK.out.size
      generalize hW1 : (wr.alloc (.cells #[.bool b.neg, .slice b.ptr b.len b.cap] 29)) = w1
      have hkk : Kept [] (wr.alloc (.cells #[.bool b.neg, .slice b.ptr b.len b.cap] 29)) w1 := by rw [hW1]; exact Kept.refl _ _
      have zw1 : wr.heap.size + 1 = w1.heap.size := by rw [← hW1]; simp
      have e0 := (hkk.top (g := wr.heap.size) (by simp) (by simp) 0 (v := .bool b.neg) rfl).1
      have e1 := (hkk.top (g := wr.heap.size) (by simp) (by simp) 1 (v := .slice b.ptr b.len b.cap) rfl).1
      have hk1 := hkk.peel
      have f0 := hk1.free' (p := ⟨w.heap.size + 1, 0, none⟩) CX.out FL.out.1 (by simp)
      have f1 := hk1.free' (p := ⟨w.heap.size + 1, 1, none⟩) CY.out FL.out.2 (by simp)
      have cx := hk1.cell (p := ⟨w.heap.size + 1, 0, none⟩) CX.out (by simp)
      have cy := hk1.cell (p := ⟨w.heap.size + 1, 1, none⟩) CY.out (by simp)
      have hO1 := Lib.hid (hO.out.kept hk1)
      have hK1 := Lib.hid (hK.out.trans0 hk1)
      clear hk1 hkk hW1 r0 r1
      by_cases h0 : k = 0
      · have hb := Lib.hid (HN0.out h0)
        subst h0
        clear HN0
        go_wp2_with fail
        obtain ⟨_, s0, s1⟩ := cells2 (.bool b.neg) (.slice b.ptr b.len b.cap) cx cy
        have hk2 : Kept [w.heap.size + 1] w1 ((w1.setCell ⟨w.heap.size + 1, 0, none⟩ (.bool b.neg)).setCell ⟨w.heap.size + 1, 1, none⟩ (.slice b.ptr b.len b.cap)) := ((Kept.refl _ _).setCell _ _ (by simp)).setCell _ _ (by simp)
        have hfz : ∀ x, ((w1.setCell ⟨w.heap.size + 1, 0, none⟩ (.bool b.neg)).setCell ⟨w.heap.size + 1, 1, none⟩ (.slice b.ptr b.len b.cap)).frozen? x = w1.frozen? x := by intro x; simp only [World.frozen?_setCell]
        have hO2 : OkB ((w1.setCell ⟨w.heap.size + 1, 0, none⟩ (.bool b.neg)).setCell ⟨w.heap.size + 1, 1, none⟩ (.slice b.ptr b.len b.cap)) (e :: t) := fun u hu => ⟨(hO1.out u hu).1.kept hk2 (fun hn v hv hm => by
          have h9 := OKW.out u hu hn v hv
          simp at hm; omega), (hO1.out u hu).2⟩
        generalize ((w1.setCell ⟨w.heap.size + 1, 0, none⟩ (.bool b.neg)).setCell ⟨w.heap.size + 1, 1, none⟩ (.slice b.ptr b.len b.cap)) = w2 at *
        have hK2 := Lib.hid (hK1.out.trans hk2 (by simp))
        have S0 := Lib.hid s0
        have S1 := Lib.hid s1
        have HZ := Lib.hid hfz
        have HO2 := Lib.hid hO2
        have FF := Lib.hid (And.intro f0 f1)
        clear s0 s1 hfz hO2 hk2 cx cy f0 f1 e0 e1
        go_roundw
        case rel => exact ⟨1, b, by omega, by go_num, fun _ => by rw [hb.out]; rfl, hK2, HO2, ⟨_, _, S0.out, S1.out, fun _ => ⟨rfl, rfl⟩⟩, by rw [HZ.out]; exact FF.out.1, by rw [HZ.out]; exact FF.out.2⟩
        case measure => simp [intOf]
      · have hpos : 0 < k := by omega
        obtain ⟨rfl, rfl⟩ := HXY.out hpos
        have hc := hP.out hpos
        have hb := HN.out hpos (by omega)
        have hcm : c ∈ (e :: t) := by
          rw [hc]
          rcases pick_mem gtZ (t.take (k - 1)) e with h | h
          · rw [h]; exact List.mem_cons_self
          · exact List.mem_cons_of_mem _ (List.mem_of_mem_take h)
        have hsnoc : pickF gtZ e (t.take (k + 1 - 1)) = if gtZ b.z c.z = true then b else c := by
          rw [show k + 1 - 1 = k - 1 + 1 by omega, take_get (by omega), pick_snoc, ← hb, ← hc]
        have HS := Lib.hid hsnoc
        have HCM := Lib.hid hcm
        obtain ⟨r, hr⟩ : ∃ r, r = gtZ b.z c.z := ⟨_, rfl⟩
        have HD := Lib.hid hr.symm
        clear hr
        have hne : ((k : Int) == 0) = false := by rw [beq_eq_false_iff_ne]; omega
        have hks : IntKind.i64.wrap ((k : Int) + 1) = (k : Int) + 1 := IntWalk.i64_in _ (by omega)
        clear hsnoc hcm hc hb
        cases r
        · go_wp2_with (refine (isAbove_any _ _ _ _ _ _ _ _ _ _ _ _ (hO1.out b HM.out).1 (hO1.out c HCM.out).1 (hO1.out b HM.out).2 (hO1.out c HCM.out).2 HD.out).mono ?_; rintro e9 w2 ⟨rfl, hk2⟩)
          have S0 := Lib.hid (hk2.cell (p := ⟨w.heap.size + 1, 0, none⟩) cx (by simp))
          have S1 := Lib.hid (hk2.cell (p := ⟨w.heap.size + 1, 1, none⟩) cy (by simp))
          have FF := Lib.hid (And.intro (hk2.free' (p := ⟨w.heap.size + 1, 0, none⟩) cx f0 (by simp)) (hk2.free' (p := ⟨w.heap.size + 1, 1, none⟩) cy f1 (by simp)))
          have HO2 := Lib.hid (hO1.out.kept hk2)
          have hK2 := Lib.hid (hK1.out.trans0 hk2)
          clear hk2 cx cy f0 f1 e0 e1
          go_roundw
          case rel => exact ⟨k + 1, c, by omega, by go_num, fun _ => by rw [HS.out, HD.out]; rfl, hK2, HO2, ⟨_, _, S0.out, S1.out, fun _ => ⟨rfl, rfl⟩⟩, FF.out.1, FF.out.2⟩
          case measure => simp [intOf]; omega
        · go_wp2_with (refine (isAbove_any _ _ _ _ _ _ _ _ _ _ _ _ (hO1.out b HM.out).1 (hO1.out c HCM.out).1 (hO1.out b HM.out).2 (hO1.out c HCM.out).2 HD.out).mono ?_; rintro e9 w2 ⟨rfl, hk2⟩; have cx2 := hk2.cell (p := ⟨w.heap.size + 1, 0, none⟩) cx (by simp); have cy2 := hk2.cell (p := ⟨w.heap.size + 1, 1, none⟩) cy (by simp); have g0 := hk2.free' (p := ⟨w.heap.size + 1, 0, none⟩) cx f0 (by simp); have g1 := hk2.free' (p := ⟨w.heap.size + 1, 1, none⟩) cy f1 (by simp); have d0 := hk2.cell (p := ⟨wr.heap.size, 0, none⟩) e0 (by simp); have d1 := hk2.cell (p := ⟨wr.heap.size, 1, none⟩) e1 (by simp))
          have hO1' := Lib.hid (hO1.out.kept hk2)
          have hK1' := Lib.hid (hK1.out.trans0 hk2)
          obtain ⟨_, s0, s1⟩ := cells2 (.bool b.neg) (.slice b.ptr b.len b.cap) cx2 cy2
          have hk3 : Kept [w.heap.size + 1] w2 ((w2.setCell ⟨w.heap.size + 1, 0, none⟩ (.bool b.neg)).setCell ⟨w.heap.size + 1, 1, none⟩ (.slice b.ptr b.len b.cap)) := ((Kept.refl _ _).setCell _ _ (by simp)).setCell _ _ (by simp)
          have hfz : ∀ x, ((w2.setCell ⟨w.heap.size + 1, 0, none⟩ (.bool b.neg)).setCell ⟨w.heap.size + 1, 1, none⟩ (.slice b.ptr b.len b.cap)).frozen? x = w2.frozen? x := by intro x; simp only [World.frozen?_setCell]
          have hO2 : OkB ((w2.setCell ⟨w.heap.size + 1, 0, none⟩ (.bool b.neg)).setCell ⟨w.heap.size + 1, 1, none⟩ (.slice b.ptr b.len b.cap)) (e :: t) := fun u hu => ⟨(hO1'.out u hu).1.kept hk3 (fun hn v hv hm => by
            have h9 := OKW.out u hu hn v hv
            simp at hm; omega), (hO1'.out u hu).2⟩
          generalize ((w2.setCell ⟨w.heap.size + 1, 0, none⟩ (.bool b.neg)).setCell ⟨w.heap.size + 1, 1, none⟩ (.slice b.ptr b.len b.cap)) = w3 at *
          have hK2 := Lib.hid (hK1'.out.trans hk3 (by simp))
          have S0 := Lib.hid s0
          have S1 := Lib.hid s1
          have HZ := Lib.hid hfz
          have HO2 := Lib.hid hO2
          have FF := Lib.hid (And.intro g0 g1)
          clear s0 s1 hfz hO2 hk3 hk2 cx cy f0 f1 e0 e1 cx2 cy2 g0 g1 d0 d1
          go_roundw
          case rel => exact ⟨k + 1, b, by omega, by go_num, fun _ => by rw [HS.out, HD.out]; rfl, hK2, HO2, ⟨_, _, S0.out, S1.out, fun _ => ⟨rfl, rfl⟩⟩, by rw [HZ.out]; exact FF.out.1, by rw [HZ.out]; exact FF.out.2⟩
          case measure => simp [intOf]; omega
    · have hkl : k = t.length + 1 := by omega
      have hc : c = pickF gtZ e t := by
        have := hP.out (by omega)
        rw [this, take_all (by omega)]
      obtain ⟨x, y, cx, cy, hxy⟩ := hC.out
      obtain ⟨rfl, rfl⟩ := hxy (by omega)
      have g0 := hK.out.cell (p := ⟨w.heap.size, 0, none⟩) R0.out.1 (by simp)
      have g1 := hK.out.cell (p := ⟨w.heap.size, 1, none⟩) R1.out.1 (by simp)
      have u0 := hK.out.free' (p := ⟨w.heap.size, 0, none⟩) R0.out.1 R0.out.2.1 (by simp)
      have u1 := hK.out.free' (p := ⟨w.heap.size, 1, none⟩) R1.out.1 R1.out.2.1 (by simp)
      have HC := Lib.hid hc
      have hKw := Lib.hid (KT.out.trans hK.out (fun x hx hlt => by simp at hx; omega))
      clear hc hP
      obtain ⟨_, s0, s1⟩ := cells2 (.bool c.neg) (.slice c.ptr c.len c.cap) g0 g1
      go_wp2_with fail
      refine bodyPost_ret (v := .agg #[.bool c.neg, .slice c.ptr c.len c.cap]) (by simp [results, Try.results67, go_sem, s0, s1]) rfl ⟨by rw [← HC.out]; rfl, (hKw.out.setCell _ _ (by simp)).setCell _ _ (by simp)⟩

open Go.RowKit

/-- A whole slice appended to one that the call owns, as a step of a region that draws its order. -/
theorem step_appS {w : World} {ops : Array Oper} {o : Oper} {a : Act} {K : Act → World → Prop} {Q : Exit → Act → World → Prop} {E : Prop} (hgd : o.guard = none) (s x : Operand)
    (ho : o.op = .call { callee := .builtin .append, args := #[s, x], argTypes := #[22, 22] })
    (base : Nat) (v : Value) (xs : List Int) (hs : a.eval s = v) (hown : Ow base w v xs)
    (b : Option Addr) (m c : Nat) (ys : List Int) (hx : a.eval x = .slice b m c) (hr : Rd w b m ys) (hbc : b = none → m = 0 ∧ c = 0)
    (hlen : xs.length + m ≤ 1099511627776) (hbase : base ≤ w.heap.size)
    (h : ∀ v' w', Ow base w' v' (xs ++ ys) → w.grownBy w' v.ownBlock → K (a.put o.dst v') w') :
    if Region.wanted o (yielded ops a.tmps) = true then Oper.wp Try.prog o a w K Q else E := by
  have hw : Region.wanted o (yielded ops a.tmps) = true := by simp [Region.wanted, hgd]
  rw [if_pos hw]
  obtain ⟨i0, hi, hz0, hz1, hz2⟩ := info_parts Try.info64
  have hyl := hr.1
  cases b with
  | none =>
    obtain ⟨rfl, rfl⟩ := hbc rfl
    have hy : ys = [] := List.eq_nil_of_length_eq_zero hyl
    subst hy
    have hrun := run_append_owned_none (P := Try.prog) (w := w) base 22 o.type 2 i0 1 Try.underlying22 hi v xs.length _ hown
    unfold Oper.wp
    simp [execOp, ho, resolve, invoke, builtin, hs, hx, hrun, Result.andThen]
    exact h v w (by rw [List.append_nil]; exact hown) (World.grownBy.refl w _)
  | some ad =>
    refine wp_append_own w s x 22 ho base 2 i0 (.int .i64 0) 1 8 Try.underlying22 hi hz0 hz1 hz2 rfl (by decide) v xs.length _ hs hown ad m c (ys.map (Value.int .i64)) hx (by rw [List.length_map, hyl, Nat.mul_one]) ?_ ?_ ?_ ?_ hbase ?_
    · intro j u hj
      obtain ⟨hj', rfl⟩ := getD_map hj
      obtain ⟨g2, off2, he, hc⟩ := hr.2.2 j (by omega)
      cases he
      rw [Addr.add_lit]; exact hc
    · exact fun v hv => by obtain ⟨_, _, rfl⟩ := List.mem_map.1 hv; rfl
    · unfold maxLen; omega
    · omega
    · intro v' w' h1 h2 _
      exact h v' w' (by unfold Ow; rw [List.length_append, List.map_append, hyl]; exact h1) h2

theorem bigV_pack {w w4 : World} {c : BE} {a9 : Option Addr} {c9 : Nat} {v0 v1 : Value} (h1 : isNeg c.z = c.neg) (h2 : mag c.z = c.limbs) (hl : c.limbs.length = c.len) (hS : Sl w4 a9 ([] ++ c.limbs).length c9 ([] ++ c.limbs)) (hF : Fr (w.heap.size + 1) a9 ([] ++ c.limbs).length) (hK : Kept [] w w4) :
    BigV w.heap.size w c.z (.returned (.agg #[.bool c.neg, .slice a9 c.len c9])) ((w4.setCell ⟨w.heap.size, 0, none⟩ v0).setCell ⟨w.heap.size, 1, none⟩ v1) := by
  rw [List.nil_append] at hS hF
  refine ⟨a9, c9, by rw [h1, h2, hl], ?_, ?_, (hK.setCell _ _ (by simp)).setCell _ _ (by simp)⟩
  · rw [h2]; exact hS.kept (((Kept.refl [w.heap.size] w4).setCell _ _ (by simp)).setCell _ _ (by simp)) (fun hn x hx => by have := hF hn x hx; simp; omega)
  · rw [h2]; exact hF.mono (by omega)

set_option maxHeartbeats 4000000 in
set_option maxRecDepth 20000 in
theorem l3Least_any (g : Nat) (e : BE) (t : List BE) (w : World) (h : RowB w g (e :: t)) (ho : OkB w (e :: t)) (hl : t.length < 100) :
    Calls Try.prog 69 #[.slice (some ⟨g, 0, none⟩) (t.length + 1) (t.length + 1)] w (BigV w.heap.size w (pickF ltZ e t).z) := by
  have HR := Lib.hid h
  have HO := Lib.hid ho
  have hglt : g < w.heap.size := World.block_lt_of_cell? w _ (h 0 (by simp)).1
  have OKW := Lib.hid (show ∀ u, u ∈ (e :: t) → 0 < u.len → ∀ v, u.ptr = some v → v.block < w.heap.size from fun u hu => (ho u hu).1.lt)
  have hr0 := h 0 (by simp)
  obtain ⟨q0, q1⟩ := hr0
  simp only [Nat.zero_mul, Nat.zero_add, List.getElem_cons_zero] at q0 q1
  have q0' := alloc_cell (o := .cells #[.bool false, .slice none 0 0] 29) q0
  have q1' := alloc_cell (o := .cells #[.bool false, .slice none 0 0] 29) q1
  clear h ho q0 q1
  go_enter Try.func69, Try.ntmps69
  go_wp2_with fail
  clear q0' q1'
  generalize hW : ((w.alloc (.cells #[.bool false, .slice none 0 0] 29)).alloc (.cells #[.bool e.neg, .slice e.ptr e.len e.cap] 29)) = ww0
  have hkk : Kept [] ((w.alloc (.cells #[.bool false, .slice none 0 0] 29)).alloc (.cells #[.bool e.neg, .slice e.ptr e.len e.cap] 29)) ww0 := by rw [hW]; exact Kept.refl _ _
  have zzA : w.heap.size + 1 + 1 = ww0.heap.size := by rw [← hW]; simp
  have hk := hkk.peel.peel
  have R0 := Lib.hid (hkk.peel.top (g := w.heap.size) (by simp) (by simp) 0 (v := .bool false) rfl)
  have R1 := Lib.hid (hkk.peel.top (g := w.heap.size) (by simp) (by simp) 1 (v := .slice none 0 0) rfl)
  have L0 := Lib.hid (hkk.top (g := w.heap.size + 1) (by simp) (by simp) 0 (v := .bool e.neg) rfl)
  have L1 := Lib.hid (hkk.top (g := w.heap.size + 1) (by simp) (by simp) 1 (v := .slice e.ptr e.len e.cap) rfl)
  replace HR := Lib.hid (HR.out.kept hk (by simp))
  replace HO := Lib.hid (HO.out.kept hk)
  have KT := Lib.hid hk
  clear hk hkk hW
  go_loopw [4] (fun i wr => ∃ (k : Nat) (c : BE), 1 ≤ k ∧ k ≤ t.length + 1 ∧ i = .int .i64 k ∧ Hid (c = pickF ltZ e (t.take (k - 1))) ∧ Hid (Kept [w.heap.size + 1] ww0 wr) ∧
      Hid (OkB wr (e :: t)) ∧
      Hid (wr.cell? ⟨w.heap.size + 1, 0, none⟩ = some (.bool c.neg) ∧ wr.cell? ⟨w.heap.size + 1, 1, none⟩ = some (.slice c.ptr c.len c.cap)) ∧
      Hid (wr.frozen? ⟨w.heap.size + 1, 0, none⟩ = false ∧ wr.frozen? ⟨w.heap.size + 1, 1, none⟩ = false)) (fun i _ => t.length + 1 - (intOf i).toNat)
  case atStart => exact ⟨1, e, by omega, by omega, rfl, rfl, Kept.refl _ _, HO.out, ⟨L0.out.1, L1.out.1⟩, L0.out.2.1, L1.out.2.1⟩
  case round =>
    obtain ⟨k, c, hk1, hk, rfl, hP, hK, hO, hC, hF⟩ := hrel
    have hcm : c ∈ (e :: t) := by
      rw [hP.out]
      rcases pick_mem ltZ (t.take (k - 1)) e with h | h
      · rw [h]; exact List.mem_cons_self
      · exact List.mem_cons_of_mem _ (List.mem_of_mem_take h)
    have HCM := Lib.hid hcm
    clear hcm
    by_cases hlt : k < t.length + 1
    · have hrow := (HR.out.kept hK.out (by simp; omega)) k (by simpa using hlt)
      have hmem : (e :: t)[k] ∈ (e :: t) := List.getElem_mem _
      have hnth : ∀ h9 : k - 1 < t.length, (e :: t)[k] = t[k - 1]'h9 := fun h9 => by
        obtain ⟨j, rfl⟩ : ∃ j, k = j + 1 := ⟨k - 1, by omega⟩
        rfl
      generalize (e :: t)[k] = b at hrow hmem hnth
      obtain ⟨r0, r1⟩ := hrow
      have hsnoc : pickF ltZ e (t.take (k + 1 - 1)) = if ltZ b.z c.z = true then b else c := by
        rw [show k + 1 - 1 = k - 1 + 1 by omega, take_get (by omega), pick_snoc, ← hnth (by omega), ← hP.out]
      have HM := Lib.hid hmem
      have HS := Lib.hid hsnoc
      have hks : IntKind.i64.wrap ((k : Int) + 1) = (k : Int) + 1 := IntWalk.i64_in _ (by omega)
      obtain ⟨v, hv⟩ : ∃ v : Int, v = cmpV b.z c.z := ⟨_, rfl⟩
      have HV := Lib.hid hv
      obtain ⟨r, hr⟩ : ∃ r, r = ltZ b.z c.z := ⟨_, rfl⟩
      have HD := Lib.hid hr.symm
      have hd : decide (v < 0) = r := by rw [hv, cmpV_neg]; exact hr.symm
      have cx := hC.out.1
      have cy := hC.out.2
      have f0 := hF.out.1
      have f1 := hF.out.2
      have i0 : (0 : Int) ≤ (k : Int) := by omega
      have i1 : (k : Int) < (t.length : Int) + 1 := by omega
      clear hmem hnth hsnoc hv hr hP
      go_upto_region 5 with fail
      go_region_held3 (fun w' => w'.cell? ⟨g, k * 2, none⟩ = some (.bool b.neg) ∧ w'.cell? ⟨g, k * 2 + 1, none⟩ = some (.slice b.ptr b.len b.cap) ∧ w'.cell? ⟨w.heap.size + 1, 0, none⟩ = some (.bool c.neg) ∧ w'.cell? ⟨w.heap.size + 1, 1, none⟩ = some (.slice c.ptr c.len c.cap) ∧ Hid (Kept [] wr w'))
        ((go_split_ands; (try refine ⟨?_, ?_, ?_, ?_, ?_⟩) <;> with_reducible first | exact Lib.hid ((Kept.refl _ _).drew) | exact drew_cell (by assumption) | exact Lib.hid (Kept.trans0 (Hid.out (by assumption)) (by assumption)) | exact Kept.cell (by assumption) (by assumption) (by simp)))
        (first
          | (go_at_call 51; go_split_ands; refine (l2Compare_any _ _ _ _ _ _ _ _ _ _ _ (hO.out b HM.out).2.n40 (hO.out c HCM.out).2.n40 ((hO.out b HM.out).1.kept0 (Kept.refl [] _).drew) ((hO.out c HCM.out).1.kept0 (Kept.refl [] _).drew)).mono ?_; rintro e9 w2 ⟨rfl, hk2⟩; rw [show cmpV (sv b.neg b.limbs) (sv c.neg c.limbs) = v from HV.out.symm]; have cx2 := hk2.undrew.cell (p := ⟨w.heap.size + 1, 0, none⟩) cx (by simp); have cy2 := hk2.undrew.cell (p := ⟨w.heap.size + 1, 1, none⟩) cy (by simp); have g0 := hk2.undrew.free' (p := ⟨w.heap.size + 1, 0, none⟩) cx f0 (by simp); have g1 := hk2.undrew.free' (p := ⟨w.heap.size + 1, 1, none⟩) cy f1 (by simp); have d0 := hk2.undrew.cell (p := ⟨g, k * 2, none⟩) r0 (by simp); have d1 := hk2.undrew.cell (p := ⟨g, k * 2 + 1, none⟩) r1 (by simp)))
      have hO1 := Lib.hid (hO.out.kept hk2.undrew)
      have hK1 := Lib.hid (hK.out.trans0 hk2.undrew)
      clear cx cy f0 f1 r0 r1 hk2
      cases r
      · have S0 := Lib.hid cx2
        have S1 := Lib.hid cy2
        have FF := Lib.hid (And.intro g0 g1)
        go_wp2_with fail
        clear cx2 cy2 g0 g1 d0 d1 hd
        go_roundw
        case rel => exact ⟨k + 1, c, by omega, by omega, by go_num, by show c = _; rw [HS.out, HD.out]; rfl, hK1, hO1, ⟨S0.out, S1.out⟩, FF.out.1, FF.out.2⟩
        case measure => simp [intOf]; omega
      · go_wp2_with fail
        obtain ⟨_, s0, s1⟩ := cells2 (.bool b.neg) (.slice b.ptr b.len b.cap) cx2 cy2
        have hk3 : Kept [w.heap.size + 1] w2 ((w2.setCell ⟨w.heap.size + 1, 0, none⟩ (.bool b.neg)).setCell ⟨w.heap.size + 1, 1, none⟩ (.slice b.ptr b.len b.cap)) := ((Kept.refl _ _).setCell _ _ (by simp)).setCell _ _ (by simp)
        have hfz : ∀ x, ((w2.setCell ⟨w.heap.size + 1, 0, none⟩ (.bool b.neg)).setCell ⟨w.heap.size + 1, 1, none⟩ (.slice b.ptr b.len b.cap)).frozen? x = w2.frozen? x := by intro x; simp only [World.frozen?_setCell]
        have hO2 : OkB ((w2.setCell ⟨w.heap.size + 1, 0, none⟩ (.bool b.neg)).setCell ⟨w.heap.size + 1, 1, none⟩ (.slice b.ptr b.len b.cap)) (e :: t) := fun u hu => ⟨(hO1.out u hu).1.kept hk3 (fun hn v hv hm => by
          have h9 := OKW.out u hu hn v hv
          simp at hm; omega), (hO1.out u hu).2⟩
        generalize ((w2.setCell ⟨w.heap.size + 1, 0, none⟩ (.bool b.neg)).setCell ⟨w.heap.size + 1, 1, none⟩ (.slice b.ptr b.len b.cap)) = w3 at *
        have hK2 := Lib.hid (hK1.out.trans hk3 (by simp))
        have S0 := Lib.hid s0
        have S1 := Lib.hid s1
        have HZ := Lib.hid hfz
        have HO2 := Lib.hid hO2
        have FF := Lib.hid (And.intro g0 g1)
        clear s0 s1 hfz hO2 hk3 cx2 cy2 g0 g1 d0 d1 hd
        go_roundw
        case rel => exact ⟨k + 1, b, by omega, by omega, by go_num, by show b = _; rw [HS.out, HD.out]; rfl, hK2, HO2, ⟨S0.out, S1.out⟩, by rw [HZ.out]; exact FF.out.1, by rw [HZ.out]; exact FF.out.2⟩
        case measure => simp [intOf]; omega
    · have hc : c = pickF ltZ e t := by
        rw [hP.out, take_all (by omega)]
      have HC := Lib.hid hc
      have cx := hC.out.1
      have cy := hC.out.2
      have g0 := hK.out.cell (p := ⟨w.heap.size, 0, none⟩) R0.out.1 (by simp)
      have g1 := hK.out.cell (p := ⟨w.heap.size, 1, none⟩) R1.out.1 (by simp)
      have u0 := hK.out.free' (p := ⟨w.heap.size, 0, none⟩) R0.out.1 R0.out.2.1 (by simp)
      have u1 := hK.out.free' (p := ⟨w.heap.size, 1, none⟩) R1.out.1 R1.out.2.1 (by simp)
      have hKw := Lib.hid (KT.out.trans hK.out (fun x hx hlt => by simp at hx; omega))
      have hsl := (hO.out c HCM.out).1
      have hok := (hO.out c HCM.out).2
      have hz1 : isNeg c.z = c.neg := hok.isNeg
      have hz2 : mag c.z = c.limbs := hok.mag
      have HZ1 := Lib.hid hz1
      have HZ2 := Lib.hid hz2
      have HSL := Lib.hid hsl
      have hlen := hok.n40.len
      have hll := hsl.1
      have zz9 := hK.out.size
      clear hc hP hsl hok hz1 hz2
      have cxA := alloc_cell (o := .cells #[] 2) cx
      have cyA := alloc_cell (o := .cells #[] 2) cy
      go_wp2_with fail
      go_region_law (refine step_appS (by rfl) (.tmp 27) (.tmp 29) (by rfl) (w.heap.size + 1) _ [] (by rfl) (Ow.empty _ _ (by (try simp only [World.size_drew, World.size_alloc]); omega)) c.ptr c.len c.cap c.limbs (by rfl) (HSL.out.rd.kept0 (by first | exact ((Kept.refl [] _).drew.alloc _) | exact ((Kept.refl [] _).alloc _).drew | exact (((Kept.refl [] _).drew.alloc _)).drew)) (fun hn => by have h9 := HSL.out.2.2.2.1 hn; have h8 := HSL.out.2.1; omega) (by simp; omega) (by (try simp only [World.size_drew, World.size_alloc]); omega) ?_; intro v9 w4 hown hgr; obtain ⟨a9, c9, rfl, hS9, hF9⟩ := hown.sl; have hk9 : Kept [] wr w4 := Kept.grown (by first | exact (Kept.refl [] wr).drew.alloc _ | exact ((Kept.refl [] wr).alloc _).drew | exact (Kept.refl [] wr).alloc _) hgr (fun k hk hlt => by simp [Value.ownBlock] at hk; omega); have k0 := hk9.cell (p := ⟨w.heap.size, 0, none⟩) g0 (by simp); have k1 := hk9.cell (p := ⟨w.heap.size, 1, none⟩) g1 (by simp); have x0 := hk9.cell (p := ⟨w.heap.size + 1, 0, none⟩) cx (by simp); have j0 := hk9.free' (p := ⟨w.heap.size, 0, none⟩) g0 u0 (by simp); have j1 := hk9.free' (p := ⟨w.heap.size, 1, none⟩) g1 u1 (by simp))
      all_goals
        have hKf := Lib.hid (hKw.out.trans0 hk9)
        obtain ⟨_, s0, s1⟩ := cells2 (.bool c.neg) (.slice a9 c.len c9) k0 k1
        have HS9 := Lib.hid hS9
        have HF9 := Lib.hid hF9
        clear hS9 hF9 hk9 hown hgr
        go_wp2_with fail
        refine bodyPost_ret (v := .agg #[.bool c.neg, .slice a9 c.len c9]) (by simp [results, Try.results69, go_sem, s0, s1]) rfl ?_
        rw [← HC.out]
        exact bigV_pack HZ1.out HZ2.out hll HS9.out HF9.out hKf.out

set_option maxHeartbeats 4000000 in
set_option maxRecDepth 20000 in
theorem l3Most_any (g : Nat) (e : BE) (t : List BE) (w : World) (h : RowB w g (e :: t)) (ho : OkB w (e :: t)) (hl : t.length < 100) :
    Calls Try.prog 68 #[.slice (some ⟨g, 0, none⟩) (t.length + 1) (t.length + 1)] w (BigV w.heap.size w (pickF gtZ e t).z) := by
  have HR := Lib.hid h
  have HO := Lib.hid ho
  have hglt : g < w.heap.size := World.block_lt_of_cell? w _ (h 0 (by simp)).1
  have OKW := Lib.hid (show ∀ u, u ∈ (e :: t) → 0 < u.len → ∀ v, u.ptr = some v → v.block < w.heap.size from fun u hu => (ho u hu).1.lt)
  have hr0 := h 0 (by simp)
  obtain ⟨q0, q1⟩ := hr0
  simp only [Nat.zero_mul, Nat.zero_add, List.getElem_cons_zero] at q0 q1
  have q0' := alloc_cell (o := .cells #[.bool false, .slice none 0 0] 29) q0
  have q1' := alloc_cell (o := .cells #[.bool false, .slice none 0 0] 29) q1
  clear h ho q0 q1
  go_enter Try.func68, Try.ntmps68
  go_wp2_with fail
  clear q0' q1'
  generalize hW : ((w.alloc (.cells #[.bool false, .slice none 0 0] 29)).alloc (.cells #[.bool e.neg, .slice e.ptr e.len e.cap] 29)) = ww0
  have hkk : Kept [] ((w.alloc (.cells #[.bool false, .slice none 0 0] 29)).alloc (.cells #[.bool e.neg, .slice e.ptr e.len e.cap] 29)) ww0 := by rw [hW]; exact Kept.refl _ _
  have zzA : w.heap.size + 1 + 1 = ww0.heap.size := by rw [← hW]; simp
  have hk := hkk.peel.peel
  have R0 := Lib.hid (hkk.peel.top (g := w.heap.size) (by simp) (by simp) 0 (v := .bool false) rfl)
  have R1 := Lib.hid (hkk.peel.top (g := w.heap.size) (by simp) (by simp) 1 (v := .slice none 0 0) rfl)
  have L0 := Lib.hid (hkk.top (g := w.heap.size + 1) (by simp) (by simp) 0 (v := .bool e.neg) rfl)
  have L1 := Lib.hid (hkk.top (g := w.heap.size + 1) (by simp) (by simp) 1 (v := .slice e.ptr e.len e.cap) rfl)
  replace HR := Lib.hid (HR.out.kept hk (by simp))
  replace HO := Lib.hid (HO.out.kept hk)
  have KT := Lib.hid hk
  clear hk hkk hW
  go_loopw [4] (fun i wr => ∃ (k : Nat) (c : BE), 1 ≤ k ∧ k ≤ t.length + 1 ∧ i = .int .i64 k ∧ Hid (c = pickF gtZ e (t.take (k - 1))) ∧ Hid (Kept [w.heap.size + 1] ww0 wr) ∧
      Hid (OkB wr (e :: t)) ∧
      Hid (wr.cell? ⟨w.heap.size + 1, 0, none⟩ = some (.bool c.neg) ∧ wr.cell? ⟨w.heap.size + 1, 1, none⟩ = some (.slice c.ptr c.len c.cap)) ∧
      Hid (wr.frozen? ⟨w.heap.size + 1, 0, none⟩ = false ∧ wr.frozen? ⟨w.heap.size + 1, 1, none⟩ = false)) (fun i _ => t.length + 1 - (intOf i).toNat)
  case atStart => exact ⟨1, e, by omega, by omega, rfl, rfl, Kept.refl _ _, HO.out, ⟨L0.out.1, L1.out.1⟩, L0.out.2.1, L1.out.2.1⟩
  case round =>
    obtain ⟨k, c, hk1, hk, rfl, hP, hK, hO, hC, hF⟩ := hrel
    have hcm : c ∈ (e :: t) := by
      rw [hP.out]
      rcases pick_mem gtZ (t.take (k - 1)) e with h | h
      · rw [h]; exact List.mem_cons_self
      · exact List.mem_cons_of_mem _ (List.mem_of_mem_take h)
    have HCM := Lib.hid hcm
    clear hcm
    by_cases hlt : k < t.length + 1
    · have hrow := (HR.out.kept hK.out (by simp; omega)) k (by simpa using hlt)
      have hmem : (e :: t)[k] ∈ (e :: t) := List.getElem_mem _
      have hnth : ∀ h9 : k - 1 < t.length, (e :: t)[k] = t[k - 1]'h9 := fun h9 => by
        obtain ⟨j, rfl⟩ : ∃ j, k = j + 1 := ⟨k - 1, by omega⟩
        rfl
      generalize (e :: t)[k] = b at hrow hmem hnth
      obtain ⟨r0, r1⟩ := hrow
      have hsnoc : pickF gtZ e (t.take (k + 1 - 1)) = if gtZ b.z c.z = true then b else c := by
        rw [show k + 1 - 1 = k - 1 + 1 by omega, take_get (by omega), pick_snoc, ← hnth (by omega), ← hP.out]
      have HM := Lib.hid hmem
      have HS := Lib.hid hsnoc
      have hks : IntKind.i64.wrap ((k : Int) + 1) = (k : Int) + 1 := IntWalk.i64_in _ (by omega)
      obtain ⟨v, hv⟩ : ∃ v : Int, v = cmpV b.z c.z := ⟨_, rfl⟩
      have HV := Lib.hid hv
      obtain ⟨r, hr⟩ : ∃ r, r = gtZ b.z c.z := ⟨_, rfl⟩
      have HD := Lib.hid hr.symm
      have hd : decide (0 < v) = r := by rw [hv, cmpV_pos]; exact hr.symm
      have cx := hC.out.1
      have cy := hC.out.2
      have f0 := hF.out.1
      have f1 := hF.out.2
      have i0 : (0 : Int) ≤ (k : Int) := by omega
      have i1 : (k : Int) < (t.length : Int) + 1 := by omega
      clear hmem hnth hsnoc hv hr hP
      go_upto_region 5 with fail
      go_region_held3 (fun w' => w'.cell? ⟨g, k * 2, none⟩ = some (.bool b.neg) ∧ w'.cell? ⟨g, k * 2 + 1, none⟩ = some (.slice b.ptr b.len b.cap) ∧ w'.cell? ⟨w.heap.size + 1, 0, none⟩ = some (.bool c.neg) ∧ w'.cell? ⟨w.heap.size + 1, 1, none⟩ = some (.slice c.ptr c.len c.cap) ∧ Hid (Kept [] wr w'))
        ((go_split_ands; (try refine ⟨?_, ?_, ?_, ?_, ?_⟩) <;> with_reducible first | exact Lib.hid ((Kept.refl _ _).drew) | exact drew_cell (by assumption) | exact Lib.hid (Kept.trans0 (Hid.out (by assumption)) (by assumption)) | exact Kept.cell (by assumption) (by assumption) (by simp)))
        (first
          | (go_at_call 51; go_split_ands; refine (l2Compare_any _ _ _ _ _ _ _ _ _ _ _ (hO.out b HM.out).2.n40 (hO.out c HCM.out).2.n40 ((hO.out b HM.out).1.kept0 (Kept.refl [] _).drew) ((hO.out c HCM.out).1.kept0 (Kept.refl [] _).drew)).mono ?_; rintro e9 w2 ⟨rfl, hk2⟩; rw [show cmpV (sv b.neg b.limbs) (sv c.neg c.limbs) = v from HV.out.symm]; have cx2 := hk2.undrew.cell (p := ⟨w.heap.size + 1, 0, none⟩) cx (by simp); have cy2 := hk2.undrew.cell (p := ⟨w.heap.size + 1, 1, none⟩) cy (by simp); have g0 := hk2.undrew.free' (p := ⟨w.heap.size + 1, 0, none⟩) cx f0 (by simp); have g1 := hk2.undrew.free' (p := ⟨w.heap.size + 1, 1, none⟩) cy f1 (by simp); have d0 := hk2.undrew.cell (p := ⟨g, k * 2, none⟩) r0 (by simp); have d1 := hk2.undrew.cell (p := ⟨g, k * 2 + 1, none⟩) r1 (by simp)))
      have hO1 := Lib.hid (hO.out.kept hk2.undrew)
      have hK1 := Lib.hid (hK.out.trans0 hk2.undrew)
      clear cx cy f0 f1 r0 r1 hk2
      cases r
      · have S0 := Lib.hid cx2
        have S1 := Lib.hid cy2
        have FF := Lib.hid (And.intro g0 g1)
        go_wp2_with fail
        clear cx2 cy2 g0 g1 d0 d1 hd
        go_roundw
        case rel => exact ⟨k + 1, c, by omega, by omega, by go_num, by show c = _; rw [HS.out, HD.out]; rfl, hK1, hO1, ⟨S0.out, S1.out⟩, FF.out.1, FF.out.2⟩
        case measure => simp [intOf]; omega
      · go_wp2_with fail
        obtain ⟨_, s0, s1⟩ := cells2 (.bool b.neg) (.slice b.ptr b.len b.cap) cx2 cy2
        have hk3 : Kept [w.heap.size + 1] w2 ((w2.setCell ⟨w.heap.size + 1, 0, none⟩ (.bool b.neg)).setCell ⟨w.heap.size + 1, 1, none⟩ (.slice b.ptr b.len b.cap)) := ((Kept.refl _ _).setCell _ _ (by simp)).setCell _ _ (by simp)
        have hfz : ∀ x, ((w2.setCell ⟨w.heap.size + 1, 0, none⟩ (.bool b.neg)).setCell ⟨w.heap.size + 1, 1, none⟩ (.slice b.ptr b.len b.cap)).frozen? x = w2.frozen? x := by intro x; simp only [World.frozen?_setCell]
        have hO2 : OkB ((w2.setCell ⟨w.heap.size + 1, 0, none⟩ (.bool b.neg)).setCell ⟨w.heap.size + 1, 1, none⟩ (.slice b.ptr b.len b.cap)) (e :: t) := fun u hu => ⟨(hO1.out u hu).1.kept hk3 (fun hn v hv hm => by
          have h9 := OKW.out u hu hn v hv
          simp at hm; omega), (hO1.out u hu).2⟩
        generalize ((w2.setCell ⟨w.heap.size + 1, 0, none⟩ (.bool b.neg)).setCell ⟨w.heap.size + 1, 1, none⟩ (.slice b.ptr b.len b.cap)) = w3 at *
        have hK2 := Lib.hid (hK1.out.trans hk3 (by simp))
        have S0 := Lib.hid s0
        have S1 := Lib.hid s1
        have HZ := Lib.hid hfz
        have HO2 := Lib.hid hO2
        have FF := Lib.hid (And.intro g0 g1)
        clear s0 s1 hfz hO2 hk3 cx2 cy2 g0 g1 d0 d1 hd
        go_roundw
        case rel => exact ⟨k + 1, b, by omega, by omega, by go_num, by show b = _; rw [HS.out, HD.out]; rfl, hK2, HO2, ⟨S0.out, S1.out⟩, by rw [HZ.out]; exact FF.out.1, by rw [HZ.out]; exact FF.out.2⟩
        case measure => simp [intOf]; omega
    · have hc : c = pickF gtZ e t := by
        rw [hP.out, take_all (by omega)]
      have HC := Lib.hid hc
      have cx := hC.out.1
      have cy := hC.out.2
      have g0 := hK.out.cell (p := ⟨w.heap.size, 0, none⟩) R0.out.1 (by simp)
      have g1 := hK.out.cell (p := ⟨w.heap.size, 1, none⟩) R1.out.1 (by simp)
      have u0 := hK.out.free' (p := ⟨w.heap.size, 0, none⟩) R0.out.1 R0.out.2.1 (by simp)
      have u1 := hK.out.free' (p := ⟨w.heap.size, 1, none⟩) R1.out.1 R1.out.2.1 (by simp)
      have hKw := Lib.hid (KT.out.trans hK.out (fun x hx hlt => by simp at hx; omega))
      have hsl := (hO.out c HCM.out).1
      have hok := (hO.out c HCM.out).2
      have hz1 : isNeg c.z = c.neg := hok.isNeg
      have hz2 : mag c.z = c.limbs := hok.mag
      have HZ1 := Lib.hid hz1
      have HZ2 := Lib.hid hz2
      have HSL := Lib.hid hsl
      have hlen := hok.n40.len
      have hll := hsl.1
      have zz9 := hK.out.size
      clear hc hP hsl hok hz1 hz2
      have cxA := alloc_cell (o := .cells #[] 2) cx
      have cyA := alloc_cell (o := .cells #[] 2) cy
      go_wp2_with fail
      go_region_law (refine step_appS (by rfl) (.tmp 27) (.tmp 29) (by rfl) (w.heap.size + 1) _ [] (by rfl) (Ow.empty _ _ (by (try simp only [World.size_drew, World.size_alloc]); omega)) c.ptr c.len c.cap c.limbs (by rfl) (HSL.out.rd.kept0 (by first | exact ((Kept.refl [] _).drew.alloc _) | exact ((Kept.refl [] _).alloc _).drew | exact (((Kept.refl [] _).drew.alloc _)).drew)) (fun hn => by have h9 := HSL.out.2.2.2.1 hn; have h8 := HSL.out.2.1; omega) (by simp; omega) (by (try simp only [World.size_drew, World.size_alloc]); omega) ?_; intro v9 w4 hown hgr; obtain ⟨a9, c9, rfl, hS9, hF9⟩ := hown.sl; have hk9 : Kept [] wr w4 := Kept.grown (by first | exact (Kept.refl [] wr).drew.alloc _ | exact ((Kept.refl [] wr).alloc _).drew | exact (Kept.refl [] wr).alloc _) hgr (fun k hk hlt => by simp [Value.ownBlock] at hk; omega); have k0 := hk9.cell (p := ⟨w.heap.size, 0, none⟩) g0 (by simp); have k1 := hk9.cell (p := ⟨w.heap.size, 1, none⟩) g1 (by simp); have x0 := hk9.cell (p := ⟨w.heap.size + 1, 0, none⟩) cx (by simp); have j0 := hk9.free' (p := ⟨w.heap.size, 0, none⟩) g0 u0 (by simp); have j1 := hk9.free' (p := ⟨w.heap.size, 1, none⟩) g1 u1 (by simp))
      all_goals
        have hKf := Lib.hid (hKw.out.trans0 hk9)
        obtain ⟨_, s0, s1⟩ := cells2 (.bool c.neg) (.slice a9 c.len c9) k0 k1
        have HS9 := Lib.hid hS9
        have HF9 := Lib.hid hF9
        clear hS9 hF9 hk9 hown hgr
        go_wp2_with fail
        refine bodyPost_ret (v := .agg #[.bool c.neg, .slice a9 c.len c9]) (by simp [results, Try.results68, go_sem, s0, s1]) rfl ?_
        rw [← HC.out]
        exact bigV_pack HZ1.out HZ2.out hll HS9.out HF9.out hKf.out

open Go.RowKit

theorem drew_alloc_cell2 {w : World} {o : Obj} {p : Addr} {v : Value} (h : w.drew.cell? p = some v) : (w.alloc o).drew.cell? p = some v := alloc_cell (w := w) h
theorem Kept.drewAlloc2H {L : List Nat} {W w : World} {o : Obj} (h : Hid (Kept L W w.drew)) : Hid (Kept L W (w.alloc o).drew) := Lib.hid (((Kept.trans0 h.out (⟨rfl, rfl, rfl, Nat.le_refl _, fun _ _ _ => rfl⟩ : Kept [] w.drew w)).alloc o).drew)
theorem Kept.drewAllocH {L : List Nat} {W w : World} {o : Obj} (h : Hid (Kept L W w)) : Hid (Kept L W (w.alloc o).drew) := Lib.hid ((h.out.alloc o).drew)
theorem Kept.drewH {L : List Nat} {W w : World} (h : Hid (Kept L W w)) : Hid (Kept L W w.drew) := Lib.hid h.out.drew
/-- A call that answers a big that is the number z, wherever its limbs lie. -/
def BigN (w : World) (z : Int) (e : Ending) (w' : World) : Prop :=
  ∃ a c, e = .returned (.agg #[.bool (isNeg z), .slice a (mag z).length c]) ∧ Sl w' a (mag z).length c (mag z) ∧ Kept [] w w'
theorem rowB2_at {U W : World} {g : Nat} {p q : Bool} {a b : Option Addr} {n c m d : Nat} {xs ys : List Int} {T : TypeId} (hW : W = U.alloc (.cells #[.bool p, .slice a n c, .bool q, .slice b m d] T)) (hg : g = U.heap.size) :
    RowB W g [⟨p, a, n, c, xs⟩, ⟨q, b, m, d, ys⟩] := by
  subst hW hg
  intro j hj
  match j, hj with
  | 0, _ => exact ⟨by rw [World.cell?_alloc_new]; rfl, by rw [World.cell?_alloc_new]; rfl⟩
  | 1, _ => exact ⟨by rw [World.cell?_alloc_new]; rfl, by rw [World.cell?_alloc_new]; rfl⟩
theorem RowB.alloc {w : World} {g : Nat} {l : List BE} (h : RowB w g l) (o : Obj) : RowB (w.alloc o) g l := h.kept ((Kept.refl [] w).alloc o) (by simp)
theorem RowB.drew {w : World} {g : Nat} {l : List BE} (h : RowB w g l) : RowB w.drew g l := h.kept ((Kept.refl [] w).drew) (by simp)
theorem okB2 {w : World} {p q : Bool} {a b : Option Addr} {n c m d : Nat} {xs ys : List Int} (h : Sl w a n c xs) (h' : Sl w b m d ys) (hx : BigOk p xs) (hy : BigOk q ys) : OkB w [⟨p, a, n, c, xs⟩, ⟨q, b, m, d, ys⟩] := fun u hu => by
  rcases List.mem_cons.1 hu with rfl | hu
  · exact ⟨h, hx⟩
  · rcases List.mem_cons.1 hu with rfl | hu
    · exact ⟨h', hy⟩
    · cases hu
theorem pick2_lt {e f : BE} : (pickF ltZ e [f]).z = minZ e.z f.z := by
  unfold pickF pickF ltZ minZ
  by_cases h : f.z < e.z
  · rw [if_pos (decide_eq_true h), if_pos h]
  · rw [if_neg (by simpa using h), if_neg h]
theorem pick2_gt {e f : BE} : (pickF gtZ e [f]).z = maxZ e.z f.z := by
  unfold pickF pickF gtZ maxZ
  by_cases h : e.z < f.z
  · rw [if_pos (decide_eq_true h), if_pos h]
  · rw [if_neg (by simpa using h), if_neg h]
theorem bigN_of {w w' : World} {l : List BE} {b : BE} {e : Ending} (hb : b ∈ l) (ho : OkB w l) (h : Val w b.val e w') : BigN w b.z e w' := by
  obtain ⟨rfl, hk⟩ := h
  obtain ⟨hs, hok⟩ := ho b hb
  have h1 : isNeg b.z = b.neg := hok.isNeg
  have h2 : mag b.z = b.limbs := hok.mag
  have h3 := hs.1
  refine ⟨b.ptr, b.cap, ?_, ?_, hk⟩
  · rw [h1, h2, h3]; rfl
  · rw [h2, h3]; exact hs.kept0 hk
theorem l3Least_two (g : Nat) (p q : Bool) (a b : Option Addr) (n c m d : Nat) (xs ys : List Int) (z : Int) (w : World) (h : RowB w g [⟨p, a, n, c, xs⟩, ⟨q, b, m, d, ys⟩]) (h1 : Sl w a n c xs) (h2 : Sl w b m d ys) (hx : BigOk p xs) (hy : BigOk q ys) (hz : z = minZ (sv p xs) (sv q ys)) :
    Calls Try.prog 69 #[.slice (some ⟨g, 0, none⟩) 2 2] w (BigV w.heap.size w z) := by
  have e := l3Least_any g ⟨p, a, n, c, xs⟩ [⟨q, b, m, d, ys⟩] w h (okB2 h1 h2 hx hy) (by simp)
  rw [pick2_lt] at e
  subst hz
  exact e
theorem l3Most_two (g : Nat) (p q : Bool) (a b : Option Addr) (n c m d : Nat) (xs ys : List Int) (z : Int) (w : World) (h : RowB w g [⟨p, a, n, c, xs⟩, ⟨q, b, m, d, ys⟩]) (h1 : Sl w a n c xs) (h2 : Sl w b m d ys) (hx : BigOk p xs) (hy : BigOk q ys) (hz : z = maxZ (sv p xs) (sv q ys)) :
    Calls Try.prog 68 #[.slice (some ⟨g, 0, none⟩) 2 2] w (BigV w.heap.size w z) := by
  have e := l3Most_any g ⟨p, a, n, c, xs⟩ [⟨q, b, m, d, ys⟩] w h (okB2 h1 h2 hx hy) (by simp)
  rw [pick2_gt] at e
  subst hz
  exact e
theorem leastOf_isBelow_two (g : Nat) (p q : Bool) (a b : Option Addr) (n c m d : Nat) (xs ys : List Int) (z : Int) (w : World) (h : RowB w g [⟨p, a, n, c, xs⟩, ⟨q, b, m, d, ys⟩]) (h1 : Sl w a n c xs) (h2 : Sl w b m d ys) (hx : BigOk p xs) (hy : BigOk q ys) (hz : z = minZ (sv p xs) (sv q ys)) :
    Calls Try.prog 67 #[.func (.func 54) #[] #[], .slice (some ⟨g, 0, none⟩) 2 2] w (BigN w z) := by
  have e := leastOf_isBelow g ⟨p, a, n, c, xs⟩ [⟨q, b, m, d, ys⟩] w h (okB2 h1 h2 hx hy) (by simp)
  have hm : pickF ltZ ⟨p, a, n, c, xs⟩ [⟨q, b, m, d, ys⟩] ∈ [(⟨p, a, n, c, xs⟩ : BE), ⟨q, b, m, d, ys⟩] := by
    rcases pick_mem ltZ [⟨q, b, m, d, ys⟩] ⟨p, a, n, c, xs⟩ with h | h
    · rw [h]; exact List.mem_cons_self
    · exact List.mem_cons_of_mem _ h
  have hz' : z = (pickF ltZ ⟨p, a, n, c, xs⟩ [⟨q, b, m, d, ys⟩]).z := by rw [pick2_lt]; exact hz
  subst hz'
  exact e.mono fun e9 w9 h9 => bigN_of hm (okB2 h1 h2 hx hy) h9
theorem leastOf_isAbove_two (g : Nat) (p q : Bool) (a b : Option Addr) (n c m d : Nat) (xs ys : List Int) (z : Int) (w : World) (h : RowB w g [⟨p, a, n, c, xs⟩, ⟨q, b, m, d, ys⟩]) (h1 : Sl w a n c xs) (h2 : Sl w b m d ys) (hx : BigOk p xs) (hy : BigOk q ys) (hz : z = maxZ (sv p xs) (sv q ys)) :
    Calls Try.prog 67 #[.func (.func 57) #[] #[], .slice (some ⟨g, 0, none⟩) 2 2] w (BigN w z) := by
  have e := leastOf_isAbove g ⟨p, a, n, c, xs⟩ [⟨q, b, m, d, ys⟩] w h (okB2 h1 h2 hx hy) (by simp)
  have hm : pickF gtZ ⟨p, a, n, c, xs⟩ [⟨q, b, m, d, ys⟩] ∈ [(⟨p, a, n, c, xs⟩ : BE), ⟨q, b, m, d, ys⟩] := by
    rcases pick_mem gtZ [⟨q, b, m, d, ys⟩] ⟨p, a, n, c, xs⟩ with h | h
    · rw [h]; exact List.mem_cons_self
    · exact List.mem_cons_of_mem _ h
  have hz' : z = (pickF gtZ ⟨p, a, n, c, xs⟩ [⟨q, b, m, d, ys⟩]).z := by rw [pick2_gt]; exact hz
  subst hz'
  exact e.mono fun e9 w9 h9 => bigN_of hm (okB2 h1 h2 hx hy) h9

set_option maxHeartbeats 8000000 in
set_option maxRecDepth 20000 in
theorem l3Hull_any (p q : Bool) (a b : Option Addr) (n c m d : Nat) (xs ys : List Int) (p' q' : Bool) (a' b' : Option Addr) (n' c' m' d' : Nat) (xs' ys' : List Int) (t1 t2 : Int) (w : World) (h1 : Sl w a n c xs) (h2 : Sl w b m d ys) (h3 : Sl w a' n' c' xs') (h4 : Sl w b' m' d' ys') (ox : SpanOk p xs q ys) (oy : SpanOk p' xs' q' ys') (hz1 : t1 = minZ (sv p xs) (sv p' xs')) (hz2 : t2 = maxZ (sv q ys) (sv q' ys')) :
    Calls Try.prog 66 #[.agg #[.bool p, .slice a n c, .bool q, .slice b m d], .agg #[.bool p', .slice a' n' c', .bool q', .slice b' m' d']] w (SpanV w t1 t2) := by
  have H1 := Lib.hid h1
  have H2 := Lib.hid h2
  have H3 := Lib.hid h3
  have H4 := Lib.hid h4
  clear h1 h2 h3 h4
  have B1 := Lib.hid ox.lo
  have B2 := Lib.hid ox.hi
  have B3 := Lib.hid oy.lo
  have B4 := Lib.hid oy.hi
  have HZ1 := Lib.hid hz1
  have HZ2 := Lib.hid hz2
  clear hz1 hz2 ox oy
  have F1 := Lib.hid H1.out.lt
  have F2 := Lib.hid H2.out.lt
  have F3 := Lib.hid H3.out.lt
  have F4 := Lib.hid H4.out.lt
  go_enter Try.func66, Try.ntmps66
  go_upto_region 1 with fail
  generalize hW : (((w.alloc (.cells #[.bool p, .slice a n c, .bool q, .slice b m d] 31)).alloc (.cells #[.bool p', .slice a' n' c', .bool q', .slice b' m' d'] 31)).alloc (.cells #[.bool false, .slice none 0 0, .bool false, .slice none 0 0] 31)) = ww0
  have hkk : Kept [] (((w.alloc (.cells #[.bool p, .slice a n c, .bool q, .slice b m d] 31)).alloc (.cells #[.bool p', .slice a' n' c', .bool q', .slice b' m' d'] 31)).alloc (.cells #[.bool false, .slice none 0 0, .bool false, .slice none 0 0] 31)) ww0 := by rw [hW]; exact Kept.refl _ _
  have zzA : w.heap.size + 1 + 1 + 1 = ww0.heap.size := by rw [← hW]; simp
  have nA0 := Lib.hid (hkk.peel.peel.top (g := w.heap.size) (by simp) (by simp) 0 (v := .bool p) rfl).1
  have nA1 := Lib.hid (hkk.peel.peel.top (g := w.heap.size) (by simp) (by simp) 1 (v := .slice a n c) rfl).1
  have nA2 := Lib.hid (hkk.peel.peel.top (g := w.heap.size) (by simp) (by simp) 2 (v := .bool q) rfl).1
  have nA3 := Lib.hid (hkk.peel.peel.top (g := w.heap.size) (by simp) (by simp) 3 (v := .slice b m d) rfl).1
  have nB0 := Lib.hid (hkk.peel.top (g := w.heap.size + 1) (by simp) (by simp) 0 (v := .bool p') rfl).1
  have nB1 := Lib.hid (hkk.peel.top (g := w.heap.size + 1) (by simp) (by simp) 1 (v := .slice a' n' c') rfl).1
  have nB2 := Lib.hid (hkk.peel.top (g := w.heap.size + 1) (by simp) (by simp) 2 (v := .bool q') rfl).1
  have nB3 := Lib.hid (hkk.peel.top (g := w.heap.size + 1) (by simp) (by simp) 3 (v := .slice b' m' d') rfl).1
  have nR0 := Lib.hid (hkk.top (g := w.heap.size + 1 + 1) (by simp) (by simp) 0 (v := .bool false) rfl).1
  have fR0 := Lib.hid (hkk.top (g := w.heap.size + 1 + 1) (by simp) (by simp) 0 (v := .bool false) rfl).2.1
  have nR1 := Lib.hid (hkk.top (g := w.heap.size + 1 + 1) (by simp) (by simp) 1 (v := .slice none 0 0) rfl).1
  have fR1 := Lib.hid (hkk.top (g := w.heap.size + 1 + 1) (by simp) (by simp) 1 (v := .slice none 0 0) rfl).2.1
  have nR2 := Lib.hid (hkk.top (g := w.heap.size + 1 + 1) (by simp) (by simp) 2 (v := .bool false) rfl).1
  have fR2 := Lib.hid (hkk.top (g := w.heap.size + 1 + 1) (by simp) (by simp) 2 (v := .bool false) rfl).2.1
  have nR3 := Lib.hid (hkk.top (g := w.heap.size + 1 + 1) (by simp) (by simp) 3 (v := .slice none 0 0) rfl).1
  have fR3 := Lib.hid (hkk.top (g := w.heap.size + 1 + 1) (by simp) (by simp) 3 (v := .slice none 0 0) rfl).2.1
  have hk := hkk.peel.peel.peel
  clear hkk hW
  have z0 := hk.size
  have KT := Lib.hid hk
  clear hk
  replace H1 := Lib.hid (H1.out.kept0 KT.out)
  replace H2 := Lib.hid (H2.out.kept0 KT.out)
  replace H3 := Lib.hid (H3.out.kept0 KT.out)
  replace H4 := Lib.hid (H4.out.kept0 KT.out)
  have tA0 := nA0.out
  have tA1 := nA1.out
  have tA2 := nA2.out
  have tA3 := nA3.out
  have tB0 := nB0.out
  have tB1 := nB1.out
  have tB2 := nB2.out
  have tB3 := nB3.out
  have kr := Lib.hid (Kept.refl [w.heap.size + 1 + 1] ww0)
  go_region_held3 (fun w' => w'.cell? ⟨w.heap.size, 0, none⟩ = some (.bool p) ∧ w'.cell? ⟨w.heap.size, 1, none⟩ = some (.slice a n c) ∧ w'.cell? ⟨w.heap.size, 2, none⟩ = some (.bool q) ∧ w'.cell? ⟨w.heap.size, 3, none⟩ = some (.slice b m d) ∧ w'.cell? ⟨w.heap.size + 1, 0, none⟩ = some (.bool p') ∧ w'.cell? ⟨w.heap.size + 1, 1, none⟩ = some (.slice a' n' c') ∧ w'.cell? ⟨w.heap.size + 1, 2, none⟩ = some (.bool q') ∧ w'.cell? ⟨w.heap.size + 1, 3, none⟩ = some (.slice b' m' d') ∧ Hid (Kept [w.heap.size + 1 + 1] ww0 w'))
    ((go_split_ands; (try refine ⟨?_, ?_, ?_, ?_, ?_, ?_, ?_, ?_, ?_⟩) <;> with_reducible first | assumption | exact Kept.set4 (by assumption) | exact cell_set4 (by assumption) (by simp <;> omega) | exact drew_alloc_cell (by assumption) | exact drew_alloc_cell2 (by assumption) | exact drew_cell (by assumption) | exact alloc_cell (by assumption) | exact Lib.hid (Kept.trans0 (Hid.out (by assumption)) (by assumption)) | exact Kept.cell (by assumption) (by assumption) (by simp) | exact Kept.allocH (by assumption) | exact Kept.drewAlloc2H (by assumption) | exact Kept.drewAllocH (by assumption) | exact Kept.drewH (by assumption)))
    (first
      | (go_at_call 69; go_split_ands; refine (l3Least_two _ _ _ _ _ _ _ _ _ _ _ _ _ (by first | assumption | exact rowB2_at rfl (by simp) | exact RowB.drew (rowB2_at rfl (by simp)) | exact RowB.alloc (rowB2_at rfl (by simp)) _ | exact RowB.drew (RowB.alloc (rowB2_at rfl (by simp)) _)) (H1.out.kept (Hid.out (by assumption)) (fun hn y hy hm => by have h9 := F1.out hn y hy; simp at hm; omega)) (H3.out.kept (Hid.out (by assumption)) (fun hn y hy hm => by have h9 := F3.out hn y hy; simp at hm; omega)) B1.out B3.out HZ1.out).mono ?_; rintro e v1 ⟨a1, c1, rfl, hs1, hf1, hk1⟩; have hf1 := hf1.mono (B' := ww0.heap.size) (Hid.out (by assumption : Hid (Kept [w.heap.size + 1 + 1] ww0 _))).size; have k1 : Kept [] ww0 v1 := Kept.trans0 (by with_reducible repeat (first | exact Kept.refl _ _ | refine Kept.drew ?_ | refine Kept.alloc ?_ _)) hk1; (first | (have rw2 : RowB v1 (ww0.heap.size + 1) [⟨q, b, m, d, ys⟩, ⟨q', b', m', d', ys'⟩] := (by first | exact RowB.kept (rowB2_at rfl (by simp)) hk1 (by simp) | exact RowB.kept (RowB.drew (rowB2_at rfl (by simp))) hk1 (by simp))) | (have rw2 : RowB v1 (ww0.heap.size) [⟨q, b, m, d, ys⟩, ⟨q', b', m', d', ys'⟩] := (by first | exact RowB.kept (RowB.alloc (rowB2_at rfl (by simp)) _) hk1 (by simp) | exact RowB.kept (RowB.drew (RowB.alloc (rowB2_at rfl (by simp)) _)) hk1 (by simp))) | skip))
      | (go_at_call 68; go_split_ands; refine (l3Most_two _ _ _ _ _ _ _ _ _ _ _ _ _ (by first | assumption | exact rowB2_at rfl (by simp) | exact RowB.drew (rowB2_at rfl (by simp)) | exact RowB.alloc (rowB2_at rfl (by simp)) _ | exact RowB.drew (RowB.alloc (rowB2_at rfl (by simp)) _)) (H2.out.kept (Hid.out (by assumption)) (fun hn y hy hm => by have h9 := F2.out hn y hy; simp at hm; omega)) (H4.out.kept (Hid.out (by assumption)) (fun hn y hy hm => by have h9 := F4.out hn y hy; simp at hm; omega)) B2.out B4.out HZ2.out).mono ?_; rintro e v2 ⟨a2, c2, rfl, hs2, hf2, hk2⟩; have hf2 := hf2.mono (B' := ww0.heap.size) (Hid.out (by assumption : Hid (Kept [w.heap.size + 1 + 1] ww0 _))).size; have k12 : Kept [] v1 v2 := Kept.trans0 (by with_reducible repeat (first | exact Kept.refl _ _ | refine Kept.drew ?_ | refine Kept.alloc ?_ _)) hk2; have k2 : Kept [] ww0 v2 := k1.trans0 k12; have rg0 := k2.cell (p := ⟨w.heap.size + 1 + 1, 0, none⟩) nR0.out (by simp); have rg1 := k2.cell (p := ⟨w.heap.size + 1 + 1, 1, none⟩) nR1.out (by simp); have rg2 := k2.cell (p := ⟨w.heap.size + 1 + 1, 2, none⟩) nR2.out (by simp); have rg3 := k2.cell (p := ⟨w.heap.size + 1 + 1, 3, none⟩) nR3.out (by simp); have ru0 := k2.free' (p := ⟨w.heap.size + 1 + 1, 0, none⟩) nR0.out fR0.out (by simp); have ru1 := k2.free' (p := ⟨w.heap.size + 1 + 1, 1, none⟩) nR1.out fR1.out (by simp); have ru2 := k2.free' (p := ⟨w.heap.size + 1 + 1, 2, none⟩) nR2.out fR2.out (by simp); have ru3 := k2.free' (p := ⟨w.heap.size + 1 + 1, 3, none⟩) nR3.out fR3.out (by simp)))
  all_goals (clear tA0 tA1 tA2 tA3 tB0 tB1 tB2 tB3)
  all_goals
    have hs1 := hs1.kept0 k12
    have hk := k2
    have z1 := hk.size
    replace fR0 := Lib.hid (hk.free' (p := ⟨w.heap.size + 1 + 1, 0, none⟩) nR0.out fR0.out (by simp))
    replace fR1 := Lib.hid (hk.free' (p := ⟨w.heap.size + 1 + 1, 1, none⟩) nR1.out fR1.out (by simp))
    replace fR2 := Lib.hid (hk.free' (p := ⟨w.heap.size + 1 + 1, 2, none⟩) nR2.out fR2.out (by simp))
    replace fR3 := Lib.hid (hk.free' (p := ⟨w.heap.size + 1 + 1, 3, none⟩) nR3.out fR3.out (by simp))
    replace nA0 := Lib.hid (hk.cell (p := ⟨w.heap.size, 0, none⟩) nA0.out (by simp))
    replace nA1 := Lib.hid (hk.cell (p := ⟨w.heap.size, 1, none⟩) nA1.out (by simp))
    replace nA2 := Lib.hid (hk.cell (p := ⟨w.heap.size, 2, none⟩) nA2.out (by simp))
    replace nA3 := Lib.hid (hk.cell (p := ⟨w.heap.size, 3, none⟩) nA3.out (by simp))
    replace nB0 := Lib.hid (hk.cell (p := ⟨w.heap.size + 1, 0, none⟩) nB0.out (by simp))
    replace nB1 := Lib.hid (hk.cell (p := ⟨w.heap.size + 1, 1, none⟩) nB1.out (by simp))
    replace nB2 := Lib.hid (hk.cell (p := ⟨w.heap.size + 1, 2, none⟩) nB2.out (by simp))
    replace nB3 := Lib.hid (hk.cell (p := ⟨w.heap.size + 1, 3, none⟩) nB3.out (by simp))
    replace nR0 := Lib.hid (hk.cell (p := ⟨w.heap.size + 1 + 1, 0, none⟩) nR0.out (by simp))
    replace nR1 := Lib.hid (hk.cell (p := ⟨w.heap.size + 1 + 1, 1, none⟩) nR1.out (by simp))
    replace nR2 := Lib.hid (hk.cell (p := ⟨w.heap.size + 1 + 1, 2, none⟩) nR2.out (by simp))
    replace nR3 := Lib.hid (hk.cell (p := ⟨w.heap.size + 1 + 1, 3, none⟩) nR3.out (by simp))
    replace H1 := Lib.hid (H1.out.kept0 hk)
    replace H2 := Lib.hid (H2.out.kept0 hk)
    replace H3 := Lib.hid (H3.out.kept0 hk)
    replace H4 := Lib.hid (H4.out.kept0 hk)
    replace KT := Lib.hid (KT.out.trans0 hk)
    clear hk
    have hs1 := Lib.hid hs1
    have hs2 := Lib.hid hs2
    have G1 := Lib.hid (hf1.mono (B' := w.heap.size + 1 + 1 + 1) (by omega))
    have G2 := Lib.hid (hf2.mono (B' := w.heap.size + 1 + 1 + 1) (by omega))
    clear hf1 hf2
    obtain ⟨p9, hp9⟩ : ∃ r, r = isNeg t1 := ⟨_, rfl⟩
    obtain ⟨q9, hq9⟩ : ∃ r, r = isNeg t2 := ⟨_, rfl⟩
    rw [← hp9, ← hq9]
    generalize hW : ((((v2.setCell ⟨w.heap.size + 1 + 1, 0, none⟩ (.bool p9)).setCell ⟨w.heap.size + 1 + 1, 1, none⟩ (.slice a1 (mag t1).length c1)).setCell ⟨w.heap.size + 1 + 1, 2, none⟩ (.bool q9)).setCell ⟨w.heap.size + 1 + 1, 3, none⟩ (.slice a2 (mag t2).length c2)) = ww2
    have hk : Kept [w.heap.size + 1 + 1] v2 ww2 := by rw [← hW]; exact ((((Kept.refl _ _).setCell _ _ (by simp)).setCell _ _ (by simp)).setCell _ _ (by simp)).setCell _ _ (by simp)
    have hfz : ∀ x, ww2.frozen? x = v2.frozen? x := by rw [← hW]; intro x; simp only [World.frozen?_setCell]
    have e0 : ww2.cell? ⟨w.heap.size + 1 + 1, 0, none⟩ = some (.bool p9) := by rw [← hW]; rw [World.cell?_setCell_other _ _ _ _ (by simp), World.cell?_setCell_other _ _ _ _ (by simp), World.cell?_setCell_other _ _ _ _ (by simp)]; exact World.cell?_setCell_same _ _ _ (by exact nR0.out)
    have e1 : ww2.cell? ⟨w.heap.size + 1 + 1, 1, none⟩ = some (.slice a1 (mag t1).length c1) := by rw [← hW]; rw [World.cell?_setCell_other _ _ _ _ (by simp), World.cell?_setCell_other _ _ _ _ (by simp)]; exact World.cell?_setCell_same _ _ _ (by rw [World.cell?_setCell_other _ _ _ _ (by simp)]; exact nR1.out)
    have e2 : ww2.cell? ⟨w.heap.size + 1 + 1, 2, none⟩ = some (.bool q9) := by rw [← hW]; rw [World.cell?_setCell_other _ _ _ _ (by simp)]; exact World.cell?_setCell_same _ _ _ (by rw [World.cell?_setCell_other _ _ _ _ (by simp), World.cell?_setCell_other _ _ _ _ (by simp)]; exact nR2.out)
    have e3 : ww2.cell? ⟨w.heap.size + 1 + 1, 3, none⟩ = some (.slice a2 (mag t2).length c2) := by rw [← hW]; exact World.cell?_setCell_same _ _ _ (by rw [World.cell?_setCell_other _ _ _ _ (by simp), World.cell?_setCell_other _ _ _ _ (by simp), World.cell?_setCell_other _ _ _ _ (by simp)]; exact nR3.out)
    have z2 := hk.size
    replace fR0 := Lib.hid (show ww2.frozen? ⟨w.heap.size + 1 + 1, 0, none⟩ = false by rw [hfz]; exact fR0.out)
    replace fR1 := Lib.hid (show ww2.frozen? ⟨w.heap.size + 1 + 1, 1, none⟩ = false by rw [hfz]; exact fR1.out)
    replace fR2 := Lib.hid (show ww2.frozen? ⟨w.heap.size + 1 + 1, 2, none⟩ = false by rw [hfz]; exact fR2.out)
    replace fR3 := Lib.hid (show ww2.frozen? ⟨w.heap.size + 1 + 1, 3, none⟩ = false by rw [hfz]; exact fR3.out)
    replace nA0 := Lib.hid (hk.cell (p := ⟨w.heap.size, 0, none⟩) nA0.out (by simp <;> omega))
    replace nA1 := Lib.hid (hk.cell (p := ⟨w.heap.size, 1, none⟩) nA1.out (by simp <;> omega))
    replace nA2 := Lib.hid (hk.cell (p := ⟨w.heap.size, 2, none⟩) nA2.out (by simp <;> omega))
    replace nA3 := Lib.hid (hk.cell (p := ⟨w.heap.size, 3, none⟩) nA3.out (by simp <;> omega))
    replace nB0 := Lib.hid (hk.cell (p := ⟨w.heap.size + 1, 0, none⟩) nB0.out (by simp <;> omega))
    replace nB1 := Lib.hid (hk.cell (p := ⟨w.heap.size + 1, 1, none⟩) nB1.out (by simp <;> omega))
    replace nB2 := Lib.hid (hk.cell (p := ⟨w.heap.size + 1, 2, none⟩) nB2.out (by simp <;> omega))
    replace nB3 := Lib.hid (hk.cell (p := ⟨w.heap.size + 1, 3, none⟩) nB3.out (by simp <;> omega))
    replace H1 := Lib.hid (H1.out.kept hk (fun hn y hy hm => by have h9 := F1.out hn y hy; simp at hm; omega))
    replace H2 := Lib.hid (H2.out.kept hk (fun hn y hy hm => by have h9 := F2.out hn y hy; simp at hm; omega))
    replace H3 := Lib.hid (H3.out.kept hk (fun hn y hy hm => by have h9 := F3.out hn y hy; simp at hm; omega))
    replace H4 := Lib.hid (H4.out.kept hk (fun hn y hy hm => by have h9 := F4.out hn y hy; simp at hm; omega))
    replace hs1 := Lib.hid (hs1.out.kept hk (fun hn y hy hm => by have h9 := G1.out hn y hy; simp at hm; omega))
    replace hs2 := Lib.hid (hs2.out.kept hk (fun hn y hy hm => by have h9 := G2.out hn y hy; simp at hm; omega))
    replace nR0 := Lib.hid e0
    replace nR1 := Lib.hid e1
    replace nR2 := Lib.hid e2
    replace nR3 := Lib.hid e3
    replace KT := Lib.hid (KT.out.trans hk (fun x hx hlt => by simp at hx; omega))
    clear hk hfz hW e0 e1 e2 e3
    have HP := Lib.hid hp9
    have HQ := Lib.hid hq9
    clear hp9 hq9
    go_wp2_with fail
    have e0 := nR0.out
    have e1 := nR1.out
    have e2 := nR2.out
    have e3 := nR3.out
    refine bodyPost_ret (v := .agg #[.bool p9, .slice a1 (mag t1).length c1, .bool q9, .slice a2 (mag t2).length c2]) (by simp [results, Try.results66, go_sem, e0, e1, e2, e3]) rfl ?_
    exact spanV_fin HP.out HQ.out hs1.out hs2.out (G1.out.mono (by omega)) (G2.out.mono (by omega)) KT.out

open Go.RowKit

set_option maxHeartbeats 1000000 in
theorem isPrecision_any (P : Int) (w : World) : Calls Try.prog 75 #[.int .i64 P] w (Ans w (.bool (isP P))) := by
  unfold isP
  by_cases h1 : P = 48
  · subst h1
    go_enter Try.func75, Try.ntmps75
    go_wp2
    go_ret
    exact ⟨rfl, Kept.refl _ _⟩
  · by_cases h2 : P = 72
    · subst h2
      go_enter Try.func75, Try.ntmps75
      go_wp2
      go_ret
      exact ⟨rfl, Kept.refl _ _⟩
    · by_cases h3 : P = 96
      · subst h3
        go_enter Try.func75, Try.ntmps75
        go_wp2
        go_ret
        exact ⟨rfl, Kept.refl _ _⟩
      · have e1 : (P == 48) = false := by simpa using h1
        have e2 : (P == 72) = false := by simpa using h2
        have e3 : (P == 96) = false := by simpa using h3
        have HE := Lib.hid (show decide (P = 48 ∨ P = 72 ∨ P = 96) = false from decide_eq_false (by omega))
        clear h1 h2 h3
        go_enter Try.func75, Try.ntmps75
        go_wp2
        go_ret
        exact ⟨by rw [HE.out] <;> rfl, Kept.refl _ _⟩
set_option maxHeartbeats 1000000 in
theorem l3Prec_any (P : Int) (w : World) : Calls Try.prog 71 #[.int .i64 P] w (Ans w (.bool (isP P))) := by
  unfold isP
  by_cases h1 : P = 48
  · subst h1
    go_enter Try.func71, Try.ntmps71
    go_wp2
    go_ret
    exact ⟨rfl, Kept.refl _ _⟩
  · by_cases h2 : P = 72
    · subst h2
      go_enter Try.func71, Try.ntmps71
      go_wp2
      go_ret
      exact ⟨rfl, Kept.refl _ _⟩
    · by_cases h3 : P = 96
      · subst h3
        go_enter Try.func71, Try.ntmps71
        go_wp2
        go_ret
        exact ⟨rfl, Kept.refl _ _⟩
      · have e1 : (P == 48) = false := by simpa using h1
        have e2 : (P == 72) = false := by simpa using h2
        have e3 : (P == 96) = false := by simpa using h3
        have HE := Lib.hid (show decide (P = 48 ∨ P = 72 ∨ P = 96) = false from decide_eq_false (by omega))
        clear h1 h2 h3
        go_enter Try.func71, Try.ntmps71
        go_wp2
        go_ret
        exact ⟨by rw [HE.out] <;> rfl, Kept.refl _ _⟩

set_option maxHeartbeats 1000000 in
theorem l3Bits_72 (w : World) : Calls Try.prog 129 #[.int .i64 72] w (Ans w (.int .i64 256)) := by
  go_enter Try.func129, Try.ntmps129
  go_wp2
  go_loopw [0, 3] (fun p l wr => ∃ (k : Nat) (v : Int), k ≤ 8 ∧ p = .int .i64 (8 - (k : Int)) ∧ l = .int .i64 v ∧ 1 ≤ v ∧ v ≤ 256 ∧ Hid (v = p2 k) ∧ wr = w) (fun p _ _ => (intOf p).toNat)
  case atStart => exact ⟨0, 1, by omega, rfl, rfl, by omega, by omega, rfl, rfl⟩
  case round =>
    obtain ⟨k, v, hk, rfl, rfl, hv1, hv2, hv, rfl⟩ := hrel
    by_cases hlt : k < 8
    · have hv3 : v ≤ 128 := by
        have h1 := p2_mono k 7 (by omega)
        have h2 : p2 7 = 128 := rfl
        have := hv.out
        omega
      have e1 : IntKind.i64.wrap (v * 2) = v * 2 := IntWalk.i64_in _ (by omega)
      have e2 : IntKind.i64.wrap (8 - (k : Int) - 1) = 8 - (k : Int) - 1 := IntWalk.i64_in _ (by omega)
      have HV2 : Hid (v * 2 = p2 (k + 1)) := by
        show v * 2 = 2 * p2 k
        rw [hv.out]; omega
      have hg : (0 : Int) < 8 - (k : Int) := by omega
      go_wp2
      go_roundw
      case rel => exact ⟨k + 1, v * 2, by omega, by congr 1; omega, rfl, by omega, by omega, HV2, trivial⟩
      case measure => simp [intOf]; omega
    · obtain rfl : k = 8 := by omega
      have h2 : v = 256 := hv.out
      subst h2
      go_wp2
      go_ret
      exact ⟨rfl, Kept.refl _ _⟩

theorem make_run (k : Nat) (hk : k ≤ 1000) (w : World) : Sem.run Try.prog (Instr.makeSlice 22 (.int .i64 (k : Int)) (.int .i64 (k : Int))) w = .ok (.slice (some ⟨w.heap.size, 0, none⟩) k k) (w.alloc (.cells (ints (List.replicate k 0)) 2)) := by
  obtain ⟨i0, hi, hz0, hz1, hz2⟩ := info_parts Try.info64
  have h := run_make_row (P := Try.prog) 22 2 i0 (.int .i64 0) Try.underlying22 hi hz0 hz1 rfl .i64 .i64 k (by rw [hz2]; omega) (by omega) w
  rw [made_zeros] at h
  exact h
theorem ow_lit (B : Nat) (w : World) (l : List Int) (hB : B ≤ w.heap.size) (hl : l.length ≤ 1000) : Ow B (w.alloc (.cells (ints l) 2)) (.slice (some ⟨w.heap.size, 0, none⟩) l.length l.length) l := by
  have h := World.ownsRow_lit (base := B) (e := 2) (size := 1) w (ints l) l.length hB (by unfold maxLen; omega) (by simp [ints])
  exact h
theorem canon_zeros {xs : List Int} (k : Nat) (hx : Nat40 xs) (hn : xs.length ≠ 0) : List.replicate k 0 ++ xs = digits (val xs * pw k) := by
  have h1 : AllLimbs (List.replicate k 0 ++ xs) := (AllLimbs.zeros k).append hx.limb
  have hv : val (List.replicate k 0 ++ xs) = val xs * pw k := by
    rw [val_append, ap_pw, val_zeros, List.length_replicate, Int.mul_comm]; omega
  rw [← hv]
  refine digits_of_limbs h1 (fun _ => ?_)
  have ht := hx.top (by omega)
  rw [List.getD_eq_getElem?_getD, List.getElem?_append_right (by simp; omega)] 
  simp only [List.length_append, List.length_replicate] at *
  rw [show k + xs.length - 1 - k = xs.length - 1 by omega]
  rw [List.getD_eq_getElem?_getD] at ht
  exact ht
set_option maxHeartbeats 2000000 in
set_option maxRecDepth 20000 in
theorem l3Shift_any (P : Int) (a : Option Addr) (n c : Nat) (xs : List Int) (w : World) (hP : isP P = true) (h : Sl w a n c xs) (hx : Nat40 xs) (lx : xs.length ≤ 20) :
    Calls Try.prog 104 #[.int .i64 P, .slice a n c] w (SlR w (digits (val xs * p2 P.toNat))) := by
  have hl := h.1
  have HS := Lib.hid h
  have hbc : a = none → n = 0 ∧ c = 0 := fun e => by have := h.2.2.2.1 e; have := h.2.1; omega
  have HBC := Lib.hid hbc
  clear h hbc
  by_cases hn : n = 0
  · have hxs : xs = [] := List.eq_nil_of_length_eq_zero (by omega)
    have hd : digits (val xs * p2 P.toNat) = [] := by rw [hxs]; simp [val, digits_zero]
    rw [hd]
    subst hn
    clear hd hxs hl HS HBC
    go_enter Try.func104, Try.ntmps104
    go_wp2
    go_ret
    exact ⟨_, rfl, Ow.empty _ w (Nat.le_refl _), (Kept.refl [] w).alloc _⟩
  · have hn0 : ((n : Int) == 0) = false := by rw [beq_eq_false_iff_ne]; omega
    rcases isP_cases hP with rfl | rfl | rfl
    · have hd : digits (val xs * p2 (48 : Int).toNat) = List.replicate 3 0 ++ xs := by
        rw [canon_zeros 3 hx (by omega), pw_p2 3, show (48 : Int).toNat = 16 * 3 from rfl]
      rw [hd]
      clear hd hP
      obtain ⟨zs, hzs⟩ : ∃ zs : List Int, zs = List.replicate 3 0 ++ xs := ⟨_, rfl⟩
      rw [← hzs]
      have HZS := Lib.hid hzs
      clear hzs
      have hmk : ∀ w : World, Sem.run Try.prog (Instr.makeSlice 22 (.int .i64 3) (.int .i64 3)) w = .ok (.slice (some ⟨w.heap.size, 0, none⟩) 3 3) (w.alloc (.cells (ints (List.replicate 3 0)) 2)) := make_run 3 (by omega)
      go_enter Try.func104, Try.ntmps104
      go_wp2_with (at_builtin; refine appS rfl _ _ rfl w.heap.size _ (List.replicate 3 0) rfl (ow_lit _ w (List.replicate 3 0) (Nat.le_refl _) (by simp)) a n c xs rfl (HS.out.rd.kept0 ((Kept.refl [] w).alloc _)) HBC.out (by simp; omega) (by simp) ?_; intro v9 w1 hown hgr)
      have hkk : Kept [] w w1 := Kept.grown ((Kept.refl [] w).alloc _) hgr (fun k hk hlt => by have e : some w.heap.size = some k := hk; cases e; omega)
      go_ret
      exact ⟨_, rfl, by rw [HZS.out]; exact hown, hkk⟩
    · have hd : digits (val xs * p2 (72 : Int).toNat) = digits (val (List.replicate 4 0 ++ xs) * val [256]) := by
        have hv : val (List.replicate 4 0 ++ xs) = val xs * pw 4 := by
          rw [val_append, ap_pw, val_zeros, List.length_replicate, Int.mul_comm]; omega
        rw [hv, show (72 : Int).toNat = 16 * 4 + 8 from rfl, p2_add, ← pw_p2 4, show val [256] = p2 8 from rfl, Int.mul_assoc]
      rw [hd]
      clear hd hP
      obtain ⟨zs, hzs⟩ : ∃ zs : List Int, zs = List.replicate 4 0 ++ xs := ⟨_, rfl⟩
      rw [← hzs]
      have hzl : zs.length = 4 + n := by rw [hzs]; simp; omega
      have hza : AllLimbs zs := by rw [hzs]; exact (AllLimbs.zeros 4).append hx.limb
      have HZS := Lib.hid hzs
      have HZA := Lib.hid hza
      have HZL := Lib.hid hzl
      clear hzs hza hzl
      obtain ⟨v, hv⟩ : ∃ v : List Int, v = digits (val zs * val [256]) := ⟨_, rfl⟩
      rw [← hv]
      have HV := Lib.hid hv
      clear hv
      have hmk : ∀ w : World, Sem.run Try.prog (Instr.makeSlice 22 (.int .i64 4) (.int .i64 4)) w = .ok (.slice (some ⟨w.heap.size, 0, none⟩) 4 4) (w.alloc (.cells (ints (List.replicate 4 0)) 2)) := make_run 4 (by omega)
      have h256 : AllLimbs [256] := fun i hi => by
        have : i = 0 := by simpa using hi
        subst this; simp
      go_enter Try.func104, Try.ntmps104
      go_wp2_with (at_builtin; refine appS rfl _ _ rfl w.heap.size _ (List.replicate 4 0) rfl (ow_lit _ w (List.replicate 4 0) (Nat.le_refl _) (by simp)) a n c xs rfl (HS.out.rd.kept0 ((Kept.refl [] w).alloc _)) HBC.out (by simp; omega) (by simp) ?_; intro v9 w1 hown hgr)
      have hkk : Kept [] w w1 := Kept.grown ((Kept.refl [] w).alloc _) hgr (fun k hk hlt => by have e : some w.heap.size = some k := hk; cases e; omega)
      rw [← HZS.out] at hown
      obtain ⟨a9, c9, rfl, hS9, hF9⟩ := hown.sl
      have HK := Lib.hid hkk
      have HS9 := Lib.hid hS9
      clear hkk hS9 hF9 hown hgr
      refine (l3Bits_72 _).mono ?_
      rintro e w2 ⟨rfl, hk2⟩
      replace HS9 := Lib.hid (HS9.out.kept0 hk2)
      replace HK := Lib.hid (HK.out.trans0 hk2)
      clear hk2
      go_wp2_with fail
      refine (l1Mul_any _ _ _ _ _ _ _ _ _ (HS9.out.rd.kept0 ((Kept.refl [] w2).alloc _)) (Sl.ofBlk (Blk.new w2 [256]) (by simp)).rd HZA.out h256 (by have := HZL.out; omega) (by simp)).mono ?_
      rintro e w3 ⟨v3, rfl, ho3, hk3⟩
      rw [← HV.out] at ho3
      have HK3 := Lib.hid (HK.out.trans0 (((Kept.refl [] w2).alloc _).trans0 hk3))
      have HO3 := Lib.hid (ho3.mono (B' := w.heap.size) (by have := HK.out.size; simp; omega))
      clear ho3 hk3
      go_wp2_with fail
      go_ret
      exact ⟨_, rfl, HO3.out, HK3.out⟩
    · have hd : digits (val xs * p2 (96 : Int).toNat) = List.replicate 6 0 ++ xs := by
        rw [canon_zeros 6 hx (by omega), pw_p2 6, show (96 : Int).toNat = 16 * 6 from rfl]
      rw [hd]
      clear hd hP
      obtain ⟨zs, hzs⟩ : ∃ zs : List Int, zs = List.replicate 6 0 ++ xs := ⟨_, rfl⟩
      rw [← hzs]
      have HZS := Lib.hid hzs
      clear hzs
      have hmk : ∀ w : World, Sem.run Try.prog (Instr.makeSlice 22 (.int .i64 6) (.int .i64 6)) w = .ok (.slice (some ⟨w.heap.size, 0, none⟩) 6 6) (w.alloc (.cells (ints (List.replicate 6 0)) 2)) := make_run 6 (by omega)
      go_enter Try.func104, Try.ntmps104
      go_wp2_with (at_builtin; refine appS rfl _ _ rfl w.heap.size _ (List.replicate 6 0) rfl (ow_lit _ w (List.replicate 6 0) (Nat.le_refl _) (by simp)) a n c xs rfl (HS.out.rd.kept0 ((Kept.refl [] w).alloc _)) HBC.out (by simp; omega) (by simp) ?_; intro v9 w1 hown hgr)
      have hkk : Kept [] w w1 := Kept.grown ((Kept.refl [] w).alloc _) hgr (fun k hk hlt => by have e : some w.heap.size = some k := hk; cases e; omega)
      go_ret
      exact ⟨_, rfl, by rw [HZS.out]; exact hown, hkk⟩

open Go.RowKit

theorem MulBigs_z (p q : Bool) (a b : Option Addr) (n c m d : Nat) (xs ys : List Int) (z : Int) (w : World) (h : Sl w a n c xs) (h' : Sl w b m d ys) (hx : BigOk p xs) (hy : BigOk q ys) (hl : (mag z).length ≤ 40) (hz : z = sv p xs * sv q ys) :
    Calls Try.prog 85 #[.agg #[.bool p, .slice a n c], .agg #[.bool q, .slice b m d]] w (BigZ w z) := by
  have := MulBigs_any p q a b n c m d xs ys w h h'
  rw [mulB_z hx hy hl hz] at this
  exact this
theorem FloorDiv_z (p q : Bool) (a b : Option Addr) (n c m d : Nat) (xs ys : List Int) (z : Int) (w : World) (h : Sl w a n c xs) (h' : Sl w b m d ys) (hx : BigOk p xs) (hy : BigOk q ys) (hy0 : ys.length ≠ 0) (lx : xs.length ≤ 39) (hz : z = divZ false p q (val xs) (val ys)) :
    Calls Try.prog 77 #[.agg #[.bool p, .slice a n c], .agg #[.bool q, .slice b m d]] w (BigZ w z) := by
  have := FloorDiv_any p q a b n c m d xs ys w h h'
  rw [divB_z hx hy hy0 lx hz] at this
  exact this
theorem CeilDiv_z (p q : Bool) (a b : Option Addr) (n c m d : Nat) (xs ys : List Int) (z : Int) (w : World) (h : Sl w a n c xs) (h' : Sl w b m d ys) (hx : BigOk p xs) (hy : BigOk q ys) (hy0 : ys.length ≠ 0) (lx : xs.length ≤ 39) (hz : z = divZ true p q (val xs) (val ys)) :
    Calls Try.prog 78 #[.agg #[.bool p, .slice a n c], .agg #[.bool q, .slice b m d]] w (BigZ w z) := by
  have := CeilDiv_any p q a b n c m d xs ys w h h'
  rw [divB_z hx hy hy0 lx hz] at this
  exact this
attribute [local go_sem ↓] field_big
/-- A call that answers the units of 1. -/
def OneR (w : World) (k : Nat) (e : Ending) (w' : World) : Prop :=
  ∃ g, e = .returned (.agg #[.bool false, .slice (some ⟨g, 0, none⟩) (digits (p2 k)).length (digits (p2 k)).length]) ∧ w.heap.size ≤ g ∧ Blk w' g (digits (p2 k)) ∧ Kept [] w w'
set_option maxHeartbeats 2000000 in
set_option maxRecDepth 20000 in
theorem oneInUnits_any (k : Nat) (w : World) (hk : k ≤ 96) :
    Calls Try.prog 107 #[.int .i64 (k : Int)] w (OneR w k) := by
  obtain ⟨ds, hds⟩ : ∃ ds : List Int, ds = digits (p2 k) := ⟨_, rfl⟩
  unfold OneR
  rw [← hds]
  have HD := Lib.hid hds
  have hlen : ds.length ≤ 7 := by rw [hds]; exact p2_len hk
  clear hds
  go_enter Try.func107, Try.ntmps107
  go_wp2_with fail
  generalize hW : (w.alloc (.cells #[.bool false, .slice none 0 0] 29)) = ww0
  have hkk : Kept [] (w.alloc (.cells #[.bool false, .slice none 0 0] 29)) ww0 := by rw [hW]; exact Kept.refl _ _
  have zzA : w.heap.size + 1 = ww0.heap.size := by rw [← hW]; simp
  have nR0 := Lib.hid (hkk.top (g := w.heap.size) (by simp) (by simp) 0 (v := .bool false) rfl).1
  have fR0 := Lib.hid (hkk.top (g := w.heap.size) (by simp) (by simp) 0 (v := .bool false) rfl).2.1
  have nR1 := Lib.hid (hkk.top (g := w.heap.size) (by simp) (by simp) 1 (v := .slice none 0 0) rfl).1
  have fR1 := Lib.hid (hkk.top (g := w.heap.size) (by simp) (by simp) 1 (v := .slice none 0 0) rfl).2.1
  have hk := hkk.peel
  clear hkk hW
  have z0 := hk.size
  have KT := Lib.hid hk
  clear hk
  refine (powerOfTwo_any k _ (by omega)).mono ?_
  rintro e ww1 ⟨g1, rfl, hg, hb, hk1⟩
  rw [← HD.out] at hb ⊢
  have hk := hk1
  clear hk1
  have HB := Lib.hid hb
  clear hb
  have z1 := hk.size
  replace fR0 := Lib.hid (hk.free' (p := ⟨w.heap.size, 0, none⟩) nR0.out fR0.out (by simp))
  replace fR1 := Lib.hid (hk.free' (p := ⟨w.heap.size, 1, none⟩) nR1.out fR1.out (by simp))
  replace nR0 := Lib.hid (hk.cell (p := ⟨w.heap.size, 0, none⟩) nR0.out (by simp))
  replace nR1 := Lib.hid (hk.cell (p := ⟨w.heap.size, 1, none⟩) nR1.out (by simp))
  replace KT := Lib.hid (KT.out.trans0 hk)
  clear hk
  have tR0 := nR0.out
  have tR1 := nR1.out
  have uR0 := fR0.out
  have uR1 := fR1.out
  go_wp2_with fail
  clear tR0 tR1 uR0 uR1
  generalize hW : ((ww1.setCell ⟨w.heap.size, 0, none⟩ (.bool false)).setCell ⟨w.heap.size, 1, none⟩ (.slice (some ⟨g1, 0, none⟩) ds.length ds.length)) = ww2
  have hk : Kept [w.heap.size] ww1 ww2 := by rw [← hW]; exact ((Kept.refl _ _).setCell _ _ (by simp)).setCell _ _ (by simp)
  have hfz : ∀ x, ww2.frozen? x = ww1.frozen? x := by rw [← hW]; intro x; simp only [World.frozen?_setCell]
  have e0 : ww2.cell? ⟨w.heap.size, 0, none⟩ = some (.bool false) := by rw [← hW]; rw [World.cell?_setCell_other _ _ _ _ (by simp)]; exact World.cell?_setCell_same _ _ _ (by exact nR0.out)
  have e1 : ww2.cell? ⟨w.heap.size, 1, none⟩ = some (.slice (some ⟨g1, 0, none⟩) ds.length ds.length) := by rw [← hW]; exact World.cell?_setCell_same _ _ _ (by rw [World.cell?_setCell_other _ _ _ _ (by simp)]; exact nR1.out)
  have z2 := hk.size
  replace fR0 := Lib.hid (show ww2.frozen? ⟨w.heap.size, 0, none⟩ = false by rw [hfz]; exact fR0.out)
  replace fR1 := Lib.hid (show ww2.frozen? ⟨w.heap.size, 1, none⟩ = false by rw [hfz]; exact fR1.out)
  replace HB := Lib.hid (hk.blk HB.out (by simp <;> omega))
  replace nR0 := Lib.hid e0
  replace nR1 := Lib.hid e1
  replace KT := Lib.hid (KT.out.trans hk (fun x hx hlt => by simp at hx; omega))
  clear hk hfz hW e0 e1
  have e0 := nR0.out
  have e1 := nR1.out
  refine bodyPost_ret (v := .agg #[.bool false, .slice (some ⟨g1, 0, none⟩) ds.length ds.length]) (by simp [results, Try.results107, go_sem, e0, e1]) rfl ?_
  exact ⟨g1, rfl, by omega, HB.out, KT.out⟩

set_option maxHeartbeats 4000000 in
set_option maxRecDepth 20000 in
theorem inUnits_any (k : Nat) (p : Bool) (a : Option Addr) (n c : Nat) (xs : List Int) (u : Int) (w : World) (hk : k ≤ 96) (h : Sl w a n c xs) (hx : BigOk p xs) (hl : (mag u).length ≤ 40) (hu : u = sv p xs * p2 k) :
    Calls Try.prog 76 #[.int .i64 (k : Int), .agg #[.bool p, .slice a n c]] w (BigV w.heap.size w u) := by
  have HS := Lib.hid h
  have FS := Lib.hid h.lt
  have HX := Lib.hid hx
  have HP := Lib.hid (p2_ok hk).1
  have HZ := Lib.hid (show u = sv p xs * sv false (digits (p2 k)) by rw [(p2_ok hk).2]; exact hu)
  have HU := Lib.hid hl
  clear h hx hu hl
  go_enter Try.func76, Try.ntmps76
  go_upto_region 1 with fail
  generalize hW : ((w.alloc (.cells #[.bool p, .slice a n c] 29)).alloc (.cells #[.bool false, .slice none 0 0] 29)) = ww0
  have hkk : Kept [] ((w.alloc (.cells #[.bool p, .slice a n c] 29)).alloc (.cells #[.bool false, .slice none 0 0] 29)) ww0 := by rw [hW]; exact Kept.refl _ _
  have zzA : w.heap.size + 1 + 1 = ww0.heap.size := by rw [← hW]; simp
  have nA0 := Lib.hid (hkk.peel.top (g := w.heap.size) (by simp) (by simp) 0 (v := .bool p) rfl).1
  have nA1 := Lib.hid (hkk.peel.top (g := w.heap.size) (by simp) (by simp) 1 (v := .slice a n c) rfl).1
  have nR0 := Lib.hid (hkk.top (g := w.heap.size + 1) (by simp) (by simp) 0 (v := .bool false) rfl).1
  have fR0 := Lib.hid (hkk.top (g := w.heap.size + 1) (by simp) (by simp) 0 (v := .bool false) rfl).2.1
  have nR1 := Lib.hid (hkk.top (g := w.heap.size + 1) (by simp) (by simp) 1 (v := .slice none 0 0) rfl).1
  have fR1 := Lib.hid (hkk.top (g := w.heap.size + 1) (by simp) (by simp) 1 (v := .slice none 0 0) rfl).2.1
  have hk := hkk.peel.peel
  clear hkk hW
  have z0 := hk.size
  have KT := Lib.hid hk
  clear hk
  replace HS := Lib.hid (HS.out.kept0 KT.out)
  have tA0 := nA0.out
  have tA1 := nA1.out
  go_region_held3 (fun w' => w'.cell? ⟨w.heap.size, 0, none⟩ = some (.bool p) ∧ w'.cell? ⟨w.heap.size, 1, none⟩ = some (.slice a n c) ∧ Hid (Kept [w.heap.size + 1] ww0 w'))
    ((go_split_ands; (try refine ⟨?_, ?_, ?_⟩) <;> with_reducible first | exact Kept.set2 (by assumption) | exact cell_set2 (by assumption) (by simp <;> omega) | exact Lib.hid ((Kept.refl _ _).drew) | exact drew_cell (by assumption) | exact Kept.allocH (by assumption) | exact alloc_cell (by assumption) | exact Lib.hid (Kept.trans0 (Hid.out (by assumption)) (by assumption)) | exact Kept.cell (by assumption) (by assumption) (by simp)))
    (first
      | (go_at_call 107; go_split_ands; refine (oneInUnits_any k _ hk).mono ?_; rintro e v1 ⟨g1, rfl, hg1, hb1, hk1⟩)
      | (go_at_call 85; go_split_ands; refine (MulBigs_z _ _ _ _ _ _ _ _ _ _ _ _ (HS.out.kept0 (((Kept.refl [] _).drew).trans0 hk1)) (sl_new hb1 rfl (by have := p2_len hk; omega)) HX.out HP.out HU.out HZ.out).mono ?_; rintro e v2 ⟨a2, c2, rfl, hs2, hf2, hk2⟩; have z12 := hk1.size; simp only [World.size_drew] at z12; have hkr := (((Kept.refl [] ww0).drew).trans0 hk1).trans0 hk2; have rg0 := hkr.cell (p := ⟨w.heap.size + 1, 0, none⟩) nR0.out (by simp); have rg1 := hkr.cell (p := ⟨w.heap.size + 1, 1, none⟩) nR1.out (by simp); have ru0 := hkr.free' (p := ⟨w.heap.size + 1, 0, none⟩) nR0.out fR0.out (by simp); have ru1 := hkr.free' (p := ⟨w.heap.size + 1, 1, none⟩) nR1.out fR1.out (by simp)))
  clear tA0 tA1
  have hk := hkr
  clear hkr
  clear hb1 hk1 hk2
  have z1 := hk.size
  replace fR0 := Lib.hid (hk.free' (p := ⟨w.heap.size + 1, 0, none⟩) nR0.out fR0.out (by simp))
  replace fR1 := Lib.hid (hk.free' (p := ⟨w.heap.size + 1, 1, none⟩) nR1.out fR1.out (by simp))
  replace nA0 := Lib.hid (hk.cell (p := ⟨w.heap.size, 0, none⟩) nA0.out (by simp))
  replace nA1 := Lib.hid (hk.cell (p := ⟨w.heap.size, 1, none⟩) nA1.out (by simp))
  replace nR0 := Lib.hid (hk.cell (p := ⟨w.heap.size + 1, 0, none⟩) nR0.out (by simp))
  replace nR1 := Lib.hid (hk.cell (p := ⟨w.heap.size + 1, 1, none⟩) nR1.out (by simp))
  replace HS := Lib.hid (HS.out.kept0 hk)
  replace KT := Lib.hid (KT.out.trans0 hk)
  clear hk
  have hs2 := Lib.hid hs2
  have G2 := Lib.hid (hf2.mono (B' := w.heap.size + 1 + 1) (by omega))
  clear hf2
  generalize hW : ((v2.setCell ⟨w.heap.size + 1, 0, none⟩ (.bool (isNeg u))).setCell ⟨w.heap.size + 1, 1, none⟩ (.slice a2 (mag u).length c2)) = ww2
  have hk : Kept [w.heap.size + 1] v2 ww2 := by rw [← hW]; exact ((Kept.refl _ _).setCell _ _ (by simp)).setCell _ _ (by simp)
  have hfz : ∀ x, ww2.frozen? x = v2.frozen? x := by rw [← hW]; intro x; simp only [World.frozen?_setCell]
  have e0 : ww2.cell? ⟨w.heap.size + 1, 0, none⟩ = some (.bool (isNeg u)) := by rw [← hW]; rw [World.cell?_setCell_other _ _ _ _ (by simp)]; exact World.cell?_setCell_same _ _ _ (by exact nR0.out)
  have e1 : ww2.cell? ⟨w.heap.size + 1, 1, none⟩ = some (.slice a2 (mag u).length c2) := by rw [← hW]; exact World.cell?_setCell_same _ _ _ (by rw [World.cell?_setCell_other _ _ _ _ (by simp)]; exact nR1.out)
  have z2 := hk.size
  replace fR0 := Lib.hid (show ww2.frozen? ⟨w.heap.size + 1, 0, none⟩ = false by rw [hfz]; exact fR0.out)
  replace fR1 := Lib.hid (show ww2.frozen? ⟨w.heap.size + 1, 1, none⟩ = false by rw [hfz]; exact fR1.out)
  replace nA0 := Lib.hid (hk.cell (p := ⟨w.heap.size, 0, none⟩) nA0.out (by simp <;> omega))
  replace nA1 := Lib.hid (hk.cell (p := ⟨w.heap.size, 1, none⟩) nA1.out (by simp <;> omega))
  replace HS := Lib.hid (HS.out.kept hk (fun hn y hy hm => by have h9 := FS.out hn y hy; simp at hm; omega))
  replace hs2 := Lib.hid (hs2.out.kept hk (fun hn y hy hm => by have h9 := G2.out hn y hy; simp at hm; omega))
  replace nR0 := Lib.hid e0
  replace nR1 := Lib.hid e1
  replace KT := Lib.hid (KT.out.trans hk (fun x hx hlt => by simp at hx; omega))
  clear hk hfz hW e0 e1
  go_wp2_with fail
  have e0 := nR0.out
  have e1 := nR1.out
  refine bodyPost_ret (v := .agg #[.bool (isNeg u), .slice a2 (mag u).length c2]) (by simp [results, Try.results76, go_sem, e0, e1]) rfl ?_
  exact ⟨a2, c2, rfl, hs2.out, G2.out.mono (by omega), KT.out⟩

set_option maxHeartbeats 8000000 in
set_option maxRecDepth 20000 in
theorem RatSpan_any (P : Int) (p q : Bool) (a b : Option Addr) (n c m d : Nat) (xs ys : List Int) (w : World) (h : Sl w a n c xs) (h' : Sl w b m d ys) :
    Calls Try.prog 39 #[.int .i64 P, .agg #[.bool p, .slice a n c], .agg #[.bool q, .slice b m d]] w (SpanR w (ratS P p xs q ys)) := by
  have hL : xs.length = n := h.1
  have hM : ys.length = m := h'.1
  have HS := Lib.hid h
  have HS' := Lib.hid h'
  have FS := Lib.hid h.lt
  have FS' := Lib.hid h'.lt
  clear h h'
  by_cases hP : isP P = true
  · skip
    by_cases hz : bigFault2 p xs q ys = 0
    · by_cases hy0 : ys.length = 0
      · skip
        rw [show ratS P p xs q ys = noSpan 6 from by unfold ratS; rw [if_pos hP, twoS_zero hz, if_pos hy0]]
        have hm0 : ((m : Int) == 0) = true := by rw [beq_iff_eq]; omega
        have HZ := Lib.hid hz
        have HP := Lib.hid hP
        clear hz hP hy0 hM hL
        go_enter Try.func39, Try.ntmps39
        go_wp2_with fail
        generalize hW : (((w.alloc (.cells #[.bool p, .slice a n c] 29)).alloc (.cells #[.bool q, .slice b m d] 29)).alloc (.cells #[.int .i64 0, .bool false, .slice none 0 0, .bool false, .slice none 0 0] 38)) = ww0
        have hkk : Kept [] (((w.alloc (.cells #[.bool p, .slice a n c] 29)).alloc (.cells #[.bool q, .slice b m d] 29)).alloc (.cells #[.int .i64 0, .bool false, .slice none 0 0, .bool false, .slice none 0 0] 38)) ww0 := by rw [hW]; exact Kept.refl _ _
        have zzA : w.heap.size + 1 + 1 + 1 = ww0.heap.size := by rw [← hW]; simp
        have nA0 := Lib.hid (hkk.peel.peel.top (g := w.heap.size) (by simp) (by simp) 0 (v := .bool p) rfl).1
        have nA1 := Lib.hid (hkk.peel.peel.top (g := w.heap.size) (by simp) (by simp) 1 (v := .slice a n c) rfl).1
        have nB0 := Lib.hid (hkk.peel.top (g := w.heap.size + 1) (by simp) (by simp) 0 (v := .bool q) rfl).1
        have nB1 := Lib.hid (hkk.peel.top (g := w.heap.size + 1) (by simp) (by simp) 1 (v := .slice b m d) rfl).1
        have nR0 := Lib.hid (hkk.top (g := w.heap.size + 1 + 1) (by simp) (by simp) 0 (v := .int .i64 0) rfl).1
        have fR0 := Lib.hid (hkk.top (g := w.heap.size + 1 + 1) (by simp) (by simp) 0 (v := .int .i64 0) rfl).2.1
        have nR1 := Lib.hid (hkk.top (g := w.heap.size + 1 + 1) (by simp) (by simp) 1 (v := .bool false) rfl).1
        have fR1 := Lib.hid (hkk.top (g := w.heap.size + 1 + 1) (by simp) (by simp) 1 (v := .bool false) rfl).2.1
        have nR2 := Lib.hid (hkk.top (g := w.heap.size + 1 + 1) (by simp) (by simp) 2 (v := .slice none 0 0) rfl).1
        have fR2 := Lib.hid (hkk.top (g := w.heap.size + 1 + 1) (by simp) (by simp) 2 (v := .slice none 0 0) rfl).2.1
        have nR3 := Lib.hid (hkk.top (g := w.heap.size + 1 + 1) (by simp) (by simp) 3 (v := .bool false) rfl).1
        have fR3 := Lib.hid (hkk.top (g := w.heap.size + 1 + 1) (by simp) (by simp) 3 (v := .bool false) rfl).2.1
        have nR4 := Lib.hid (hkk.top (g := w.heap.size + 1 + 1) (by simp) (by simp) 4 (v := .slice none 0 0) rfl).1
        have fR4 := Lib.hid (hkk.top (g := w.heap.size + 1 + 1) (by simp) (by simp) 4 (v := .slice none 0 0) rfl).2.1
        have hk := hkk.peel.peel.peel
        clear hkk hW
        have z0 := hk.size
        have KT := Lib.hid hk
        clear hk
        replace HS := Lib.hid (HS.out.kept0 KT.out)
        replace HS' := Lib.hid (HS'.out.kept0 KT.out)
        refine (isPrecision_any _ _).mono ?_
        rintro e ww1 ⟨rfl, hk⟩
        rw [HP.out]
        have z1 := hk.size
        replace fR0 := Lib.hid (hk.free' (p := ⟨w.heap.size + 1 + 1, 0, none⟩) nR0.out fR0.out (by simp))
        replace fR1 := Lib.hid (hk.free' (p := ⟨w.heap.size + 1 + 1, 1, none⟩) nR1.out fR1.out (by simp))
        replace fR2 := Lib.hid (hk.free' (p := ⟨w.heap.size + 1 + 1, 2, none⟩) nR2.out fR2.out (by simp))
        replace fR3 := Lib.hid (hk.free' (p := ⟨w.heap.size + 1 + 1, 3, none⟩) nR3.out fR3.out (by simp))
        replace fR4 := Lib.hid (hk.free' (p := ⟨w.heap.size + 1 + 1, 4, none⟩) nR4.out fR4.out (by simp))
        replace nA0 := Lib.hid (hk.cell (p := ⟨w.heap.size, 0, none⟩) nA0.out (by simp))
        replace nA1 := Lib.hid (hk.cell (p := ⟨w.heap.size, 1, none⟩) nA1.out (by simp))
        replace nB0 := Lib.hid (hk.cell (p := ⟨w.heap.size + 1, 0, none⟩) nB0.out (by simp))
        replace nB1 := Lib.hid (hk.cell (p := ⟨w.heap.size + 1, 1, none⟩) nB1.out (by simp))
        replace nR0 := Lib.hid (hk.cell (p := ⟨w.heap.size + 1 + 1, 0, none⟩) nR0.out (by simp))
        replace nR1 := Lib.hid (hk.cell (p := ⟨w.heap.size + 1 + 1, 1, none⟩) nR1.out (by simp))
        replace nR2 := Lib.hid (hk.cell (p := ⟨w.heap.size + 1 + 1, 2, none⟩) nR2.out (by simp))
        replace nR3 := Lib.hid (hk.cell (p := ⟨w.heap.size + 1 + 1, 3, none⟩) nR3.out (by simp))
        replace nR4 := Lib.hid (hk.cell (p := ⟨w.heap.size + 1 + 1, 4, none⟩) nR4.out (by simp))
        replace HS := Lib.hid (HS.out.kept0 hk)
        replace HS' := Lib.hid (HS'.out.kept0 hk)
        replace KT := Lib.hid (KT.out.trans0 hk)
        clear hk
        have tA0 := nA0.out
        have tA1 := nA1.out
        have tB0 := nB0.out
        have tB1 := nB1.out
        go_wp2_with fail
        clear tA0 tA1 tB0 tB1
        refine (firstBigFault_two _ _ _ _ _ _ _ _ _ _ _ _ (by omega) HS.out.rd HS'.out.rd).mono ?_
        rintro e ww2 ⟨rfl, hk⟩
        rw [HZ.out]
        have z2 := hk.size
        replace fR0 := Lib.hid (hk.free' (p := ⟨w.heap.size + 1 + 1, 0, none⟩) nR0.out fR0.out (by simp))
        replace fR1 := Lib.hid (hk.free' (p := ⟨w.heap.size + 1 + 1, 1, none⟩) nR1.out fR1.out (by simp))
        replace fR2 := Lib.hid (hk.free' (p := ⟨w.heap.size + 1 + 1, 2, none⟩) nR2.out fR2.out (by simp))
        replace fR3 := Lib.hid (hk.free' (p := ⟨w.heap.size + 1 + 1, 3, none⟩) nR3.out fR3.out (by simp))
        replace fR4 := Lib.hid (hk.free' (p := ⟨w.heap.size + 1 + 1, 4, none⟩) nR4.out fR4.out (by simp))
        replace nA0 := Lib.hid (hk.cell (p := ⟨w.heap.size, 0, none⟩) nA0.out (by simp))
        replace nA1 := Lib.hid (hk.cell (p := ⟨w.heap.size, 1, none⟩) nA1.out (by simp))
        replace nB0 := Lib.hid (hk.cell (p := ⟨w.heap.size + 1, 0, none⟩) nB0.out (by simp))
        replace nB1 := Lib.hid (hk.cell (p := ⟨w.heap.size + 1, 1, none⟩) nB1.out (by simp))
        replace nR0 := Lib.hid (hk.cell (p := ⟨w.heap.size + 1 + 1, 0, none⟩) nR0.out (by simp))
        replace nR1 := Lib.hid (hk.cell (p := ⟨w.heap.size + 1 + 1, 1, none⟩) nR1.out (by simp))
        replace nR2 := Lib.hid (hk.cell (p := ⟨w.heap.size + 1 + 1, 2, none⟩) nR2.out (by simp))
        replace nR3 := Lib.hid (hk.cell (p := ⟨w.heap.size + 1 + 1, 3, none⟩) nR3.out (by simp))
        replace nR4 := Lib.hid (hk.cell (p := ⟨w.heap.size + 1 + 1, 4, none⟩) nR4.out (by simp))
        replace HS := Lib.hid (HS.out.kept0 hk)
        replace HS' := Lib.hid (HS'.out.kept0 hk)
        replace KT := Lib.hid (KT.out.trans0 hk)
        clear hk
        have tA0 := nA0.out
        have tA1 := nA1.out
        have tB0 := nB0.out
        have tB1 := nB1.out
        have tR0 := nR0.out
        have tR1 := nR1.out
        have tR2 := nR2.out
        have tR3 := nR3.out
        have tR4 := nR4.out
        have uR0 := fR0.out
        have uR1 := fR1.out
        have uR2 := fR2.out
        have uR3 := fR3.out
        have uR4 := fR4.out
        go_wp2_with fail
        clear tA0 tA1 tB0 tB1 tR0 tR1 tR2 tR3 tR4 uR0 uR1 uR2 uR3 uR4
        generalize hW : (((((ww2.setCell ⟨w.heap.size + 1 + 1, 0, none⟩ (.int .i64 6)).setCell ⟨w.heap.size + 1 + 1, 1, none⟩ (.bool false)).setCell ⟨w.heap.size + 1 + 1, 2, none⟩ (.slice none 0 0)).setCell ⟨w.heap.size + 1 + 1, 3, none⟩ (.bool false)).setCell ⟨w.heap.size + 1 + 1, 4, none⟩ (.slice none 0 0)) = ww3
        have hk : Kept [w.heap.size + 1 + 1] ww2 ww3 := by rw [← hW]; exact (((((Kept.refl _ _).setCell _ _ (by simp)).setCell _ _ (by simp)).setCell _ _ (by simp)).setCell _ _ (by simp)).setCell _ _ (by simp)
        have hfz : ∀ x, ww3.frozen? x = ww2.frozen? x := by rw [← hW]; intro x; simp only [World.frozen?_setCell]
        have e0 : ww3.cell? ⟨w.heap.size + 1 + 1, 0, none⟩ = some (.int .i64 6) := by rw [← hW]; rw [World.cell?_setCell_other _ _ _ _ (by simp), World.cell?_setCell_other _ _ _ _ (by simp), World.cell?_setCell_other _ _ _ _ (by simp), World.cell?_setCell_other _ _ _ _ (by simp)]; exact World.cell?_setCell_same _ _ _ (by exact nR0.out)
        have e1 : ww3.cell? ⟨w.heap.size + 1 + 1, 1, none⟩ = some (.bool false) := by rw [← hW]; rw [World.cell?_setCell_other _ _ _ _ (by simp), World.cell?_setCell_other _ _ _ _ (by simp), World.cell?_setCell_other _ _ _ _ (by simp)]; exact World.cell?_setCell_same _ _ _ (by rw [World.cell?_setCell_other _ _ _ _ (by simp)]; exact nR1.out)
        have e2 : ww3.cell? ⟨w.heap.size + 1 + 1, 2, none⟩ = some (.slice none 0 0) := by rw [← hW]; rw [World.cell?_setCell_other _ _ _ _ (by simp), World.cell?_setCell_other _ _ _ _ (by simp)]; exact World.cell?_setCell_same _ _ _ (by rw [World.cell?_setCell_other _ _ _ _ (by simp), World.cell?_setCell_other _ _ _ _ (by simp)]; exact nR2.out)
        have e3 : ww3.cell? ⟨w.heap.size + 1 + 1, 3, none⟩ = some (.bool false) := by rw [← hW]; rw [World.cell?_setCell_other _ _ _ _ (by simp)]; exact World.cell?_setCell_same _ _ _ (by rw [World.cell?_setCell_other _ _ _ _ (by simp), World.cell?_setCell_other _ _ _ _ (by simp), World.cell?_setCell_other _ _ _ _ (by simp)]; exact nR3.out)
        have e4 : ww3.cell? ⟨w.heap.size + 1 + 1, 4, none⟩ = some (.slice none 0 0) := by rw [← hW]; exact World.cell?_setCell_same _ _ _ (by rw [World.cell?_setCell_other _ _ _ _ (by simp), World.cell?_setCell_other _ _ _ _ (by simp), World.cell?_setCell_other _ _ _ _ (by simp), World.cell?_setCell_other _ _ _ _ (by simp)]; exact nR4.out)
        have z3 := hk.size
        replace fR0 := Lib.hid (show ww3.frozen? ⟨w.heap.size + 1 + 1, 0, none⟩ = false by rw [hfz]; exact fR0.out)
        replace fR1 := Lib.hid (show ww3.frozen? ⟨w.heap.size + 1 + 1, 1, none⟩ = false by rw [hfz]; exact fR1.out)
        replace fR2 := Lib.hid (show ww3.frozen? ⟨w.heap.size + 1 + 1, 2, none⟩ = false by rw [hfz]; exact fR2.out)
        replace fR3 := Lib.hid (show ww3.frozen? ⟨w.heap.size + 1 + 1, 3, none⟩ = false by rw [hfz]; exact fR3.out)
        replace fR4 := Lib.hid (show ww3.frozen? ⟨w.heap.size + 1 + 1, 4, none⟩ = false by rw [hfz]; exact fR4.out)
        replace nA0 := Lib.hid (hk.cell (p := ⟨w.heap.size, 0, none⟩) nA0.out (by simp <;> omega))
        replace nA1 := Lib.hid (hk.cell (p := ⟨w.heap.size, 1, none⟩) nA1.out (by simp <;> omega))
        replace nB0 := Lib.hid (hk.cell (p := ⟨w.heap.size + 1, 0, none⟩) nB0.out (by simp <;> omega))
        replace nB1 := Lib.hid (hk.cell (p := ⟨w.heap.size + 1, 1, none⟩) nB1.out (by simp <;> omega))
        replace HS := Lib.hid (HS.out.kept hk (fun hn y hy hm => by have h9 := FS.out hn y hy; simp at hm; omega))
        replace HS' := Lib.hid (HS'.out.kept hk (fun hn y hy hm => by have h9 := FS'.out hn y hy; simp at hm; omega))
        replace nR0 := Lib.hid e0
        replace nR1 := Lib.hid e1
        replace nR2 := Lib.hid e2
        replace nR3 := Lib.hid e3
        replace nR4 := Lib.hid e4
        replace KT := Lib.hid (KT.out.trans hk (fun x hx hlt => by simp at hx; omega))
        clear hk hfz hW e0 e1 e2 e3 e4
        have e0 := nR0.out
        have e1 := nR1.out
        have e2 := nR2.out
        have e3 := nR3.out
        have e4 := nR4.out
        refine bodyPost_ret (v := .agg #[.int .i64 6, .bool false, .slice none 0 0, .bool false, .slice none 0 0]) (by simp [results, Try.results39, go_sem, e0, e1, e2, e3, e4]) rfl ?_
        exact spanR_no KT.out
      · skip
        by_cases h20 : 20 < n
        · skip
          rw [show ratS P p xs q ys = noSpan 2 from by unfold ratS; rw [if_pos hP, twoS_zero hz, if_neg hy0, if_pos (by omega)]]
          have hm0 : ((m : Int) == 0) = false := by rw [beq_eq_false_iff_ne]; omega
          have HZ := Lib.hid hz
          have HP := Lib.hid hP
          clear hz hP hy0 hM hL
          go_enter Try.func39, Try.ntmps39
          go_wp2_with fail
          generalize hW : (((w.alloc (.cells #[.bool p, .slice a n c] 29)).alloc (.cells #[.bool q, .slice b m d] 29)).alloc (.cells #[.int .i64 0, .bool false, .slice none 0 0, .bool false, .slice none 0 0] 38)) = ww0
          have hkk : Kept [] (((w.alloc (.cells #[.bool p, .slice a n c] 29)).alloc (.cells #[.bool q, .slice b m d] 29)).alloc (.cells #[.int .i64 0, .bool false, .slice none 0 0, .bool false, .slice none 0 0] 38)) ww0 := by rw [hW]; exact Kept.refl _ _
          have zzA : w.heap.size + 1 + 1 + 1 = ww0.heap.size := by rw [← hW]; simp
          have nA0 := Lib.hid (hkk.peel.peel.top (g := w.heap.size) (by simp) (by simp) 0 (v := .bool p) rfl).1
          have nA1 := Lib.hid (hkk.peel.peel.top (g := w.heap.size) (by simp) (by simp) 1 (v := .slice a n c) rfl).1
          have nB0 := Lib.hid (hkk.peel.top (g := w.heap.size + 1) (by simp) (by simp) 0 (v := .bool q) rfl).1
          have nB1 := Lib.hid (hkk.peel.top (g := w.heap.size + 1) (by simp) (by simp) 1 (v := .slice b m d) rfl).1
          have nR0 := Lib.hid (hkk.top (g := w.heap.size + 1 + 1) (by simp) (by simp) 0 (v := .int .i64 0) rfl).1
          have fR0 := Lib.hid (hkk.top (g := w.heap.size + 1 + 1) (by simp) (by simp) 0 (v := .int .i64 0) rfl).2.1
          have nR1 := Lib.hid (hkk.top (g := w.heap.size + 1 + 1) (by simp) (by simp) 1 (v := .bool false) rfl).1
          have fR1 := Lib.hid (hkk.top (g := w.heap.size + 1 + 1) (by simp) (by simp) 1 (v := .bool false) rfl).2.1
          have nR2 := Lib.hid (hkk.top (g := w.heap.size + 1 + 1) (by simp) (by simp) 2 (v := .slice none 0 0) rfl).1
          have fR2 := Lib.hid (hkk.top (g := w.heap.size + 1 + 1) (by simp) (by simp) 2 (v := .slice none 0 0) rfl).2.1
          have nR3 := Lib.hid (hkk.top (g := w.heap.size + 1 + 1) (by simp) (by simp) 3 (v := .bool false) rfl).1
          have fR3 := Lib.hid (hkk.top (g := w.heap.size + 1 + 1) (by simp) (by simp) 3 (v := .bool false) rfl).2.1
          have nR4 := Lib.hid (hkk.top (g := w.heap.size + 1 + 1) (by simp) (by simp) 4 (v := .slice none 0 0) rfl).1
          have fR4 := Lib.hid (hkk.top (g := w.heap.size + 1 + 1) (by simp) (by simp) 4 (v := .slice none 0 0) rfl).2.1
          have hk := hkk.peel.peel.peel
          clear hkk hW
          have z0 := hk.size
          have KT := Lib.hid hk
          clear hk
          replace HS := Lib.hid (HS.out.kept0 KT.out)
          replace HS' := Lib.hid (HS'.out.kept0 KT.out)
          refine (isPrecision_any _ _).mono ?_
          rintro e ww1 ⟨rfl, hk⟩
          rw [HP.out]
          have z1 := hk.size
          replace fR0 := Lib.hid (hk.free' (p := ⟨w.heap.size + 1 + 1, 0, none⟩) nR0.out fR0.out (by simp))
          replace fR1 := Lib.hid (hk.free' (p := ⟨w.heap.size + 1 + 1, 1, none⟩) nR1.out fR1.out (by simp))
          replace fR2 := Lib.hid (hk.free' (p := ⟨w.heap.size + 1 + 1, 2, none⟩) nR2.out fR2.out (by simp))
          replace fR3 := Lib.hid (hk.free' (p := ⟨w.heap.size + 1 + 1, 3, none⟩) nR3.out fR3.out (by simp))
          replace fR4 := Lib.hid (hk.free' (p := ⟨w.heap.size + 1 + 1, 4, none⟩) nR4.out fR4.out (by simp))
          replace nA0 := Lib.hid (hk.cell (p := ⟨w.heap.size, 0, none⟩) nA0.out (by simp))
          replace nA1 := Lib.hid (hk.cell (p := ⟨w.heap.size, 1, none⟩) nA1.out (by simp))
          replace nB0 := Lib.hid (hk.cell (p := ⟨w.heap.size + 1, 0, none⟩) nB0.out (by simp))
          replace nB1 := Lib.hid (hk.cell (p := ⟨w.heap.size + 1, 1, none⟩) nB1.out (by simp))
          replace nR0 := Lib.hid (hk.cell (p := ⟨w.heap.size + 1 + 1, 0, none⟩) nR0.out (by simp))
          replace nR1 := Lib.hid (hk.cell (p := ⟨w.heap.size + 1 + 1, 1, none⟩) nR1.out (by simp))
          replace nR2 := Lib.hid (hk.cell (p := ⟨w.heap.size + 1 + 1, 2, none⟩) nR2.out (by simp))
          replace nR3 := Lib.hid (hk.cell (p := ⟨w.heap.size + 1 + 1, 3, none⟩) nR3.out (by simp))
          replace nR4 := Lib.hid (hk.cell (p := ⟨w.heap.size + 1 + 1, 4, none⟩) nR4.out (by simp))
          replace HS := Lib.hid (HS.out.kept0 hk)
          replace HS' := Lib.hid (HS'.out.kept0 hk)
          replace KT := Lib.hid (KT.out.trans0 hk)
          clear hk
          have tA0 := nA0.out
          have tA1 := nA1.out
          have tB0 := nB0.out
          have tB1 := nB1.out
          go_wp2_with fail
          clear tA0 tA1 tB0 tB1
          refine (firstBigFault_two _ _ _ _ _ _ _ _ _ _ _ _ (by omega) HS.out.rd HS'.out.rd).mono ?_
          rintro e ww2 ⟨rfl, hk⟩
          rw [HZ.out]
          have z2 := hk.size
          replace fR0 := Lib.hid (hk.free' (p := ⟨w.heap.size + 1 + 1, 0, none⟩) nR0.out fR0.out (by simp))
          replace fR1 := Lib.hid (hk.free' (p := ⟨w.heap.size + 1 + 1, 1, none⟩) nR1.out fR1.out (by simp))
          replace fR2 := Lib.hid (hk.free' (p := ⟨w.heap.size + 1 + 1, 2, none⟩) nR2.out fR2.out (by simp))
          replace fR3 := Lib.hid (hk.free' (p := ⟨w.heap.size + 1 + 1, 3, none⟩) nR3.out fR3.out (by simp))
          replace fR4 := Lib.hid (hk.free' (p := ⟨w.heap.size + 1 + 1, 4, none⟩) nR4.out fR4.out (by simp))
          replace nA0 := Lib.hid (hk.cell (p := ⟨w.heap.size, 0, none⟩) nA0.out (by simp))
          replace nA1 := Lib.hid (hk.cell (p := ⟨w.heap.size, 1, none⟩) nA1.out (by simp))
          replace nB0 := Lib.hid (hk.cell (p := ⟨w.heap.size + 1, 0, none⟩) nB0.out (by simp))
          replace nB1 := Lib.hid (hk.cell (p := ⟨w.heap.size + 1, 1, none⟩) nB1.out (by simp))
          replace nR0 := Lib.hid (hk.cell (p := ⟨w.heap.size + 1 + 1, 0, none⟩) nR0.out (by simp))
          replace nR1 := Lib.hid (hk.cell (p := ⟨w.heap.size + 1 + 1, 1, none⟩) nR1.out (by simp))
          replace nR2 := Lib.hid (hk.cell (p := ⟨w.heap.size + 1 + 1, 2, none⟩) nR2.out (by simp))
          replace nR3 := Lib.hid (hk.cell (p := ⟨w.heap.size + 1 + 1, 3, none⟩) nR3.out (by simp))
          replace nR4 := Lib.hid (hk.cell (p := ⟨w.heap.size + 1 + 1, 4, none⟩) nR4.out (by simp))
          replace HS := Lib.hid (HS.out.kept0 hk)
          replace HS' := Lib.hid (HS'.out.kept0 hk)
          replace KT := Lib.hid (KT.out.trans0 hk)
          clear hk
          have tA0 := nA0.out
          have tA1 := nA1.out
          have tB0 := nB0.out
          have tB1 := nB1.out
          go_wp2_with fail
          clear tA0 tA1 tB0 tB1
          refine (isTooLong_yes _ _ _ _ _ h20).mono ?_
          rintro e ww3 ⟨rfl, hk⟩
          have z3 := hk.size
          replace fR0 := Lib.hid (hk.free' (p := ⟨w.heap.size + 1 + 1, 0, none⟩) nR0.out fR0.out (by simp))
          replace fR1 := Lib.hid (hk.free' (p := ⟨w.heap.size + 1 + 1, 1, none⟩) nR1.out fR1.out (by simp))
          replace fR2 := Lib.hid (hk.free' (p := ⟨w.heap.size + 1 + 1, 2, none⟩) nR2.out fR2.out (by simp))
          replace fR3 := Lib.hid (hk.free' (p := ⟨w.heap.size + 1 + 1, 3, none⟩) nR3.out fR3.out (by simp))
          replace fR4 := Lib.hid (hk.free' (p := ⟨w.heap.size + 1 + 1, 4, none⟩) nR4.out fR4.out (by simp))
          replace nA0 := Lib.hid (hk.cell (p := ⟨w.heap.size, 0, none⟩) nA0.out (by simp))
          replace nA1 := Lib.hid (hk.cell (p := ⟨w.heap.size, 1, none⟩) nA1.out (by simp))
          replace nB0 := Lib.hid (hk.cell (p := ⟨w.heap.size + 1, 0, none⟩) nB0.out (by simp))
          replace nB1 := Lib.hid (hk.cell (p := ⟨w.heap.size + 1, 1, none⟩) nB1.out (by simp))
          replace nR0 := Lib.hid (hk.cell (p := ⟨w.heap.size + 1 + 1, 0, none⟩) nR0.out (by simp))
          replace nR1 := Lib.hid (hk.cell (p := ⟨w.heap.size + 1 + 1, 1, none⟩) nR1.out (by simp))
          replace nR2 := Lib.hid (hk.cell (p := ⟨w.heap.size + 1 + 1, 2, none⟩) nR2.out (by simp))
          replace nR3 := Lib.hid (hk.cell (p := ⟨w.heap.size + 1 + 1, 3, none⟩) nR3.out (by simp))
          replace nR4 := Lib.hid (hk.cell (p := ⟨w.heap.size + 1 + 1, 4, none⟩) nR4.out (by simp))
          replace HS := Lib.hid (HS.out.kept0 hk)
          replace HS' := Lib.hid (HS'.out.kept0 hk)
          replace KT := Lib.hid (KT.out.trans0 hk)
          clear hk
          have tA0 := nA0.out
          have tA1 := nA1.out
          have tB0 := nB0.out
          have tB1 := nB1.out
          have tR0 := nR0.out
          have tR1 := nR1.out
          have tR2 := nR2.out
          have tR3 := nR3.out
          have tR4 := nR4.out
          have uR0 := fR0.out
          have uR1 := fR1.out
          have uR2 := fR2.out
          have uR3 := fR3.out
          have uR4 := fR4.out
          go_wp2_with fail
          clear tA0 tA1 tB0 tB1 tR0 tR1 tR2 tR3 tR4 uR0 uR1 uR2 uR3 uR4
          generalize hW : (((((ww3.setCell ⟨w.heap.size + 1 + 1, 0, none⟩ (.int .i64 2)).setCell ⟨w.heap.size + 1 + 1, 1, none⟩ (.bool false)).setCell ⟨w.heap.size + 1 + 1, 2, none⟩ (.slice none 0 0)).setCell ⟨w.heap.size + 1 + 1, 3, none⟩ (.bool false)).setCell ⟨w.heap.size + 1 + 1, 4, none⟩ (.slice none 0 0)) = ww4
          have hk : Kept [w.heap.size + 1 + 1] ww3 ww4 := by rw [← hW]; exact (((((Kept.refl _ _).setCell _ _ (by simp)).setCell _ _ (by simp)).setCell _ _ (by simp)).setCell _ _ (by simp)).setCell _ _ (by simp)
          have hfz : ∀ x, ww4.frozen? x = ww3.frozen? x := by rw [← hW]; intro x; simp only [World.frozen?_setCell]
          have e0 : ww4.cell? ⟨w.heap.size + 1 + 1, 0, none⟩ = some (.int .i64 2) := by rw [← hW]; rw [World.cell?_setCell_other _ _ _ _ (by simp), World.cell?_setCell_other _ _ _ _ (by simp), World.cell?_setCell_other _ _ _ _ (by simp), World.cell?_setCell_other _ _ _ _ (by simp)]; exact World.cell?_setCell_same _ _ _ (by exact nR0.out)
          have e1 : ww4.cell? ⟨w.heap.size + 1 + 1, 1, none⟩ = some (.bool false) := by rw [← hW]; rw [World.cell?_setCell_other _ _ _ _ (by simp), World.cell?_setCell_other _ _ _ _ (by simp), World.cell?_setCell_other _ _ _ _ (by simp)]; exact World.cell?_setCell_same _ _ _ (by rw [World.cell?_setCell_other _ _ _ _ (by simp)]; exact nR1.out)
          have e2 : ww4.cell? ⟨w.heap.size + 1 + 1, 2, none⟩ = some (.slice none 0 0) := by rw [← hW]; rw [World.cell?_setCell_other _ _ _ _ (by simp), World.cell?_setCell_other _ _ _ _ (by simp)]; exact World.cell?_setCell_same _ _ _ (by rw [World.cell?_setCell_other _ _ _ _ (by simp), World.cell?_setCell_other _ _ _ _ (by simp)]; exact nR2.out)
          have e3 : ww4.cell? ⟨w.heap.size + 1 + 1, 3, none⟩ = some (.bool false) := by rw [← hW]; rw [World.cell?_setCell_other _ _ _ _ (by simp)]; exact World.cell?_setCell_same _ _ _ (by rw [World.cell?_setCell_other _ _ _ _ (by simp), World.cell?_setCell_other _ _ _ _ (by simp), World.cell?_setCell_other _ _ _ _ (by simp)]; exact nR3.out)
          have e4 : ww4.cell? ⟨w.heap.size + 1 + 1, 4, none⟩ = some (.slice none 0 0) := by rw [← hW]; exact World.cell?_setCell_same _ _ _ (by rw [World.cell?_setCell_other _ _ _ _ (by simp), World.cell?_setCell_other _ _ _ _ (by simp), World.cell?_setCell_other _ _ _ _ (by simp), World.cell?_setCell_other _ _ _ _ (by simp)]; exact nR4.out)
          have z4 := hk.size
          replace fR0 := Lib.hid (show ww4.frozen? ⟨w.heap.size + 1 + 1, 0, none⟩ = false by rw [hfz]; exact fR0.out)
          replace fR1 := Lib.hid (show ww4.frozen? ⟨w.heap.size + 1 + 1, 1, none⟩ = false by rw [hfz]; exact fR1.out)
          replace fR2 := Lib.hid (show ww4.frozen? ⟨w.heap.size + 1 + 1, 2, none⟩ = false by rw [hfz]; exact fR2.out)
          replace fR3 := Lib.hid (show ww4.frozen? ⟨w.heap.size + 1 + 1, 3, none⟩ = false by rw [hfz]; exact fR3.out)
          replace fR4 := Lib.hid (show ww4.frozen? ⟨w.heap.size + 1 + 1, 4, none⟩ = false by rw [hfz]; exact fR4.out)
          replace nA0 := Lib.hid (hk.cell (p := ⟨w.heap.size, 0, none⟩) nA0.out (by simp <;> omega))
          replace nA1 := Lib.hid (hk.cell (p := ⟨w.heap.size, 1, none⟩) nA1.out (by simp <;> omega))
          replace nB0 := Lib.hid (hk.cell (p := ⟨w.heap.size + 1, 0, none⟩) nB0.out (by simp <;> omega))
          replace nB1 := Lib.hid (hk.cell (p := ⟨w.heap.size + 1, 1, none⟩) nB1.out (by simp <;> omega))
          replace HS := Lib.hid (HS.out.kept hk (fun hn y hy hm => by have h9 := FS.out hn y hy; simp at hm; omega))
          replace HS' := Lib.hid (HS'.out.kept hk (fun hn y hy hm => by have h9 := FS'.out hn y hy; simp at hm; omega))
          replace nR0 := Lib.hid e0
          replace nR1 := Lib.hid e1
          replace nR2 := Lib.hid e2
          replace nR3 := Lib.hid e3
          replace nR4 := Lib.hid e4
          replace KT := Lib.hid (KT.out.trans hk (fun x hx hlt => by simp at hx; omega))
          clear hk hfz hW e0 e1 e2 e3 e4
          have e0 := nR0.out
          have e1 := nR1.out
          have e2 := nR2.out
          have e3 := nR3.out
          have e4 := nR4.out
          refine bodyPost_ret (v := .agg #[.int .i64 2, .bool false, .slice none 0 0, .bool false, .slice none 0 0]) (by simp [results, Try.results39, go_sem, e0, e1, e2, e3, e4]) rfl ?_
          exact spanR_no KT.out
        have g20 := h20
        clear h20
        by_cases h20 : 20 < m
        · skip
          rw [show ratS P p xs q ys = noSpan 2 from by unfold ratS; rw [if_pos hP, twoS_zero hz, if_neg hy0, if_pos (by omega)]]
          have hm0 : ((m : Int) == 0) = false := by rw [beq_eq_false_iff_ne]; omega
          have HZ := Lib.hid hz
          have HP := Lib.hid hP
          clear hz hP hy0 hM hL
          go_enter Try.func39, Try.ntmps39
          go_wp2_with fail
          generalize hW : (((w.alloc (.cells #[.bool p, .slice a n c] 29)).alloc (.cells #[.bool q, .slice b m d] 29)).alloc (.cells #[.int .i64 0, .bool false, .slice none 0 0, .bool false, .slice none 0 0] 38)) = ww0
          have hkk : Kept [] (((w.alloc (.cells #[.bool p, .slice a n c] 29)).alloc (.cells #[.bool q, .slice b m d] 29)).alloc (.cells #[.int .i64 0, .bool false, .slice none 0 0, .bool false, .slice none 0 0] 38)) ww0 := by rw [hW]; exact Kept.refl _ _
          have zzA : w.heap.size + 1 + 1 + 1 = ww0.heap.size := by rw [← hW]; simp
          have nA0 := Lib.hid (hkk.peel.peel.top (g := w.heap.size) (by simp) (by simp) 0 (v := .bool p) rfl).1
          have nA1 := Lib.hid (hkk.peel.peel.top (g := w.heap.size) (by simp) (by simp) 1 (v := .slice a n c) rfl).1
          have nB0 := Lib.hid (hkk.peel.top (g := w.heap.size + 1) (by simp) (by simp) 0 (v := .bool q) rfl).1
          have nB1 := Lib.hid (hkk.peel.top (g := w.heap.size + 1) (by simp) (by simp) 1 (v := .slice b m d) rfl).1
          have nR0 := Lib.hid (hkk.top (g := w.heap.size + 1 + 1) (by simp) (by simp) 0 (v := .int .i64 0) rfl).1
          have fR0 := Lib.hid (hkk.top (g := w.heap.size + 1 + 1) (by simp) (by simp) 0 (v := .int .i64 0) rfl).2.1
          have nR1 := Lib.hid (hkk.top (g := w.heap.size + 1 + 1) (by simp) (by simp) 1 (v := .bool false) rfl).1
          have fR1 := Lib.hid (hkk.top (g := w.heap.size + 1 + 1) (by simp) (by simp) 1 (v := .bool false) rfl).2.1
          have nR2 := Lib.hid (hkk.top (g := w.heap.size + 1 + 1) (by simp) (by simp) 2 (v := .slice none 0 0) rfl).1
          have fR2 := Lib.hid (hkk.top (g := w.heap.size + 1 + 1) (by simp) (by simp) 2 (v := .slice none 0 0) rfl).2.1
          have nR3 := Lib.hid (hkk.top (g := w.heap.size + 1 + 1) (by simp) (by simp) 3 (v := .bool false) rfl).1
          have fR3 := Lib.hid (hkk.top (g := w.heap.size + 1 + 1) (by simp) (by simp) 3 (v := .bool false) rfl).2.1
          have nR4 := Lib.hid (hkk.top (g := w.heap.size + 1 + 1) (by simp) (by simp) 4 (v := .slice none 0 0) rfl).1
          have fR4 := Lib.hid (hkk.top (g := w.heap.size + 1 + 1) (by simp) (by simp) 4 (v := .slice none 0 0) rfl).2.1
          have hk := hkk.peel.peel.peel
          clear hkk hW
          have z0 := hk.size
          have KT := Lib.hid hk
          clear hk
          replace HS := Lib.hid (HS.out.kept0 KT.out)
          replace HS' := Lib.hid (HS'.out.kept0 KT.out)
          refine (isPrecision_any _ _).mono ?_
          rintro e ww1 ⟨rfl, hk⟩
          rw [HP.out]
          have z1 := hk.size
          replace fR0 := Lib.hid (hk.free' (p := ⟨w.heap.size + 1 + 1, 0, none⟩) nR0.out fR0.out (by simp))
          replace fR1 := Lib.hid (hk.free' (p := ⟨w.heap.size + 1 + 1, 1, none⟩) nR1.out fR1.out (by simp))
          replace fR2 := Lib.hid (hk.free' (p := ⟨w.heap.size + 1 + 1, 2, none⟩) nR2.out fR2.out (by simp))
          replace fR3 := Lib.hid (hk.free' (p := ⟨w.heap.size + 1 + 1, 3, none⟩) nR3.out fR3.out (by simp))
          replace fR4 := Lib.hid (hk.free' (p := ⟨w.heap.size + 1 + 1, 4, none⟩) nR4.out fR4.out (by simp))
          replace nA0 := Lib.hid (hk.cell (p := ⟨w.heap.size, 0, none⟩) nA0.out (by simp))
          replace nA1 := Lib.hid (hk.cell (p := ⟨w.heap.size, 1, none⟩) nA1.out (by simp))
          replace nB0 := Lib.hid (hk.cell (p := ⟨w.heap.size + 1, 0, none⟩) nB0.out (by simp))
          replace nB1 := Lib.hid (hk.cell (p := ⟨w.heap.size + 1, 1, none⟩) nB1.out (by simp))
          replace nR0 := Lib.hid (hk.cell (p := ⟨w.heap.size + 1 + 1, 0, none⟩) nR0.out (by simp))
          replace nR1 := Lib.hid (hk.cell (p := ⟨w.heap.size + 1 + 1, 1, none⟩) nR1.out (by simp))
          replace nR2 := Lib.hid (hk.cell (p := ⟨w.heap.size + 1 + 1, 2, none⟩) nR2.out (by simp))
          replace nR3 := Lib.hid (hk.cell (p := ⟨w.heap.size + 1 + 1, 3, none⟩) nR3.out (by simp))
          replace nR4 := Lib.hid (hk.cell (p := ⟨w.heap.size + 1 + 1, 4, none⟩) nR4.out (by simp))
          replace HS := Lib.hid (HS.out.kept0 hk)
          replace HS' := Lib.hid (HS'.out.kept0 hk)
          replace KT := Lib.hid (KT.out.trans0 hk)
          clear hk
          have tA0 := nA0.out
          have tA1 := nA1.out
          have tB0 := nB0.out
          have tB1 := nB1.out
          go_wp2_with fail
          clear tA0 tA1 tB0 tB1
          refine (firstBigFault_two _ _ _ _ _ _ _ _ _ _ _ _ (by omega) HS.out.rd HS'.out.rd).mono ?_
          rintro e ww2 ⟨rfl, hk⟩
          rw [HZ.out]
          have z2 := hk.size
          replace fR0 := Lib.hid (hk.free' (p := ⟨w.heap.size + 1 + 1, 0, none⟩) nR0.out fR0.out (by simp))
          replace fR1 := Lib.hid (hk.free' (p := ⟨w.heap.size + 1 + 1, 1, none⟩) nR1.out fR1.out (by simp))
          replace fR2 := Lib.hid (hk.free' (p := ⟨w.heap.size + 1 + 1, 2, none⟩) nR2.out fR2.out (by simp))
          replace fR3 := Lib.hid (hk.free' (p := ⟨w.heap.size + 1 + 1, 3, none⟩) nR3.out fR3.out (by simp))
          replace fR4 := Lib.hid (hk.free' (p := ⟨w.heap.size + 1 + 1, 4, none⟩) nR4.out fR4.out (by simp))
          replace nA0 := Lib.hid (hk.cell (p := ⟨w.heap.size, 0, none⟩) nA0.out (by simp))
          replace nA1 := Lib.hid (hk.cell (p := ⟨w.heap.size, 1, none⟩) nA1.out (by simp))
          replace nB0 := Lib.hid (hk.cell (p := ⟨w.heap.size + 1, 0, none⟩) nB0.out (by simp))
          replace nB1 := Lib.hid (hk.cell (p := ⟨w.heap.size + 1, 1, none⟩) nB1.out (by simp))
          replace nR0 := Lib.hid (hk.cell (p := ⟨w.heap.size + 1 + 1, 0, none⟩) nR0.out (by simp))
          replace nR1 := Lib.hid (hk.cell (p := ⟨w.heap.size + 1 + 1, 1, none⟩) nR1.out (by simp))
          replace nR2 := Lib.hid (hk.cell (p := ⟨w.heap.size + 1 + 1, 2, none⟩) nR2.out (by simp))
          replace nR3 := Lib.hid (hk.cell (p := ⟨w.heap.size + 1 + 1, 3, none⟩) nR3.out (by simp))
          replace nR4 := Lib.hid (hk.cell (p := ⟨w.heap.size + 1 + 1, 4, none⟩) nR4.out (by simp))
          replace HS := Lib.hid (HS.out.kept0 hk)
          replace HS' := Lib.hid (HS'.out.kept0 hk)
          replace KT := Lib.hid (KT.out.trans0 hk)
          clear hk
          have tA0 := nA0.out
          have tA1 := nA1.out
          have tB0 := nB0.out
          have tB1 := nB1.out
          go_wp2_with fail
          clear tA0 tA1 tB0 tB1
          refine (isTooLong_no _ _ _ _ _ g20).mono ?_
          rintro e ww3 ⟨rfl, hk⟩
          have z3 := hk.size
          replace fR0 := Lib.hid (hk.free' (p := ⟨w.heap.size + 1 + 1, 0, none⟩) nR0.out fR0.out (by simp))
          replace fR1 := Lib.hid (hk.free' (p := ⟨w.heap.size + 1 + 1, 1, none⟩) nR1.out fR1.out (by simp))
          replace fR2 := Lib.hid (hk.free' (p := ⟨w.heap.size + 1 + 1, 2, none⟩) nR2.out fR2.out (by simp))
          replace fR3 := Lib.hid (hk.free' (p := ⟨w.heap.size + 1 + 1, 3, none⟩) nR3.out fR3.out (by simp))
          replace fR4 := Lib.hid (hk.free' (p := ⟨w.heap.size + 1 + 1, 4, none⟩) nR4.out fR4.out (by simp))
          replace nA0 := Lib.hid (hk.cell (p := ⟨w.heap.size, 0, none⟩) nA0.out (by simp))
          replace nA1 := Lib.hid (hk.cell (p := ⟨w.heap.size, 1, none⟩) nA1.out (by simp))
          replace nB0 := Lib.hid (hk.cell (p := ⟨w.heap.size + 1, 0, none⟩) nB0.out (by simp))
          replace nB1 := Lib.hid (hk.cell (p := ⟨w.heap.size + 1, 1, none⟩) nB1.out (by simp))
          replace nR0 := Lib.hid (hk.cell (p := ⟨w.heap.size + 1 + 1, 0, none⟩) nR0.out (by simp))
          replace nR1 := Lib.hid (hk.cell (p := ⟨w.heap.size + 1 + 1, 1, none⟩) nR1.out (by simp))
          replace nR2 := Lib.hid (hk.cell (p := ⟨w.heap.size + 1 + 1, 2, none⟩) nR2.out (by simp))
          replace nR3 := Lib.hid (hk.cell (p := ⟨w.heap.size + 1 + 1, 3, none⟩) nR3.out (by simp))
          replace nR4 := Lib.hid (hk.cell (p := ⟨w.heap.size + 1 + 1, 4, none⟩) nR4.out (by simp))
          replace HS := Lib.hid (HS.out.kept0 hk)
          replace HS' := Lib.hid (HS'.out.kept0 hk)
          replace KT := Lib.hid (KT.out.trans0 hk)
          clear hk
          have tB0 := nB0.out
          have tB1 := nB1.out
          go_wp2_with fail
          clear tB0 tB1
          refine (isTooLong_yes _ _ _ _ _ h20).mono ?_
          rintro e ww4 ⟨rfl, hk⟩
          have z4 := hk.size
          replace fR0 := Lib.hid (hk.free' (p := ⟨w.heap.size + 1 + 1, 0, none⟩) nR0.out fR0.out (by simp))
          replace fR1 := Lib.hid (hk.free' (p := ⟨w.heap.size + 1 + 1, 1, none⟩) nR1.out fR1.out (by simp))
          replace fR2 := Lib.hid (hk.free' (p := ⟨w.heap.size + 1 + 1, 2, none⟩) nR2.out fR2.out (by simp))
          replace fR3 := Lib.hid (hk.free' (p := ⟨w.heap.size + 1 + 1, 3, none⟩) nR3.out fR3.out (by simp))
          replace fR4 := Lib.hid (hk.free' (p := ⟨w.heap.size + 1 + 1, 4, none⟩) nR4.out fR4.out (by simp))
          replace nA0 := Lib.hid (hk.cell (p := ⟨w.heap.size, 0, none⟩) nA0.out (by simp))
          replace nA1 := Lib.hid (hk.cell (p := ⟨w.heap.size, 1, none⟩) nA1.out (by simp))
          replace nB0 := Lib.hid (hk.cell (p := ⟨w.heap.size + 1, 0, none⟩) nB0.out (by simp))
          replace nB1 := Lib.hid (hk.cell (p := ⟨w.heap.size + 1, 1, none⟩) nB1.out (by simp))
          replace nR0 := Lib.hid (hk.cell (p := ⟨w.heap.size + 1 + 1, 0, none⟩) nR0.out (by simp))
          replace nR1 := Lib.hid (hk.cell (p := ⟨w.heap.size + 1 + 1, 1, none⟩) nR1.out (by simp))
          replace nR2 := Lib.hid (hk.cell (p := ⟨w.heap.size + 1 + 1, 2, none⟩) nR2.out (by simp))
          replace nR3 := Lib.hid (hk.cell (p := ⟨w.heap.size + 1 + 1, 3, none⟩) nR3.out (by simp))
          replace nR4 := Lib.hid (hk.cell (p := ⟨w.heap.size + 1 + 1, 4, none⟩) nR4.out (by simp))
          replace HS := Lib.hid (HS.out.kept0 hk)
          replace HS' := Lib.hid (HS'.out.kept0 hk)
          replace KT := Lib.hid (KT.out.trans0 hk)
          clear hk
          have tA0 := nA0.out
          have tA1 := nA1.out
          have tB0 := nB0.out
          have tB1 := nB1.out
          have tR0 := nR0.out
          have tR1 := nR1.out
          have tR2 := nR2.out
          have tR3 := nR3.out
          have tR4 := nR4.out
          have uR0 := fR0.out
          have uR1 := fR1.out
          have uR2 := fR2.out
          have uR3 := fR3.out
          have uR4 := fR4.out
          go_wp2_with fail
          clear tA0 tA1 tB0 tB1 tR0 tR1 tR2 tR3 tR4 uR0 uR1 uR2 uR3 uR4
          generalize hW : (((((ww4.setCell ⟨w.heap.size + 1 + 1, 0, none⟩ (.int .i64 2)).setCell ⟨w.heap.size + 1 + 1, 1, none⟩ (.bool false)).setCell ⟨w.heap.size + 1 + 1, 2, none⟩ (.slice none 0 0)).setCell ⟨w.heap.size + 1 + 1, 3, none⟩ (.bool false)).setCell ⟨w.heap.size + 1 + 1, 4, none⟩ (.slice none 0 0)) = ww5
          have hk : Kept [w.heap.size + 1 + 1] ww4 ww5 := by rw [← hW]; exact (((((Kept.refl _ _).setCell _ _ (by simp)).setCell _ _ (by simp)).setCell _ _ (by simp)).setCell _ _ (by simp)).setCell _ _ (by simp)
          have hfz : ∀ x, ww5.frozen? x = ww4.frozen? x := by rw [← hW]; intro x; simp only [World.frozen?_setCell]
          have e0 : ww5.cell? ⟨w.heap.size + 1 + 1, 0, none⟩ = some (.int .i64 2) := by rw [← hW]; rw [World.cell?_setCell_other _ _ _ _ (by simp), World.cell?_setCell_other _ _ _ _ (by simp), World.cell?_setCell_other _ _ _ _ (by simp), World.cell?_setCell_other _ _ _ _ (by simp)]; exact World.cell?_setCell_same _ _ _ (by exact nR0.out)
          have e1 : ww5.cell? ⟨w.heap.size + 1 + 1, 1, none⟩ = some (.bool false) := by rw [← hW]; rw [World.cell?_setCell_other _ _ _ _ (by simp), World.cell?_setCell_other _ _ _ _ (by simp), World.cell?_setCell_other _ _ _ _ (by simp)]; exact World.cell?_setCell_same _ _ _ (by rw [World.cell?_setCell_other _ _ _ _ (by simp)]; exact nR1.out)
          have e2 : ww5.cell? ⟨w.heap.size + 1 + 1, 2, none⟩ = some (.slice none 0 0) := by rw [← hW]; rw [World.cell?_setCell_other _ _ _ _ (by simp), World.cell?_setCell_other _ _ _ _ (by simp)]; exact World.cell?_setCell_same _ _ _ (by rw [World.cell?_setCell_other _ _ _ _ (by simp), World.cell?_setCell_other _ _ _ _ (by simp)]; exact nR2.out)
          have e3 : ww5.cell? ⟨w.heap.size + 1 + 1, 3, none⟩ = some (.bool false) := by rw [← hW]; rw [World.cell?_setCell_other _ _ _ _ (by simp)]; exact World.cell?_setCell_same _ _ _ (by rw [World.cell?_setCell_other _ _ _ _ (by simp), World.cell?_setCell_other _ _ _ _ (by simp), World.cell?_setCell_other _ _ _ _ (by simp)]; exact nR3.out)
          have e4 : ww5.cell? ⟨w.heap.size + 1 + 1, 4, none⟩ = some (.slice none 0 0) := by rw [← hW]; exact World.cell?_setCell_same _ _ _ (by rw [World.cell?_setCell_other _ _ _ _ (by simp), World.cell?_setCell_other _ _ _ _ (by simp), World.cell?_setCell_other _ _ _ _ (by simp), World.cell?_setCell_other _ _ _ _ (by simp)]; exact nR4.out)
          have z5 := hk.size
          replace fR0 := Lib.hid (show ww5.frozen? ⟨w.heap.size + 1 + 1, 0, none⟩ = false by rw [hfz]; exact fR0.out)
          replace fR1 := Lib.hid (show ww5.frozen? ⟨w.heap.size + 1 + 1, 1, none⟩ = false by rw [hfz]; exact fR1.out)
          replace fR2 := Lib.hid (show ww5.frozen? ⟨w.heap.size + 1 + 1, 2, none⟩ = false by rw [hfz]; exact fR2.out)
          replace fR3 := Lib.hid (show ww5.frozen? ⟨w.heap.size + 1 + 1, 3, none⟩ = false by rw [hfz]; exact fR3.out)
          replace fR4 := Lib.hid (show ww5.frozen? ⟨w.heap.size + 1 + 1, 4, none⟩ = false by rw [hfz]; exact fR4.out)
          replace nA0 := Lib.hid (hk.cell (p := ⟨w.heap.size, 0, none⟩) nA0.out (by simp <;> omega))
          replace nA1 := Lib.hid (hk.cell (p := ⟨w.heap.size, 1, none⟩) nA1.out (by simp <;> omega))
          replace nB0 := Lib.hid (hk.cell (p := ⟨w.heap.size + 1, 0, none⟩) nB0.out (by simp <;> omega))
          replace nB1 := Lib.hid (hk.cell (p := ⟨w.heap.size + 1, 1, none⟩) nB1.out (by simp <;> omega))
          replace HS := Lib.hid (HS.out.kept hk (fun hn y hy hm => by have h9 := FS.out hn y hy; simp at hm; omega))
          replace HS' := Lib.hid (HS'.out.kept hk (fun hn y hy hm => by have h9 := FS'.out hn y hy; simp at hm; omega))
          replace nR0 := Lib.hid e0
          replace nR1 := Lib.hid e1
          replace nR2 := Lib.hid e2
          replace nR3 := Lib.hid e3
          replace nR4 := Lib.hid e4
          replace KT := Lib.hid (KT.out.trans hk (fun x hx hlt => by simp at hx; omega))
          clear hk hfz hW e0 e1 e2 e3 e4
          have e0 := nR0.out
          have e1 := nR1.out
          have e2 := nR2.out
          have e3 := nR3.out
          have e4 := nR4.out
          refine bodyPost_ret (v := .agg #[.int .i64 2, .bool false, .slice none 0 0, .bool false, .slice none 0 0]) (by simp [results, Try.results39, go_sem, e0, e1, e2, e3, e4]) rfl ?_
          exact spanR_no KT.out
        obtain ⟨k, rfl⟩ : ∃ k : Nat, P = (k : Int) := ⟨P.toNat, by rcases isP_cases hP with h | h | h <;> omega⟩
        have hk96 : k ≤ 96 := by rcases isP_cases hP with h | h | h <;> omega
        obtain ⟨u, hu⟩ : ∃ u, u = inU (k : Int) p xs := ⟨_, rfl⟩
        obtain ⟨hx, hy⟩ := bigFault2_zero hz
        have hul : (mag u).length ≤ 27 := by rw [hu]; exact inU_len hP hx (by omega)
        obtain ⟨t1, ht1⟩ : ∃ t, t = divZ false (isNeg u) q (val (mag u)) (val ys) := ⟨_, rfl⟩
        obtain ⟨t2, ht2⟩ : ∃ t, t = divZ true (isNeg u) q (val (mag u)) (val ys) := ⟨_, rfl⟩
        obtain ⟨r, hr⟩ : ∃ r, r = fitS t1 t2 := ⟨_, rfl⟩
        rw [show ratS (k : Int) p xs q ys = r from by unfold ratS; rw [if_pos hP, twoS_zero hz, if_neg hy0, if_neg (by omega), ← hu, ← ht1, ← ht2, hr]]
        have hm0 : ((m : Int) == 0) = false := by rw [beq_eq_false_iff_ne]; omega
        have HU := Lib.hid (show u = sv p xs * p2 k from hu)
        have HZ := Lib.hid hz
        have HP := Lib.hid hP
        have HR := Lib.hid hr
        have HT1 := Lib.hid ht1
        have HT2 := Lib.hid ht2
        have HX := Lib.hid hx
        have HY := Lib.hid hy
        have HY0 := Lib.hid hy0
        have HUO := Lib.hid (bigOk_of (z := u) (by omega))
        clear hz hP hr ht1 ht2 hx hy hu hy0 hM hL
        go_enter Try.func39, Try.ntmps39
        go_wp2_with fail
        generalize hW : (((w.alloc (.cells #[.bool p, .slice a n c] 29)).alloc (.cells #[.bool q, .slice b m d] 29)).alloc (.cells #[.int .i64 0, .bool false, .slice none 0 0, .bool false, .slice none 0 0] 38)) = ww0
        have hkk : Kept [] (((w.alloc (.cells #[.bool p, .slice a n c] 29)).alloc (.cells #[.bool q, .slice b m d] 29)).alloc (.cells #[.int .i64 0, .bool false, .slice none 0 0, .bool false, .slice none 0 0] 38)) ww0 := by rw [hW]; exact Kept.refl _ _
        have zzA : w.heap.size + 1 + 1 + 1 = ww0.heap.size := by rw [← hW]; simp
        have nA0 := Lib.hid (hkk.peel.peel.top (g := w.heap.size) (by simp) (by simp) 0 (v := .bool p) rfl).1
        have nA1 := Lib.hid (hkk.peel.peel.top (g := w.heap.size) (by simp) (by simp) 1 (v := .slice a n c) rfl).1
        have nB0 := Lib.hid (hkk.peel.top (g := w.heap.size + 1) (by simp) (by simp) 0 (v := .bool q) rfl).1
        have nB1 := Lib.hid (hkk.peel.top (g := w.heap.size + 1) (by simp) (by simp) 1 (v := .slice b m d) rfl).1
        have nR0 := Lib.hid (hkk.top (g := w.heap.size + 1 + 1) (by simp) (by simp) 0 (v := .int .i64 0) rfl).1
        have fR0 := Lib.hid (hkk.top (g := w.heap.size + 1 + 1) (by simp) (by simp) 0 (v := .int .i64 0) rfl).2.1
        have nR1 := Lib.hid (hkk.top (g := w.heap.size + 1 + 1) (by simp) (by simp) 1 (v := .bool false) rfl).1
        have fR1 := Lib.hid (hkk.top (g := w.heap.size + 1 + 1) (by simp) (by simp) 1 (v := .bool false) rfl).2.1
        have nR2 := Lib.hid (hkk.top (g := w.heap.size + 1 + 1) (by simp) (by simp) 2 (v := .slice none 0 0) rfl).1
        have fR2 := Lib.hid (hkk.top (g := w.heap.size + 1 + 1) (by simp) (by simp) 2 (v := .slice none 0 0) rfl).2.1
        have nR3 := Lib.hid (hkk.top (g := w.heap.size + 1 + 1) (by simp) (by simp) 3 (v := .bool false) rfl).1
        have fR3 := Lib.hid (hkk.top (g := w.heap.size + 1 + 1) (by simp) (by simp) 3 (v := .bool false) rfl).2.1
        have nR4 := Lib.hid (hkk.top (g := w.heap.size + 1 + 1) (by simp) (by simp) 4 (v := .slice none 0 0) rfl).1
        have fR4 := Lib.hid (hkk.top (g := w.heap.size + 1 + 1) (by simp) (by simp) 4 (v := .slice none 0 0) rfl).2.1
        have hk := hkk.peel.peel.peel
        clear hkk hW
        have z0 := hk.size
        have KT := Lib.hid hk
        clear hk
        replace HS := Lib.hid (HS.out.kept0 KT.out)
        replace HS' := Lib.hid (HS'.out.kept0 KT.out)
        refine (isPrecision_any _ _).mono ?_
        rintro e ww1 ⟨rfl, hk⟩
        rw [HP.out]
        have z1 := hk.size
        replace fR0 := Lib.hid (hk.free' (p := ⟨w.heap.size + 1 + 1, 0, none⟩) nR0.out fR0.out (by simp))
        replace fR1 := Lib.hid (hk.free' (p := ⟨w.heap.size + 1 + 1, 1, none⟩) nR1.out fR1.out (by simp))
        replace fR2 := Lib.hid (hk.free' (p := ⟨w.heap.size + 1 + 1, 2, none⟩) nR2.out fR2.out (by simp))
        replace fR3 := Lib.hid (hk.free' (p := ⟨w.heap.size + 1 + 1, 3, none⟩) nR3.out fR3.out (by simp))
        replace fR4 := Lib.hid (hk.free' (p := ⟨w.heap.size + 1 + 1, 4, none⟩) nR4.out fR4.out (by simp))
        replace nA0 := Lib.hid (hk.cell (p := ⟨w.heap.size, 0, none⟩) nA0.out (by simp))
        replace nA1 := Lib.hid (hk.cell (p := ⟨w.heap.size, 1, none⟩) nA1.out (by simp))
        replace nB0 := Lib.hid (hk.cell (p := ⟨w.heap.size + 1, 0, none⟩) nB0.out (by simp))
        replace nB1 := Lib.hid (hk.cell (p := ⟨w.heap.size + 1, 1, none⟩) nB1.out (by simp))
        replace nR0 := Lib.hid (hk.cell (p := ⟨w.heap.size + 1 + 1, 0, none⟩) nR0.out (by simp))
        replace nR1 := Lib.hid (hk.cell (p := ⟨w.heap.size + 1 + 1, 1, none⟩) nR1.out (by simp))
        replace nR2 := Lib.hid (hk.cell (p := ⟨w.heap.size + 1 + 1, 2, none⟩) nR2.out (by simp))
        replace nR3 := Lib.hid (hk.cell (p := ⟨w.heap.size + 1 + 1, 3, none⟩) nR3.out (by simp))
        replace nR4 := Lib.hid (hk.cell (p := ⟨w.heap.size + 1 + 1, 4, none⟩) nR4.out (by simp))
        replace HS := Lib.hid (HS.out.kept0 hk)
        replace HS' := Lib.hid (HS'.out.kept0 hk)
        replace KT := Lib.hid (KT.out.trans0 hk)
        clear hk
        have tA0 := nA0.out
        have tA1 := nA1.out
        have tB0 := nB0.out
        have tB1 := nB1.out
        go_wp2_with fail
        clear tA0 tA1 tB0 tB1
        refine (firstBigFault_two _ _ _ _ _ _ _ _ _ _ _ _ (by omega) HS.out.rd HS'.out.rd).mono ?_
        rintro e ww2 ⟨rfl, hk⟩
        rw [HZ.out]
        have z2 := hk.size
        replace fR0 := Lib.hid (hk.free' (p := ⟨w.heap.size + 1 + 1, 0, none⟩) nR0.out fR0.out (by simp))
        replace fR1 := Lib.hid (hk.free' (p := ⟨w.heap.size + 1 + 1, 1, none⟩) nR1.out fR1.out (by simp))
        replace fR2 := Lib.hid (hk.free' (p := ⟨w.heap.size + 1 + 1, 2, none⟩) nR2.out fR2.out (by simp))
        replace fR3 := Lib.hid (hk.free' (p := ⟨w.heap.size + 1 + 1, 3, none⟩) nR3.out fR3.out (by simp))
        replace fR4 := Lib.hid (hk.free' (p := ⟨w.heap.size + 1 + 1, 4, none⟩) nR4.out fR4.out (by simp))
        replace nA0 := Lib.hid (hk.cell (p := ⟨w.heap.size, 0, none⟩) nA0.out (by simp))
        replace nA1 := Lib.hid (hk.cell (p := ⟨w.heap.size, 1, none⟩) nA1.out (by simp))
        replace nB0 := Lib.hid (hk.cell (p := ⟨w.heap.size + 1, 0, none⟩) nB0.out (by simp))
        replace nB1 := Lib.hid (hk.cell (p := ⟨w.heap.size + 1, 1, none⟩) nB1.out (by simp))
        replace nR0 := Lib.hid (hk.cell (p := ⟨w.heap.size + 1 + 1, 0, none⟩) nR0.out (by simp))
        replace nR1 := Lib.hid (hk.cell (p := ⟨w.heap.size + 1 + 1, 1, none⟩) nR1.out (by simp))
        replace nR2 := Lib.hid (hk.cell (p := ⟨w.heap.size + 1 + 1, 2, none⟩) nR2.out (by simp))
        replace nR3 := Lib.hid (hk.cell (p := ⟨w.heap.size + 1 + 1, 3, none⟩) nR3.out (by simp))
        replace nR4 := Lib.hid (hk.cell (p := ⟨w.heap.size + 1 + 1, 4, none⟩) nR4.out (by simp))
        replace HS := Lib.hid (HS.out.kept0 hk)
        replace HS' := Lib.hid (HS'.out.kept0 hk)
        replace KT := Lib.hid (KT.out.trans0 hk)
        clear hk
        have tA0 := nA0.out
        have tA1 := nA1.out
        have tB0 := nB0.out
        have tB1 := nB1.out
        go_wp2_with fail
        clear tA0 tA1 tB0 tB1
        refine (isTooLong_no _ _ _ _ _ g20).mono ?_
        rintro e ww3 ⟨rfl, hk⟩
        have z3 := hk.size
        replace fR0 := Lib.hid (hk.free' (p := ⟨w.heap.size + 1 + 1, 0, none⟩) nR0.out fR0.out (by simp))
        replace fR1 := Lib.hid (hk.free' (p := ⟨w.heap.size + 1 + 1, 1, none⟩) nR1.out fR1.out (by simp))
        replace fR2 := Lib.hid (hk.free' (p := ⟨w.heap.size + 1 + 1, 2, none⟩) nR2.out fR2.out (by simp))
        replace fR3 := Lib.hid (hk.free' (p := ⟨w.heap.size + 1 + 1, 3, none⟩) nR3.out fR3.out (by simp))
        replace fR4 := Lib.hid (hk.free' (p := ⟨w.heap.size + 1 + 1, 4, none⟩) nR4.out fR4.out (by simp))
        replace nA0 := Lib.hid (hk.cell (p := ⟨w.heap.size, 0, none⟩) nA0.out (by simp))
        replace nA1 := Lib.hid (hk.cell (p := ⟨w.heap.size, 1, none⟩) nA1.out (by simp))
        replace nB0 := Lib.hid (hk.cell (p := ⟨w.heap.size + 1, 0, none⟩) nB0.out (by simp))
        replace nB1 := Lib.hid (hk.cell (p := ⟨w.heap.size + 1, 1, none⟩) nB1.out (by simp))
        replace nR0 := Lib.hid (hk.cell (p := ⟨w.heap.size + 1 + 1, 0, none⟩) nR0.out (by simp))
        replace nR1 := Lib.hid (hk.cell (p := ⟨w.heap.size + 1 + 1, 1, none⟩) nR1.out (by simp))
        replace nR2 := Lib.hid (hk.cell (p := ⟨w.heap.size + 1 + 1, 2, none⟩) nR2.out (by simp))
        replace nR3 := Lib.hid (hk.cell (p := ⟨w.heap.size + 1 + 1, 3, none⟩) nR3.out (by simp))
        replace nR4 := Lib.hid (hk.cell (p := ⟨w.heap.size + 1 + 1, 4, none⟩) nR4.out (by simp))
        replace HS := Lib.hid (HS.out.kept0 hk)
        replace HS' := Lib.hid (HS'.out.kept0 hk)
        replace KT := Lib.hid (KT.out.trans0 hk)
        clear hk
        have tB0 := nB0.out
        have tB1 := nB1.out
        go_wp2_with fail
        clear tB0 tB1
        refine (isTooLong_no _ _ _ _ _ h20).mono ?_
        rintro e ww4 ⟨rfl, hk⟩
        have z4 := hk.size
        replace fR0 := Lib.hid (hk.free' (p := ⟨w.heap.size + 1 + 1, 0, none⟩) nR0.out fR0.out (by simp))
        replace fR1 := Lib.hid (hk.free' (p := ⟨w.heap.size + 1 + 1, 1, none⟩) nR1.out fR1.out (by simp))
        replace fR2 := Lib.hid (hk.free' (p := ⟨w.heap.size + 1 + 1, 2, none⟩) nR2.out fR2.out (by simp))
        replace fR3 := Lib.hid (hk.free' (p := ⟨w.heap.size + 1 + 1, 3, none⟩) nR3.out fR3.out (by simp))
        replace fR4 := Lib.hid (hk.free' (p := ⟨w.heap.size + 1 + 1, 4, none⟩) nR4.out fR4.out (by simp))
        replace nA0 := Lib.hid (hk.cell (p := ⟨w.heap.size, 0, none⟩) nA0.out (by simp))
        replace nA1 := Lib.hid (hk.cell (p := ⟨w.heap.size, 1, none⟩) nA1.out (by simp))
        replace nB0 := Lib.hid (hk.cell (p := ⟨w.heap.size + 1, 0, none⟩) nB0.out (by simp))
        replace nB1 := Lib.hid (hk.cell (p := ⟨w.heap.size + 1, 1, none⟩) nB1.out (by simp))
        replace nR0 := Lib.hid (hk.cell (p := ⟨w.heap.size + 1 + 1, 0, none⟩) nR0.out (by simp))
        replace nR1 := Lib.hid (hk.cell (p := ⟨w.heap.size + 1 + 1, 1, none⟩) nR1.out (by simp))
        replace nR2 := Lib.hid (hk.cell (p := ⟨w.heap.size + 1 + 1, 2, none⟩) nR2.out (by simp))
        replace nR3 := Lib.hid (hk.cell (p := ⟨w.heap.size + 1 + 1, 3, none⟩) nR3.out (by simp))
        replace nR4 := Lib.hid (hk.cell (p := ⟨w.heap.size + 1 + 1, 4, none⟩) nR4.out (by simp))
        replace HS := Lib.hid (HS.out.kept0 hk)
        replace HS' := Lib.hid (HS'.out.kept0 hk)
        replace KT := Lib.hid (KT.out.trans0 hk)
        clear hk
        have tA0 := nA0.out
        have tA1 := nA1.out
        go_wp2_with fail
        clear tA0 tA1
        refine (inUnits_any k _ _ _ _ _ u _ hk96 HS.out HX.out (by omega) HU.out).mono ?_
        rintro e ww5 ⟨a0, c0, rfl, hs0, hf0, hk⟩
        have SU := Lib.hid hs0
        have GU := Lib.hid (hf0.mono (B' := w.heap.size + 1 + 1 + 1) (by omega))
        clear hs0 hf0
        have z5 := hk.size
        replace fR0 := Lib.hid (hk.free' (p := ⟨w.heap.size + 1 + 1, 0, none⟩) nR0.out fR0.out (by simp))
        replace fR1 := Lib.hid (hk.free' (p := ⟨w.heap.size + 1 + 1, 1, none⟩) nR1.out fR1.out (by simp))
        replace fR2 := Lib.hid (hk.free' (p := ⟨w.heap.size + 1 + 1, 2, none⟩) nR2.out fR2.out (by simp))
        replace fR3 := Lib.hid (hk.free' (p := ⟨w.heap.size + 1 + 1, 3, none⟩) nR3.out fR3.out (by simp))
        replace fR4 := Lib.hid (hk.free' (p := ⟨w.heap.size + 1 + 1, 4, none⟩) nR4.out fR4.out (by simp))
        replace nA0 := Lib.hid (hk.cell (p := ⟨w.heap.size, 0, none⟩) nA0.out (by simp))
        replace nA1 := Lib.hid (hk.cell (p := ⟨w.heap.size, 1, none⟩) nA1.out (by simp))
        replace nB0 := Lib.hid (hk.cell (p := ⟨w.heap.size + 1, 0, none⟩) nB0.out (by simp))
        replace nB1 := Lib.hid (hk.cell (p := ⟨w.heap.size + 1, 1, none⟩) nB1.out (by simp))
        replace nR0 := Lib.hid (hk.cell (p := ⟨w.heap.size + 1 + 1, 0, none⟩) nR0.out (by simp))
        replace nR1 := Lib.hid (hk.cell (p := ⟨w.heap.size + 1 + 1, 1, none⟩) nR1.out (by simp))
        replace nR2 := Lib.hid (hk.cell (p := ⟨w.heap.size + 1 + 1, 2, none⟩) nR2.out (by simp))
        replace nR3 := Lib.hid (hk.cell (p := ⟨w.heap.size + 1 + 1, 3, none⟩) nR3.out (by simp))
        replace nR4 := Lib.hid (hk.cell (p := ⟨w.heap.size + 1 + 1, 4, none⟩) nR4.out (by simp))
        replace HS := Lib.hid (HS.out.kept0 hk)
        replace HS' := Lib.hid (HS'.out.kept0 hk)
        replace KT := Lib.hid (KT.out.trans0 hk)
        clear hk
        go_upto_region 11 with fail
        generalize hW : (ww5.alloc (.cells #[.bool (isNeg u), .slice a0 (mag u).length c0] 29)) = ww6
        have hk : Kept [] ww5 ww6 := by rw [← hW]; exact (Kept.refl [] _).alloc _
        have zzU : ww5.heap.size + 1 = ww6.heap.size := by rw [← hW]; simp
        have nU0 := Lib.hid (show ww6.cell? ⟨ww5.heap.size, 0, none⟩ = some (.bool (isNeg u)) by rw [← hW, World.cell?_alloc_new]; rfl)
        have nU1 := Lib.hid (show ww6.cell? ⟨ww5.heap.size, 1, none⟩ = some (.slice a0 (mag u).length c0) by rw [← hW, World.cell?_alloc_new]; rfl)
        clear hW
        have z6 := hk.size
        replace fR0 := Lib.hid (hk.free' (p := ⟨w.heap.size + 1 + 1, 0, none⟩) nR0.out fR0.out (by simp))
        replace fR1 := Lib.hid (hk.free' (p := ⟨w.heap.size + 1 + 1, 1, none⟩) nR1.out fR1.out (by simp))
        replace fR2 := Lib.hid (hk.free' (p := ⟨w.heap.size + 1 + 1, 2, none⟩) nR2.out fR2.out (by simp))
        replace fR3 := Lib.hid (hk.free' (p := ⟨w.heap.size + 1 + 1, 3, none⟩) nR3.out fR3.out (by simp))
        replace fR4 := Lib.hid (hk.free' (p := ⟨w.heap.size + 1 + 1, 4, none⟩) nR4.out fR4.out (by simp))
        replace nA0 := Lib.hid (hk.cell (p := ⟨w.heap.size, 0, none⟩) nA0.out (by simp))
        replace nA1 := Lib.hid (hk.cell (p := ⟨w.heap.size, 1, none⟩) nA1.out (by simp))
        replace nB0 := Lib.hid (hk.cell (p := ⟨w.heap.size + 1, 0, none⟩) nB0.out (by simp))
        replace nB1 := Lib.hid (hk.cell (p := ⟨w.heap.size + 1, 1, none⟩) nB1.out (by simp))
        replace nR0 := Lib.hid (hk.cell (p := ⟨w.heap.size + 1 + 1, 0, none⟩) nR0.out (by simp))
        replace nR1 := Lib.hid (hk.cell (p := ⟨w.heap.size + 1 + 1, 1, none⟩) nR1.out (by simp))
        replace nR2 := Lib.hid (hk.cell (p := ⟨w.heap.size + 1 + 1, 2, none⟩) nR2.out (by simp))
        replace nR3 := Lib.hid (hk.cell (p := ⟨w.heap.size + 1 + 1, 3, none⟩) nR3.out (by simp))
        replace nR4 := Lib.hid (hk.cell (p := ⟨w.heap.size + 1 + 1, 4, none⟩) nR4.out (by simp))
        replace HS := Lib.hid (HS.out.kept0 hk)
        replace HS' := Lib.hid (HS'.out.kept0 hk)
        replace SU := Lib.hid (SU.out.kept0 hk)
        replace KT := Lib.hid (KT.out.trans0 hk)
        clear hk
        have tU0 := nU0.out
        have tU1 := nU1.out
        have tB0 := nB0.out
        have tB1 := nB1.out
        go_region_held3 (fun w' => w'.cell? ⟨ww5.heap.size, 0, none⟩ = some (.bool (isNeg u)) ∧ w'.cell? ⟨ww5.heap.size, 1, none⟩ = some (.slice a0 (mag u).length c0) ∧ w'.cell? ⟨w.heap.size + 1, 0, none⟩ = some (.bool q) ∧ w'.cell? ⟨w.heap.size + 1, 1, none⟩ = some (.slice b m d) ∧ Hid (Kept [w.heap.size + 1 + 1] ww6 w'))
          ((go_split_ands; (try refine ⟨?_, ?_, ?_, ?_, ?_⟩) <;> with_reducible first | exact Kept.set5 (by assumption) | exact cell_set5 (by assumption) (by simp <;> omega) | exact Lib.hid ((Kept.refl _ _).drew) | exact drew_cell (by assumption) | exact Kept.allocH (by assumption) | exact alloc_cell (by assumption) | exact Lib.hid (Kept.trans0 (Hid.out (by assumption)) (by assumption)) | exact Kept.cell (by assumption) (by assumption) (by simp)))
          (first
            | (go_at_call 77; go_split_ands; refine (FloorDiv_z _ _ _ _ _ _ _ _ _ _ _ _ (SU.out.kept0 ((Kept.refl [] _).drew)) (HS'.out.kept0 ((Kept.refl [] _).drew)) HUO.out HY.out HY0.out (by omega) HT1.out).mono ?_; rintro e v1 ⟨a1, c1, rfl, hs1, hf1, hk1⟩)
            | (go_at_call 78; go_split_ands; refine (CeilDiv_z _ _ _ _ _ _ _ _ _ _ _ _ (SU.out.kept0 (((Kept.refl [] _).drew).trans0 hk1)) (HS'.out.kept0 (((Kept.refl [] _).drew).trans0 hk1)) HUO.out HY.out HY0.out (by omega) HT2.out).mono ?_; rintro e v2 ⟨a2, c2, rfl, hs2, hf2, hk2⟩)
            | (go_at_call 61; go_split_ands; refine (spanResult_any _ _ _ _ _ _ _ _ _ (hs1.kept0 hk2) hs2).mono ?_; rintro e v3 ⟨a3, c3, b3, d3, rfl, hs3, hs4, hf3, hf4, hne, hk3⟩; have z12 := (hk1.trans0 hk2).size; simp only [World.size_drew] at z12; have hkr := ((((Kept.refl [] ww6).drew).trans0 hk1).trans0 hk2).trans0 hk3; have rg0 := hkr.cell (p := ⟨w.heap.size + 1 + 1, 0, none⟩) nR0.out (by simp); have rg1 := hkr.cell (p := ⟨w.heap.size + 1 + 1, 1, none⟩) nR1.out (by simp); have rg2 := hkr.cell (p := ⟨w.heap.size + 1 + 1, 2, none⟩) nR2.out (by simp); have rg3 := hkr.cell (p := ⟨w.heap.size + 1 + 1, 3, none⟩) nR3.out (by simp); have rg4 := hkr.cell (p := ⟨w.heap.size + 1 + 1, 4, none⟩) nR4.out (by simp); have ru0 := hkr.free' (p := ⟨w.heap.size + 1 + 1, 0, none⟩) nR0.out fR0.out (by simp); have ru1 := hkr.free' (p := ⟨w.heap.size + 1 + 1, 1, none⟩) nR1.out fR1.out (by simp); have ru2 := hkr.free' (p := ⟨w.heap.size + 1 + 1, 2, none⟩) nR2.out fR2.out (by simp); have ru3 := hkr.free' (p := ⟨w.heap.size + 1 + 1, 3, none⟩) nR3.out fR3.out (by simp); have ru4 := hkr.free' (p := ⟨w.heap.size + 1 + 1, 4, none⟩) nR4.out fR4.out (by simp)))
        clear tU0 tU1 tB0 tB1
        have hk := hkr
        clear hkr
        clear hs1 hf1 hs2 hf2 hk1 hk2 hk3
        rw [← HR.out] at hs3 hs4 hf3 hf4 hne ⊢
        have z7 := hk.size
        replace fR0 := Lib.hid (hk.free' (p := ⟨w.heap.size + 1 + 1, 0, none⟩) nR0.out fR0.out (by simp))
        replace fR1 := Lib.hid (hk.free' (p := ⟨w.heap.size + 1 + 1, 1, none⟩) nR1.out fR1.out (by simp))
        replace fR2 := Lib.hid (hk.free' (p := ⟨w.heap.size + 1 + 1, 2, none⟩) nR2.out fR2.out (by simp))
        replace fR3 := Lib.hid (hk.free' (p := ⟨w.heap.size + 1 + 1, 3, none⟩) nR3.out fR3.out (by simp))
        replace fR4 := Lib.hid (hk.free' (p := ⟨w.heap.size + 1 + 1, 4, none⟩) nR4.out fR4.out (by simp))
        replace nA0 := Lib.hid (hk.cell (p := ⟨w.heap.size, 0, none⟩) nA0.out (by simp))
        replace nA1 := Lib.hid (hk.cell (p := ⟨w.heap.size, 1, none⟩) nA1.out (by simp))
        replace nB0 := Lib.hid (hk.cell (p := ⟨w.heap.size + 1, 0, none⟩) nB0.out (by simp))
        replace nB1 := Lib.hid (hk.cell (p := ⟨w.heap.size + 1, 1, none⟩) nB1.out (by simp))
        replace nR0 := Lib.hid (hk.cell (p := ⟨w.heap.size + 1 + 1, 0, none⟩) nR0.out (by simp))
        replace nR1 := Lib.hid (hk.cell (p := ⟨w.heap.size + 1 + 1, 1, none⟩) nR1.out (by simp))
        replace nR2 := Lib.hid (hk.cell (p := ⟨w.heap.size + 1 + 1, 2, none⟩) nR2.out (by simp))
        replace nR3 := Lib.hid (hk.cell (p := ⟨w.heap.size + 1 + 1, 3, none⟩) nR3.out (by simp))
        replace nR4 := Lib.hid (hk.cell (p := ⟨w.heap.size + 1 + 1, 4, none⟩) nR4.out (by simp))
        replace HS := Lib.hid (HS.out.kept0 hk)
        replace HS' := Lib.hid (HS'.out.kept0 hk)
        replace SU := Lib.hid (SU.out.kept0 hk)
        replace nU0 := Lib.hid (hk.cell (p := ⟨ww5.heap.size, 0, none⟩) nU0.out (by simp))
        replace nU1 := Lib.hid (hk.cell (p := ⟨ww5.heap.size, 1, none⟩) nU1.out (by simp))
        replace KT := Lib.hid (KT.out.trans0 hk)
        clear hk
        have hs3 := Lib.hid hs3
        have hs4 := Lib.hid hs4
        have HNE := Lib.hid hne
        have G3 := Lib.hid (hf3.mono (B' := w.heap.size + 1 + 1 + 1) (by omega))
        have G4 := Lib.hid (hf4.mono (B' := w.heap.size + 1 + 1 + 1) (by omega))
        clear hf3 hf4 hne
        generalize hW : (((((v3.setCell ⟨w.heap.size + 1 + 1, 0, none⟩ (.int .i64 r.code)).setCell ⟨w.heap.size + 1 + 1, 1, none⟩ (.bool (isNeg r.lo))).setCell ⟨w.heap.size + 1 + 1, 2, none⟩ (.slice a3 (mag r.lo).length c3)).setCell ⟨w.heap.size + 1 + 1, 3, none⟩ (.bool (isNeg r.hi))).setCell ⟨w.heap.size + 1 + 1, 4, none⟩ (.slice b3 (mag r.hi).length d3)) = ww8
        have hk : Kept [w.heap.size + 1 + 1] v3 ww8 := by rw [← hW]; exact (((((Kept.refl _ _).setCell _ _ (by simp)).setCell _ _ (by simp)).setCell _ _ (by simp)).setCell _ _ (by simp)).setCell _ _ (by simp)
        have hfz : ∀ x, ww8.frozen? x = v3.frozen? x := by rw [← hW]; intro x; simp only [World.frozen?_setCell]
        have e0 : ww8.cell? ⟨w.heap.size + 1 + 1, 0, none⟩ = some (.int .i64 r.code) := by rw [← hW]; rw [World.cell?_setCell_other _ _ _ _ (by simp), World.cell?_setCell_other _ _ _ _ (by simp), World.cell?_setCell_other _ _ _ _ (by simp), World.cell?_setCell_other _ _ _ _ (by simp)]; exact World.cell?_setCell_same _ _ _ (by exact nR0.out)
        have e1 : ww8.cell? ⟨w.heap.size + 1 + 1, 1, none⟩ = some (.bool (isNeg r.lo)) := by rw [← hW]; rw [World.cell?_setCell_other _ _ _ _ (by simp), World.cell?_setCell_other _ _ _ _ (by simp), World.cell?_setCell_other _ _ _ _ (by simp)]; exact World.cell?_setCell_same _ _ _ (by rw [World.cell?_setCell_other _ _ _ _ (by simp)]; exact nR1.out)
        have e2 : ww8.cell? ⟨w.heap.size + 1 + 1, 2, none⟩ = some (.slice a3 (mag r.lo).length c3) := by rw [← hW]; rw [World.cell?_setCell_other _ _ _ _ (by simp), World.cell?_setCell_other _ _ _ _ (by simp)]; exact World.cell?_setCell_same _ _ _ (by rw [World.cell?_setCell_other _ _ _ _ (by simp), World.cell?_setCell_other _ _ _ _ (by simp)]; exact nR2.out)
        have e3 : ww8.cell? ⟨w.heap.size + 1 + 1, 3, none⟩ = some (.bool (isNeg r.hi)) := by rw [← hW]; rw [World.cell?_setCell_other _ _ _ _ (by simp)]; exact World.cell?_setCell_same _ _ _ (by rw [World.cell?_setCell_other _ _ _ _ (by simp), World.cell?_setCell_other _ _ _ _ (by simp), World.cell?_setCell_other _ _ _ _ (by simp)]; exact nR3.out)
        have e4 : ww8.cell? ⟨w.heap.size + 1 + 1, 4, none⟩ = some (.slice b3 (mag r.hi).length d3) := by rw [← hW]; exact World.cell?_setCell_same _ _ _ (by rw [World.cell?_setCell_other _ _ _ _ (by simp), World.cell?_setCell_other _ _ _ _ (by simp), World.cell?_setCell_other _ _ _ _ (by simp), World.cell?_setCell_other _ _ _ _ (by simp)]; exact nR4.out)
        have z8 := hk.size
        replace fR0 := Lib.hid (show ww8.frozen? ⟨w.heap.size + 1 + 1, 0, none⟩ = false by rw [hfz]; exact fR0.out)
        replace fR1 := Lib.hid (show ww8.frozen? ⟨w.heap.size + 1 + 1, 1, none⟩ = false by rw [hfz]; exact fR1.out)
        replace fR2 := Lib.hid (show ww8.frozen? ⟨w.heap.size + 1 + 1, 2, none⟩ = false by rw [hfz]; exact fR2.out)
        replace fR3 := Lib.hid (show ww8.frozen? ⟨w.heap.size + 1 + 1, 3, none⟩ = false by rw [hfz]; exact fR3.out)
        replace fR4 := Lib.hid (show ww8.frozen? ⟨w.heap.size + 1 + 1, 4, none⟩ = false by rw [hfz]; exact fR4.out)
        replace nA0 := Lib.hid (hk.cell (p := ⟨w.heap.size, 0, none⟩) nA0.out (by simp <;> omega))
        replace nA1 := Lib.hid (hk.cell (p := ⟨w.heap.size, 1, none⟩) nA1.out (by simp <;> omega))
        replace nB0 := Lib.hid (hk.cell (p := ⟨w.heap.size + 1, 0, none⟩) nB0.out (by simp <;> omega))
        replace nB1 := Lib.hid (hk.cell (p := ⟨w.heap.size + 1, 1, none⟩) nB1.out (by simp <;> omega))
        replace HS := Lib.hid (HS.out.kept hk (fun hn y hy hm => by have h9 := FS.out hn y hy; simp at hm; omega))
        replace HS' := Lib.hid (HS'.out.kept hk (fun hn y hy hm => by have h9 := FS'.out hn y hy; simp at hm; omega))
        replace SU := Lib.hid (SU.out.kept hk (fun hn y hy hm => by have h9 := GU.out hn y hy; simp at hm; omega))
        replace nU0 := Lib.hid (hk.cell (p := ⟨ww5.heap.size, 0, none⟩) nU0.out (by simp <;> omega))
        replace nU1 := Lib.hid (hk.cell (p := ⟨ww5.heap.size, 1, none⟩) nU1.out (by simp <;> omega))
        replace hs3 := Lib.hid (hs3.out.kept hk (fun hn y hy hm => by have h9 := G3.out hn y hy; simp at hm; omega))
        replace hs4 := Lib.hid (hs4.out.kept hk (fun hn y hy hm => by have h9 := G4.out hn y hy; simp at hm; omega))
        replace nR0 := Lib.hid e0
        replace nR1 := Lib.hid e1
        replace nR2 := Lib.hid e2
        replace nR3 := Lib.hid e3
        replace nR4 := Lib.hid e4
        replace KT := Lib.hid (KT.out.trans hk (fun x hx hlt => by simp at hx; omega))
        clear hk hfz hW e0 e1 e2 e3 e4
        go_wp2_with fail
        have e0 := nR0.out
        have e1 := nR1.out
        have e2 := nR2.out
        have e3 := nR3.out
        have e4 := nR4.out
        refine bodyPost_ret (v := .agg #[.int .i64 r.code, .bool (isNeg r.lo), .slice a3 (mag r.lo).length c3, .bool (isNeg r.hi), .slice b3 (mag r.hi).length d3]) (by simp [results, Try.results39, go_sem, e0, e1, e2, e3, e4]) rfl ?_
        exact ⟨a3, c3, b3, d3, rfl, hs3.out, hs4.out, G3.out.mono (by omega), G4.out.mono (by omega), HNE.out, KT.out⟩
    · skip
      rw [show ratS P p xs q ys = noSpan (bigFault2 p xs q ys) from by unfold ratS; rw [if_pos hP, twoS_not hz]]
      generalize hf : bigFault2 p xs q ys = f at *
      have hne : (f == 0) = false := by rw [beq_eq_false_iff_ne]; exact hz
      have HZ := Lib.hid hf
      have HP := Lib.hid hP
      clear hf hz hP hM hL
      go_enter Try.func39, Try.ntmps39
      go_wp2_with fail
      generalize hW : (((w.alloc (.cells #[.bool p, .slice a n c] 29)).alloc (.cells #[.bool q, .slice b m d] 29)).alloc (.cells #[.int .i64 0, .bool false, .slice none 0 0, .bool false, .slice none 0 0] 38)) = ww0
      have hkk : Kept [] (((w.alloc (.cells #[.bool p, .slice a n c] 29)).alloc (.cells #[.bool q, .slice b m d] 29)).alloc (.cells #[.int .i64 0, .bool false, .slice none 0 0, .bool false, .slice none 0 0] 38)) ww0 := by rw [hW]; exact Kept.refl _ _
      have zzA : w.heap.size + 1 + 1 + 1 = ww0.heap.size := by rw [← hW]; simp
      have nA0 := Lib.hid (hkk.peel.peel.top (g := w.heap.size) (by simp) (by simp) 0 (v := .bool p) rfl).1
      have nA1 := Lib.hid (hkk.peel.peel.top (g := w.heap.size) (by simp) (by simp) 1 (v := .slice a n c) rfl).1
      have nB0 := Lib.hid (hkk.peel.top (g := w.heap.size + 1) (by simp) (by simp) 0 (v := .bool q) rfl).1
      have nB1 := Lib.hid (hkk.peel.top (g := w.heap.size + 1) (by simp) (by simp) 1 (v := .slice b m d) rfl).1
      have nR0 := Lib.hid (hkk.top (g := w.heap.size + 1 + 1) (by simp) (by simp) 0 (v := .int .i64 0) rfl).1
      have fR0 := Lib.hid (hkk.top (g := w.heap.size + 1 + 1) (by simp) (by simp) 0 (v := .int .i64 0) rfl).2.1
      have nR1 := Lib.hid (hkk.top (g := w.heap.size + 1 + 1) (by simp) (by simp) 1 (v := .bool false) rfl).1
      have fR1 := Lib.hid (hkk.top (g := w.heap.size + 1 + 1) (by simp) (by simp) 1 (v := .bool false) rfl).2.1
      have nR2 := Lib.hid (hkk.top (g := w.heap.size + 1 + 1) (by simp) (by simp) 2 (v := .slice none 0 0) rfl).1
      have fR2 := Lib.hid (hkk.top (g := w.heap.size + 1 + 1) (by simp) (by simp) 2 (v := .slice none 0 0) rfl).2.1
      have nR3 := Lib.hid (hkk.top (g := w.heap.size + 1 + 1) (by simp) (by simp) 3 (v := .bool false) rfl).1
      have fR3 := Lib.hid (hkk.top (g := w.heap.size + 1 + 1) (by simp) (by simp) 3 (v := .bool false) rfl).2.1
      have nR4 := Lib.hid (hkk.top (g := w.heap.size + 1 + 1) (by simp) (by simp) 4 (v := .slice none 0 0) rfl).1
      have fR4 := Lib.hid (hkk.top (g := w.heap.size + 1 + 1) (by simp) (by simp) 4 (v := .slice none 0 0) rfl).2.1
      have hk := hkk.peel.peel.peel
      clear hkk hW
      have z0 := hk.size
      have KT := Lib.hid hk
      clear hk
      replace HS := Lib.hid (HS.out.kept0 KT.out)
      replace HS' := Lib.hid (HS'.out.kept0 KT.out)
      refine (isPrecision_any _ _).mono ?_
      rintro e ww1 ⟨rfl, hk⟩
      rw [HP.out]
      have z1 := hk.size
      replace fR0 := Lib.hid (hk.free' (p := ⟨w.heap.size + 1 + 1, 0, none⟩) nR0.out fR0.out (by simp))
      replace fR1 := Lib.hid (hk.free' (p := ⟨w.heap.size + 1 + 1, 1, none⟩) nR1.out fR1.out (by simp))
      replace fR2 := Lib.hid (hk.free' (p := ⟨w.heap.size + 1 + 1, 2, none⟩) nR2.out fR2.out (by simp))
      replace fR3 := Lib.hid (hk.free' (p := ⟨w.heap.size + 1 + 1, 3, none⟩) nR3.out fR3.out (by simp))
      replace fR4 := Lib.hid (hk.free' (p := ⟨w.heap.size + 1 + 1, 4, none⟩) nR4.out fR4.out (by simp))
      replace nA0 := Lib.hid (hk.cell (p := ⟨w.heap.size, 0, none⟩) nA0.out (by simp))
      replace nA1 := Lib.hid (hk.cell (p := ⟨w.heap.size, 1, none⟩) nA1.out (by simp))
      replace nB0 := Lib.hid (hk.cell (p := ⟨w.heap.size + 1, 0, none⟩) nB0.out (by simp))
      replace nB1 := Lib.hid (hk.cell (p := ⟨w.heap.size + 1, 1, none⟩) nB1.out (by simp))
      replace nR0 := Lib.hid (hk.cell (p := ⟨w.heap.size + 1 + 1, 0, none⟩) nR0.out (by simp))
      replace nR1 := Lib.hid (hk.cell (p := ⟨w.heap.size + 1 + 1, 1, none⟩) nR1.out (by simp))
      replace nR2 := Lib.hid (hk.cell (p := ⟨w.heap.size + 1 + 1, 2, none⟩) nR2.out (by simp))
      replace nR3 := Lib.hid (hk.cell (p := ⟨w.heap.size + 1 + 1, 3, none⟩) nR3.out (by simp))
      replace nR4 := Lib.hid (hk.cell (p := ⟨w.heap.size + 1 + 1, 4, none⟩) nR4.out (by simp))
      replace HS := Lib.hid (HS.out.kept0 hk)
      replace HS' := Lib.hid (HS'.out.kept0 hk)
      replace KT := Lib.hid (KT.out.trans0 hk)
      clear hk
      have tA0 := nA0.out
      have tA1 := nA1.out
      have tB0 := nB0.out
      have tB1 := nB1.out
      go_wp2_with fail
      clear tA0 tA1 tB0 tB1
      refine (firstBigFault_two _ _ _ _ _ _ _ _ _ _ _ _ (by omega) HS.out.rd HS'.out.rd).mono ?_
      rintro e ww2 ⟨rfl, hk⟩
      rw [HZ.out]
      have z2 := hk.size
      replace fR0 := Lib.hid (hk.free' (p := ⟨w.heap.size + 1 + 1, 0, none⟩) nR0.out fR0.out (by simp))
      replace fR1 := Lib.hid (hk.free' (p := ⟨w.heap.size + 1 + 1, 1, none⟩) nR1.out fR1.out (by simp))
      replace fR2 := Lib.hid (hk.free' (p := ⟨w.heap.size + 1 + 1, 2, none⟩) nR2.out fR2.out (by simp))
      replace fR3 := Lib.hid (hk.free' (p := ⟨w.heap.size + 1 + 1, 3, none⟩) nR3.out fR3.out (by simp))
      replace fR4 := Lib.hid (hk.free' (p := ⟨w.heap.size + 1 + 1, 4, none⟩) nR4.out fR4.out (by simp))
      replace nA0 := Lib.hid (hk.cell (p := ⟨w.heap.size, 0, none⟩) nA0.out (by simp))
      replace nA1 := Lib.hid (hk.cell (p := ⟨w.heap.size, 1, none⟩) nA1.out (by simp))
      replace nB0 := Lib.hid (hk.cell (p := ⟨w.heap.size + 1, 0, none⟩) nB0.out (by simp))
      replace nB1 := Lib.hid (hk.cell (p := ⟨w.heap.size + 1, 1, none⟩) nB1.out (by simp))
      replace nR0 := Lib.hid (hk.cell (p := ⟨w.heap.size + 1 + 1, 0, none⟩) nR0.out (by simp))
      replace nR1 := Lib.hid (hk.cell (p := ⟨w.heap.size + 1 + 1, 1, none⟩) nR1.out (by simp))
      replace nR2 := Lib.hid (hk.cell (p := ⟨w.heap.size + 1 + 1, 2, none⟩) nR2.out (by simp))
      replace nR3 := Lib.hid (hk.cell (p := ⟨w.heap.size + 1 + 1, 3, none⟩) nR3.out (by simp))
      replace nR4 := Lib.hid (hk.cell (p := ⟨w.heap.size + 1 + 1, 4, none⟩) nR4.out (by simp))
      replace HS := Lib.hid (HS.out.kept0 hk)
      replace HS' := Lib.hid (HS'.out.kept0 hk)
      replace KT := Lib.hid (KT.out.trans0 hk)
      clear hk
      have tA0 := nA0.out
      have tA1 := nA1.out
      have tB0 := nB0.out
      have tB1 := nB1.out
      have tR0 := nR0.out
      have tR1 := nR1.out
      have tR2 := nR2.out
      have tR3 := nR3.out
      have tR4 := nR4.out
      have uR0 := fR0.out
      have uR1 := fR1.out
      have uR2 := fR2.out
      have uR3 := fR3.out
      have uR4 := fR4.out
      go_wp2_with fail
      clear tA0 tA1 tB0 tB1 tR0 tR1 tR2 tR3 tR4 uR0 uR1 uR2 uR3 uR4
      generalize hW : (((((ww2.setCell ⟨w.heap.size + 1 + 1, 0, none⟩ (.int .i64 f)).setCell ⟨w.heap.size + 1 + 1, 1, none⟩ (.bool false)).setCell ⟨w.heap.size + 1 + 1, 2, none⟩ (.slice none 0 0)).setCell ⟨w.heap.size + 1 + 1, 3, none⟩ (.bool false)).setCell ⟨w.heap.size + 1 + 1, 4, none⟩ (.slice none 0 0)) = ww3
      have hk : Kept [w.heap.size + 1 + 1] ww2 ww3 := by rw [← hW]; exact (((((Kept.refl _ _).setCell _ _ (by simp)).setCell _ _ (by simp)).setCell _ _ (by simp)).setCell _ _ (by simp)).setCell _ _ (by simp)
      have hfz : ∀ x, ww3.frozen? x = ww2.frozen? x := by rw [← hW]; intro x; simp only [World.frozen?_setCell]
      have e0 : ww3.cell? ⟨w.heap.size + 1 + 1, 0, none⟩ = some (.int .i64 f) := by rw [← hW]; rw [World.cell?_setCell_other _ _ _ _ (by simp), World.cell?_setCell_other _ _ _ _ (by simp), World.cell?_setCell_other _ _ _ _ (by simp), World.cell?_setCell_other _ _ _ _ (by simp)]; exact World.cell?_setCell_same _ _ _ (by exact nR0.out)
      have e1 : ww3.cell? ⟨w.heap.size + 1 + 1, 1, none⟩ = some (.bool false) := by rw [← hW]; rw [World.cell?_setCell_other _ _ _ _ (by simp), World.cell?_setCell_other _ _ _ _ (by simp), World.cell?_setCell_other _ _ _ _ (by simp)]; exact World.cell?_setCell_same _ _ _ (by rw [World.cell?_setCell_other _ _ _ _ (by simp)]; exact nR1.out)
      have e2 : ww3.cell? ⟨w.heap.size + 1 + 1, 2, none⟩ = some (.slice none 0 0) := by rw [← hW]; rw [World.cell?_setCell_other _ _ _ _ (by simp), World.cell?_setCell_other _ _ _ _ (by simp)]; exact World.cell?_setCell_same _ _ _ (by rw [World.cell?_setCell_other _ _ _ _ (by simp), World.cell?_setCell_other _ _ _ _ (by simp)]; exact nR2.out)
      have e3 : ww3.cell? ⟨w.heap.size + 1 + 1, 3, none⟩ = some (.bool false) := by rw [← hW]; rw [World.cell?_setCell_other _ _ _ _ (by simp)]; exact World.cell?_setCell_same _ _ _ (by rw [World.cell?_setCell_other _ _ _ _ (by simp), World.cell?_setCell_other _ _ _ _ (by simp), World.cell?_setCell_other _ _ _ _ (by simp)]; exact nR3.out)
      have e4 : ww3.cell? ⟨w.heap.size + 1 + 1, 4, none⟩ = some (.slice none 0 0) := by rw [← hW]; exact World.cell?_setCell_same _ _ _ (by rw [World.cell?_setCell_other _ _ _ _ (by simp), World.cell?_setCell_other _ _ _ _ (by simp), World.cell?_setCell_other _ _ _ _ (by simp), World.cell?_setCell_other _ _ _ _ (by simp)]; exact nR4.out)
      have z3 := hk.size
      replace fR0 := Lib.hid (show ww3.frozen? ⟨w.heap.size + 1 + 1, 0, none⟩ = false by rw [hfz]; exact fR0.out)
      replace fR1 := Lib.hid (show ww3.frozen? ⟨w.heap.size + 1 + 1, 1, none⟩ = false by rw [hfz]; exact fR1.out)
      replace fR2 := Lib.hid (show ww3.frozen? ⟨w.heap.size + 1 + 1, 2, none⟩ = false by rw [hfz]; exact fR2.out)
      replace fR3 := Lib.hid (show ww3.frozen? ⟨w.heap.size + 1 + 1, 3, none⟩ = false by rw [hfz]; exact fR3.out)
      replace fR4 := Lib.hid (show ww3.frozen? ⟨w.heap.size + 1 + 1, 4, none⟩ = false by rw [hfz]; exact fR4.out)
      replace nA0 := Lib.hid (hk.cell (p := ⟨w.heap.size, 0, none⟩) nA0.out (by simp <;> omega))
      replace nA1 := Lib.hid (hk.cell (p := ⟨w.heap.size, 1, none⟩) nA1.out (by simp <;> omega))
      replace nB0 := Lib.hid (hk.cell (p := ⟨w.heap.size + 1, 0, none⟩) nB0.out (by simp <;> omega))
      replace nB1 := Lib.hid (hk.cell (p := ⟨w.heap.size + 1, 1, none⟩) nB1.out (by simp <;> omega))
      replace HS := Lib.hid (HS.out.kept hk (fun hn y hy hm => by have h9 := FS.out hn y hy; simp at hm; omega))
      replace HS' := Lib.hid (HS'.out.kept hk (fun hn y hy hm => by have h9 := FS'.out hn y hy; simp at hm; omega))
      replace nR0 := Lib.hid e0
      replace nR1 := Lib.hid e1
      replace nR2 := Lib.hid e2
      replace nR3 := Lib.hid e3
      replace nR4 := Lib.hid e4
      replace KT := Lib.hid (KT.out.trans hk (fun x hx hlt => by simp at hx; omega))
      clear hk hfz hW e0 e1 e2 e3 e4
      have e0 := nR0.out
      have e1 := nR1.out
      have e2 := nR2.out
      have e3 := nR3.out
      have e4 := nR4.out
      refine bodyPost_ret (v := .agg #[.int .i64 f, .bool false, .slice none 0 0, .bool false, .slice none 0 0]) (by simp [results, Try.results39, go_sem, e0, e1, e2, e3, e4]) rfl ?_
      exact spanR_no KT.out
  · skip
    rw [show ratS P p xs q ys = noSpan 3 from by unfold ratS; rw [if_neg hP]]
    have HP := Lib.hid (show isP P = false by simpa using hP)
    clear hP hM hL
    go_enter Try.func39, Try.ntmps39
    go_wp2_with fail
    generalize hW : (((w.alloc (.cells #[.bool p, .slice a n c] 29)).alloc (.cells #[.bool q, .slice b m d] 29)).alloc (.cells #[.int .i64 0, .bool false, .slice none 0 0, .bool false, .slice none 0 0] 38)) = ww0
    have hkk : Kept [] (((w.alloc (.cells #[.bool p, .slice a n c] 29)).alloc (.cells #[.bool q, .slice b m d] 29)).alloc (.cells #[.int .i64 0, .bool false, .slice none 0 0, .bool false, .slice none 0 0] 38)) ww0 := by rw [hW]; exact Kept.refl _ _
    have zzA : w.heap.size + 1 + 1 + 1 = ww0.heap.size := by rw [← hW]; simp
    have nA0 := Lib.hid (hkk.peel.peel.top (g := w.heap.size) (by simp) (by simp) 0 (v := .bool p) rfl).1
    have nA1 := Lib.hid (hkk.peel.peel.top (g := w.heap.size) (by simp) (by simp) 1 (v := .slice a n c) rfl).1
    have nB0 := Lib.hid (hkk.peel.top (g := w.heap.size + 1) (by simp) (by simp) 0 (v := .bool q) rfl).1
    have nB1 := Lib.hid (hkk.peel.top (g := w.heap.size + 1) (by simp) (by simp) 1 (v := .slice b m d) rfl).1
    have nR0 := Lib.hid (hkk.top (g := w.heap.size + 1 + 1) (by simp) (by simp) 0 (v := .int .i64 0) rfl).1
    have fR0 := Lib.hid (hkk.top (g := w.heap.size + 1 + 1) (by simp) (by simp) 0 (v := .int .i64 0) rfl).2.1
    have nR1 := Lib.hid (hkk.top (g := w.heap.size + 1 + 1) (by simp) (by simp) 1 (v := .bool false) rfl).1
    have fR1 := Lib.hid (hkk.top (g := w.heap.size + 1 + 1) (by simp) (by simp) 1 (v := .bool false) rfl).2.1
    have nR2 := Lib.hid (hkk.top (g := w.heap.size + 1 + 1) (by simp) (by simp) 2 (v := .slice none 0 0) rfl).1
    have fR2 := Lib.hid (hkk.top (g := w.heap.size + 1 + 1) (by simp) (by simp) 2 (v := .slice none 0 0) rfl).2.1
    have nR3 := Lib.hid (hkk.top (g := w.heap.size + 1 + 1) (by simp) (by simp) 3 (v := .bool false) rfl).1
    have fR3 := Lib.hid (hkk.top (g := w.heap.size + 1 + 1) (by simp) (by simp) 3 (v := .bool false) rfl).2.1
    have nR4 := Lib.hid (hkk.top (g := w.heap.size + 1 + 1) (by simp) (by simp) 4 (v := .slice none 0 0) rfl).1
    have fR4 := Lib.hid (hkk.top (g := w.heap.size + 1 + 1) (by simp) (by simp) 4 (v := .slice none 0 0) rfl).2.1
    have hk := hkk.peel.peel.peel
    clear hkk hW
    have z0 := hk.size
    have KT := Lib.hid hk
    clear hk
    replace HS := Lib.hid (HS.out.kept0 KT.out)
    replace HS' := Lib.hid (HS'.out.kept0 KT.out)
    refine (isPrecision_any _ _).mono ?_
    rintro e ww1 ⟨rfl, hk⟩
    rw [HP.out]
    have z1 := hk.size
    replace fR0 := Lib.hid (hk.free' (p := ⟨w.heap.size + 1 + 1, 0, none⟩) nR0.out fR0.out (by simp))
    replace fR1 := Lib.hid (hk.free' (p := ⟨w.heap.size + 1 + 1, 1, none⟩) nR1.out fR1.out (by simp))
    replace fR2 := Lib.hid (hk.free' (p := ⟨w.heap.size + 1 + 1, 2, none⟩) nR2.out fR2.out (by simp))
    replace fR3 := Lib.hid (hk.free' (p := ⟨w.heap.size + 1 + 1, 3, none⟩) nR3.out fR3.out (by simp))
    replace fR4 := Lib.hid (hk.free' (p := ⟨w.heap.size + 1 + 1, 4, none⟩) nR4.out fR4.out (by simp))
    replace nA0 := Lib.hid (hk.cell (p := ⟨w.heap.size, 0, none⟩) nA0.out (by simp))
    replace nA1 := Lib.hid (hk.cell (p := ⟨w.heap.size, 1, none⟩) nA1.out (by simp))
    replace nB0 := Lib.hid (hk.cell (p := ⟨w.heap.size + 1, 0, none⟩) nB0.out (by simp))
    replace nB1 := Lib.hid (hk.cell (p := ⟨w.heap.size + 1, 1, none⟩) nB1.out (by simp))
    replace nR0 := Lib.hid (hk.cell (p := ⟨w.heap.size + 1 + 1, 0, none⟩) nR0.out (by simp))
    replace nR1 := Lib.hid (hk.cell (p := ⟨w.heap.size + 1 + 1, 1, none⟩) nR1.out (by simp))
    replace nR2 := Lib.hid (hk.cell (p := ⟨w.heap.size + 1 + 1, 2, none⟩) nR2.out (by simp))
    replace nR3 := Lib.hid (hk.cell (p := ⟨w.heap.size + 1 + 1, 3, none⟩) nR3.out (by simp))
    replace nR4 := Lib.hid (hk.cell (p := ⟨w.heap.size + 1 + 1, 4, none⟩) nR4.out (by simp))
    replace HS := Lib.hid (HS.out.kept0 hk)
    replace HS' := Lib.hid (HS'.out.kept0 hk)
    replace KT := Lib.hid (KT.out.trans0 hk)
    clear hk
    have tA0 := nA0.out
    have tA1 := nA1.out
    have tB0 := nB0.out
    have tB1 := nB1.out
    have tR0 := nR0.out
    have tR1 := nR1.out
    have tR2 := nR2.out
    have tR3 := nR3.out
    have tR4 := nR4.out
    have uR0 := fR0.out
    have uR1 := fR1.out
    have uR2 := fR2.out
    have uR3 := fR3.out
    have uR4 := fR4.out
    go_wp2_with fail
    clear tA0 tA1 tB0 tB1 tR0 tR1 tR2 tR3 tR4 uR0 uR1 uR2 uR3 uR4
    generalize hW : (((((ww1.setCell ⟨w.heap.size + 1 + 1, 0, none⟩ (.int .i64 3)).setCell ⟨w.heap.size + 1 + 1, 1, none⟩ (.bool false)).setCell ⟨w.heap.size + 1 + 1, 2, none⟩ (.slice none 0 0)).setCell ⟨w.heap.size + 1 + 1, 3, none⟩ (.bool false)).setCell ⟨w.heap.size + 1 + 1, 4, none⟩ (.slice none 0 0)) = ww2
    have hk : Kept [w.heap.size + 1 + 1] ww1 ww2 := by rw [← hW]; exact (((((Kept.refl _ _).setCell _ _ (by simp)).setCell _ _ (by simp)).setCell _ _ (by simp)).setCell _ _ (by simp)).setCell _ _ (by simp)
    have hfz : ∀ x, ww2.frozen? x = ww1.frozen? x := by rw [← hW]; intro x; simp only [World.frozen?_setCell]
    have e0 : ww2.cell? ⟨w.heap.size + 1 + 1, 0, none⟩ = some (.int .i64 3) := by rw [← hW]; rw [World.cell?_setCell_other _ _ _ _ (by simp), World.cell?_setCell_other _ _ _ _ (by simp), World.cell?_setCell_other _ _ _ _ (by simp), World.cell?_setCell_other _ _ _ _ (by simp)]; exact World.cell?_setCell_same _ _ _ (by exact nR0.out)
    have e1 : ww2.cell? ⟨w.heap.size + 1 + 1, 1, none⟩ = some (.bool false) := by rw [← hW]; rw [World.cell?_setCell_other _ _ _ _ (by simp), World.cell?_setCell_other _ _ _ _ (by simp), World.cell?_setCell_other _ _ _ _ (by simp)]; exact World.cell?_setCell_same _ _ _ (by rw [World.cell?_setCell_other _ _ _ _ (by simp)]; exact nR1.out)
    have e2 : ww2.cell? ⟨w.heap.size + 1 + 1, 2, none⟩ = some (.slice none 0 0) := by rw [← hW]; rw [World.cell?_setCell_other _ _ _ _ (by simp), World.cell?_setCell_other _ _ _ _ (by simp)]; exact World.cell?_setCell_same _ _ _ (by rw [World.cell?_setCell_other _ _ _ _ (by simp), World.cell?_setCell_other _ _ _ _ (by simp)]; exact nR2.out)
    have e3 : ww2.cell? ⟨w.heap.size + 1 + 1, 3, none⟩ = some (.bool false) := by rw [← hW]; rw [World.cell?_setCell_other _ _ _ _ (by simp)]; exact World.cell?_setCell_same _ _ _ (by rw [World.cell?_setCell_other _ _ _ _ (by simp), World.cell?_setCell_other _ _ _ _ (by simp), World.cell?_setCell_other _ _ _ _ (by simp)]; exact nR3.out)
    have e4 : ww2.cell? ⟨w.heap.size + 1 + 1, 4, none⟩ = some (.slice none 0 0) := by rw [← hW]; exact World.cell?_setCell_same _ _ _ (by rw [World.cell?_setCell_other _ _ _ _ (by simp), World.cell?_setCell_other _ _ _ _ (by simp), World.cell?_setCell_other _ _ _ _ (by simp), World.cell?_setCell_other _ _ _ _ (by simp)]; exact nR4.out)
    have z2 := hk.size
    replace fR0 := Lib.hid (show ww2.frozen? ⟨w.heap.size + 1 + 1, 0, none⟩ = false by rw [hfz]; exact fR0.out)
    replace fR1 := Lib.hid (show ww2.frozen? ⟨w.heap.size + 1 + 1, 1, none⟩ = false by rw [hfz]; exact fR1.out)
    replace fR2 := Lib.hid (show ww2.frozen? ⟨w.heap.size + 1 + 1, 2, none⟩ = false by rw [hfz]; exact fR2.out)
    replace fR3 := Lib.hid (show ww2.frozen? ⟨w.heap.size + 1 + 1, 3, none⟩ = false by rw [hfz]; exact fR3.out)
    replace fR4 := Lib.hid (show ww2.frozen? ⟨w.heap.size + 1 + 1, 4, none⟩ = false by rw [hfz]; exact fR4.out)
    replace nA0 := Lib.hid (hk.cell (p := ⟨w.heap.size, 0, none⟩) nA0.out (by simp <;> omega))
    replace nA1 := Lib.hid (hk.cell (p := ⟨w.heap.size, 1, none⟩) nA1.out (by simp <;> omega))
    replace nB0 := Lib.hid (hk.cell (p := ⟨w.heap.size + 1, 0, none⟩) nB0.out (by simp <;> omega))
    replace nB1 := Lib.hid (hk.cell (p := ⟨w.heap.size + 1, 1, none⟩) nB1.out (by simp <;> omega))
    replace HS := Lib.hid (HS.out.kept hk (fun hn y hy hm => by have h9 := FS.out hn y hy; simp at hm; omega))
    replace HS' := Lib.hid (HS'.out.kept hk (fun hn y hy hm => by have h9 := FS'.out hn y hy; simp at hm; omega))
    replace nR0 := Lib.hid e0
    replace nR1 := Lib.hid e1
    replace nR2 := Lib.hid e2
    replace nR3 := Lib.hid e3
    replace nR4 := Lib.hid e4
    replace KT := Lib.hid (KT.out.trans hk (fun x hx hlt => by simp at hx; omega))
    clear hk hfz hW e0 e1 e2 e3 e4
    have e0 := nR0.out
    have e1 := nR1.out
    have e2 := nR2.out
    have e3 := nR3.out
    have e4 := nR4.out
    refine bodyPost_ret (v := .agg #[.int .i64 3, .bool false, .slice none 0 0, .bool false, .slice none 0 0]) (by simp [results, Try.results39, go_sem, e0, e1, e2, e3, e4]) rfl ?_
    exact spanR_no KT.out

end Go.Proofs.Ytjndjjdffifgcaa
