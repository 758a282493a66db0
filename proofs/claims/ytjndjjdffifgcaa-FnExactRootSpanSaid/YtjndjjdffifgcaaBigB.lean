/-
  Contracts of what makes a big out of a sign and limbs. Condition: the limbs are the digits of a number that is not below 0.
-/
import Derived.Test.YtjndjjdffifgcaaBigA
import Derived.Test.YtjndjjdffifgcaaSAdd
namespace Go.Proofs.Ytjndjjdffifgcaa
open Go.RowKit

/-- A call that answers a code and a big in memory of its own. -/
def BigR (w : World) (r : BV) (e : Ending) (w' : World) : Prop :=
  ∃ a c, e = .returned (.agg #[.int .i64 r.code, .bool r.neg, .slice a r.limbs.length c]) ∧ Sl w' a r.limbs.length c r.limbs ∧ Fr w.heap.size a r.limbs.length ∧ Kept [] w w'
/-- A call that answers a big that is the number z; its limbs lie in memory from block B on. -/
def BigV (B : Nat) (w : World) (z : Int) (e : Ending) (w' : World) : Prop :=
  ∃ a c, e = .returned (.agg #[.bool (isNeg z), .slice a (mag z).length c]) ∧ Sl w' a (mag z).length c (mag z) ∧ Fr B a (mag z).length ∧ Kept [] w w'
/-- A call that answers this value and leaves old memory alone. -/
def Val (w : World) (v : Value) (e : Ending) (w' : World) : Prop := e = .returned v ∧ Kept [] w w'

set_option maxHeartbeats 400000 in
theorem l2Big_any (b : Bool) (a : Option Addr) (n c : Nat) (v : Int) (w : World) (hv : 0 ≤ v) (hn : (digits v).length = n) :
    Calls Try.prog 103 #[.bool b, .slice a n c] w (Val w (.agg #[.bool (isNeg (sg b v)), .slice a n c])) := by
  have e := isNeg_sg (neg := b) hv
  rw [hn] at e
  rw [e]
  clear e
  cases b with
  | false =>
    have e : (false && decide (0 < n)) = false := rfl
    rw [e]
    clear e
    go_enter Try.func103, Try.ntmps103
    go_wp2
    exact bodyPost_ret (v := .agg #[.bool false, .slice a n c]) (by simp [results, Try.results103, go_sem]) rfl ⟨rfl, (Kept.refl [] w).alloc _⟩
  | true =>
    by_cases h0 : 0 < n
    · have e : (true && decide (0 < n)) = true := by rw [decide_eq_true h0]; rfl
      rw [e]
      have h1 : decide ((0 : Int) < (n : Int)) = true := decide_eq_true (by omega)
      clear e
      go_enter Try.func103, Try.ntmps103
      go_wp2
      exact bodyPost_ret (v := .agg #[.bool true, .slice a n c]) (by simp [results, Try.results103, go_sem]) rfl ⟨rfl, (Kept.refl [] w).alloc _⟩
    · have e : (true && decide (0 < n)) = false := by rw [decide_eq_false h0]; rfl
      rw [e]
      obtain rfl : n = 0 := by omega
      clear e h0
      go_enter Try.func103, Try.ntmps103
      go_wp2
      exact bodyPost_ret (v := .agg #[.bool false, .slice a 0 c]) (by simp [results, Try.results103, go_sem]) rfl ⟨rfl, (Kept.refl [] w).alloc _⟩

/-- The cells of a result's block, stored. -/
theorem box_bool {w w1 : World} {b : Bool} {a : Option Addr} {n c : Nat} {T : TypeId} {x y : Value} (hK : Kept [] (w.alloc (.cells #[x, y] T)) w1) :
    Kept [] w ((w1.setCell ⟨w.heap.size, 0, none⟩ (.bool b)).setCell ⟨w.heap.size, 1, none⟩ (.slice a n c)) :=
  (((Kept.refl [] w).alloc _).trans0 hK).setCell _ _ (by simp) |>.setCell _ _ (by simp)

/-- The opposite of a big that is the number z. -/
theorem sg_not {b : Bool} {v : Int} : sg (!b) v = - sg b v := by cases b <;> simp [sg]

set_option maxHeartbeats 400000 in
theorem l2Neg_any (a : Option Addr) (n c : Nat) (z : Int) (b : Bool) (w : World) (hb : sg b (val (mag z)) = z) (hn : (mag z).length = n) :
    Calls Try.prog 120 #[.agg #[.bool b, .slice a n c]] w (Val w (.agg #[.bool (isNeg (-z)), .slice a n c])) := by
  have hv := val_mag_nonneg z
  have hd : (digits (val (mag z))).length = n := by rw [digits_val (mag_canon z)]; exact hn
  have he : - z = sg (!b) (val (mag z)) := by rw [sg_not, hb]
  rw [he]
  generalize val (mag z) = v at *
  have HV := Lib.hid hv
  have HD := Lib.hid hd
  clear hb he hn hd hv
  go_enter Try.func120, Try.ntmps120
  go_wp2_with fail
  refine (l2Big_any _ _ _ _ _ _ HV.out HD.out).mono ?_
  rintro e w1 ⟨rfl, hk⟩
  obtain ⟨c1, f1, _⟩ := hk.top (g := w.heap.size + 1) (by simp) (by simp) 0 rfl
  obtain ⟨c2, f2, _⟩ := hk.top (g := w.heap.size + 1) (by simp) (by simp) 1 rfl
  have HK := Lib.hid (((((Kept.refl [] w).alloc _).alloc _).trans0 hk))
  clear hk
  obtain ⟨r, hr⟩ : ∃ r, r = isNeg (sg (!b) v) := ⟨_, rfl⟩
  have HR := Lib.hid hr
  rw [← hr]
  clear hr
  obtain ⟨_, eb, ec⟩ := cells2 (.bool r) (.slice a n c) c1 c2
  go_wp2_with fail
  exact bodyPost_ret (v := .agg #[.bool r, .slice a n c]) (by simp [results, Try.results120, go_sem, eb, ec]) rfl ⟨by rw [← HR.out], (HK.out.setCell _ _ (by simp)).setCell _ _ (by simp)⟩

/-- What bigResult and l2Whole answer: the limbs lie where they lay. -/
def FitB (w : World) (a : Option Addr) (r : BV) (e : Ending) (w' : World) : Prop :=
  ∃ b c, e = .returned (.agg #[.int .i64 r.code, .bool r.neg, .slice b r.limbs.length c]) ∧ Sl w' b r.limbs.length c r.limbs ∧ (0 < r.limbs.length → b = a) ∧ Kept [] w w'

theorem fitB_many {z : Int} (h : 40 < (mag z).length) : fitB z = noBig 7 := if_pos h
theorem fitB_ok {z : Int} (h : ¬ 40 < (mag z).length) : fitB z = ⟨0, isNeg z, mag z⟩ := if_neg h

set_option maxHeartbeats 400000 in
theorem bigResult_code (b : Bool) (a : Option Addr) (n c : Nat) (f : Int) (w : World) (hf : f ≠ 0) :
    Calls Try.prog 112 #[.bool b, .agg #[.int .i64 f, .slice a n c]] w (BigR w (noBig f)) := by
  have hne : (f == 0) = false := by rw [beq_eq_false_iff_ne]; exact hf
  clear hf
  go_enter Try.func112, Try.ntmps112
  go_wp2
  exact bodyPost_ret (v := .agg #[.int .i64 f, .bool false, .slice none 0 0]) (by simp [results, Try.results112, go_sem]) rfl ⟨none, 0, rfl, Sl.nil _, fun h => by simp [noBig] at h, ((Kept.refl [] w).alloc _).alloc _⟩

set_option maxHeartbeats 400000 in
theorem bigResult_ok (b : Bool) (a : Option Addr) (n c : Nat) (v : Int) (w : World) (hv : 0 ≤ v) (h : Sl w a n c (digits v)) :
    Calls Try.prog 112 #[.bool b, .agg #[.int .i64 0, .slice a n c]] w (FitB w a ⟨0, isNeg (sg b v), mag (sg b v)⟩) := by
  have hn := h.1
  have e := isNeg_sg (neg := b) hv
  rw [hn] at e
  rw [e, mag_sg hv]
  clear e
  have HS := Lib.hid h
  have hmax := h.rd.2.1
  have HL := Lib.hid hn
  clear hv h
  have fin : ∀ r : Bool, FitB w a ⟨0, r, digits v⟩ (.returned (.agg #[.int .i64 0, .bool r, .slice a n c])) ((w.alloc (.cells #[.int .i64 0, .slice a n c] 92)).alloc (.cells #[.int .i64 0, .bool r, .slice a n c] 61)) := by
    intro r
    have e : (digits v).length = n := HL.out
    subst e
    exact ⟨a, c, rfl, HS.out.kept0 (((Kept.refl [] w).alloc _).alloc _), fun _ => rfl, ((Kept.refl [] w).alloc _).alloc _⟩
  have FIN := Lib.hid fin
  clear fin hn
  cases b with
  | false =>
    have e : (false && decide (0 < n)) = false := rfl
    rw [e]
    clear e
    go_enter Try.func112, Try.ntmps112
    go_wp2
    exact bodyPost_ret (v := .agg #[.int .i64 0, .bool false, .slice a n c]) (by simp [results, Try.results112, go_sem]) rfl (FIN.out _)
  | true =>
    by_cases h0 : 0 < n
    · have e : (true && decide (0 < n)) = true := by rw [decide_eq_true h0]; rfl
      rw [e]
      have h1 : decide ((0 : Int) < (n : Int)) = true := decide_eq_true (by omega)
      clear e
      go_enter Try.func112, Try.ntmps112
      go_wp2
      exact bodyPost_ret (v := .agg #[.int .i64 0, .bool true, .slice a n c]) (by simp [results, Try.results112, go_sem]) rfl (FIN.out _)
    · have e : (true && decide (0 < n)) = false := by rw [decide_eq_false h0]; rfl
      rw [e]
      obtain rfl : n = 0 := by omega
      clear e h0
      go_enter Try.func112, Try.ntmps112
      go_wp2
      exact bodyPost_ret (v := .agg #[.int .i64 0, .bool false, .slice a 0 c]) (by simp [results, Try.results112, go_sem]) rfl (FIN.out _)

theorem Kept.undrew {L : List Nat} {w w1 : World} (h : Kept L w.drew w1) : Kept L w w1 := ⟨h.os, h.tape, h.output, h.size, h.block⟩
theorem drew_alloc_cell {w : World} {o : Obj} {p : Addr} {v : Value} (h : w.cell? p = some v) : (w.alloc o).drew.cell? p = some v := alloc_cell h
/-- Three cells of one block, stored one behind the other. -/
theorem cells3' {w : World} {g : Nat} {x y z : Value} (u v t : Value) (h0 : w.cell? ⟨g, 0, none⟩ = some x) (h1 : w.cell? ⟨g, 1, none⟩ = some y) (h2 : w.cell? ⟨g, 2, none⟩ = some z) :
    (((w.setCell ⟨g, 0, none⟩ u).setCell ⟨g, 1, none⟩ v).setCell ⟨g, 2, none⟩ t).cell? ⟨g, 0, none⟩ = some u ∧ (((w.setCell ⟨g, 0, none⟩ u).setCell ⟨g, 1, none⟩ v).setCell ⟨g, 2, none⟩ t).cell? ⟨g, 1, none⟩ = some v ∧ (((w.setCell ⟨g, 0, none⟩ u).setCell ⟨g, 1, none⟩ v).setCell ⟨g, 2, none⟩ t).cell? ⟨g, 2, none⟩ = some t := by
  obtain ⟨_, e2, e3⟩ := cells2 u v h0 h1
  have e4 : ((w.setCell ⟨g, 0, none⟩ u).setCell ⟨g, 1, none⟩ v).cell? ⟨g, 2, none⟩ = some z := by
    rw [World.cell?_setCell_other _ _ _ _ (by simp), World.cell?_setCell_other _ _ _ _ (by simp)]; exact h2
  exact ⟨by rw [World.cell?_setCell_other _ _ _ _ (by simp)]; exact e2, by rw [World.cell?_setCell_other _ _ _ _ (by simp)]; exact e3, World.cell?_setCell_same _ _ _ e4⟩
theorem Rd.lt {w : World} {a : Option Addr} {n : Nat} {xs : List Int} (h : Rd w a n xs) (hn : 0 < n) : ∀ x, a = some x → x.block < w.heap.size := by
  intro x hx
  obtain ⟨g, off, ha, hc⟩ := h.2.2 0 hn
  rw [ha] at hx; cases hx
  exact World.block_lt_of_cell? _ _ hc
/-- What a statement of a law leaves: a new box with a big result, in new memory. -/
def BoxR (w0 : World) (r : BV) (s : Value) (w : World) : Prop :=
  ∃ g a c, s = .pointer (some ⟨g, 0, none⟩) ∧ w.cell? ⟨g, 0, none⟩ = some (.int .i64 r.code) ∧ w.cell? ⟨g, 1, none⟩ = some (.bool r.neg) ∧ w.cell? ⟨g, 2, none⟩ = some (.slice a r.limbs.length c) ∧
    w0.heap.size ≤ g ∧ g < w.heap.size ∧ Sl w a r.limbs.length c r.limbs ∧ Fr w0.heap.size a r.limbs.length ∧ Kept [] w0 w
theorem boxR_last {W v : World} {B : Nat} {r : BV} {a : Option Addr} {c : Nat} {T : TypeId} (hB : W.heap.size ≤ B) (hS : Sl v a r.limbs.length c r.limbs) (hF : Fr B a r.limbs.length) (hk : Hid (Kept [] W v)) :
    BoxR W r (.pointer (some ⟨v.heap.size, 0, none⟩)) (v.alloc (.cells #[.int .i64 r.code, .bool r.neg, .slice a r.limbs.length c] T)) :=
  ⟨v.heap.size, a, c, rfl, by rw [World.cell?_alloc_new]; rfl, by rw [World.cell?_alloc_new]; rfl, by rw [World.cell?_alloc_new]; rfl, hk.out.size, by simp, hS.kept0 ((Kept.refl [] v).alloc _), hF.mono hB, hk.out.alloc _⟩
theorem boxR_set {W v : World} {B g : Nat} {r : BV} {a : Option Addr} {c : Nat} {x y z : Value} (hg : W.heap.size ≤ g) (hB : g < B) (hS : Sl v a r.limbs.length c r.limbs) (hF : Fr B a r.limbs.length)
    (h0 : v.cell? ⟨g, 0, none⟩ = some x) (h1 : v.cell? ⟨g, 1, none⟩ = some y) (h2 : v.cell? ⟨g, 2, none⟩ = some z) (hk : Hid (Kept [] W v)) :
    BoxR W r (.pointer (some ⟨g, 0, none⟩)) (((v.setCell ⟨g, 0, none⟩ (.int .i64 r.code)).setCell ⟨g, 1, none⟩ (.bool r.neg)).setCell ⟨g, 2, none⟩ (.slice a r.limbs.length c)) := by
  obtain ⟨ea, eb, ec⟩ := cells3' (.int .i64 r.code) (.bool r.neg) (.slice a r.limbs.length c) h0 h1 h2
  have hlt := World.block_lt_of_cell? _ _ h0
  exact ⟨g, a, c, rfl, ea, eb, ec, hg, by simpa using hlt, hS.kept ((((Kept.refl [g] v).setCell _ _ (by simp)).setCell _ _ (by simp)).setCell _ _ (by simp)) (fun hn x hx => by have := hF hn x hx; simp; omega), hF.mono (by omega),
    ((hk.out.setCell _ _ (by simp; omega)).setCell _ _ (by simp; omega)).setCell _ _ (by simp; omega)⟩
theorem Kept.set3n {W w2 : World} {g : Nat} {v1 v2 v3 : Value} (h : Hid (Kept [] W w2)) (hg : W.heap.size ≤ g) : Hid (Kept [] W (((w2.setCell ⟨g, 0, none⟩ v1).setCell ⟨g, 1, none⟩ v2).setCell ⟨g, 2, none⟩ v3)) :=
  Lib.hid (((h.out.setCell _ _ (by simp; omega)).setCell _ _ (by simp; omega)).setCell _ _ (by simp; omega))

end Go.Proofs.Ytjndjjdffifgcaa
