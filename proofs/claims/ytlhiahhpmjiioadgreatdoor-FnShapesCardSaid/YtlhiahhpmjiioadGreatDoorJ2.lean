/-
  Several of my texts in one, each as it was: Fault, Comp, BigA, AddT, Copy, Add, SAdd, BigB, Sub, BigC. No condition but theirs.
-/
import Derived.Test.YtlhiahhpmjiioadGreatDoorJ1
import Derived.Handy
import Derived.Laws.CopyOwn
import Derived.Laws.AppendOwnNone
import Derived.Lib.SliceRun
import Derived.Deep.RegionHeld3
import Derived.Deep.DrawnRows
namespace Go.Proofs.YtlhiahhpmjiioadGreatDoor
open Go.RowKit

theorem rd_three (w : World) (x : Int) : Rd (w.alloc (.cells #[.int .i64 0, .int .i64 x, .int .i64 65535] 2)) (some ⟨w.heap.size, 0, none⟩) 3 [0, x, 65535] := by
  have := Sl.ofBlk (Blk.new w [0, x, 65535]) (by simp)
  exact this.rd
theorem ord_three (x : Int) : (decide (0 ≤ x ∧ x ≤ 65535)) = true ↔ OrdTo [0, x, 65535] 3 := by
  rw [decide_eq_true_eq]
  constructor
  · intro h i hi
    rcases (by omega : i = 0 ∨ i = 1) with rfl | rfl
    · simpa using h.1
    · simpa using h.2
  · intro h
    have h0 := h 0 (by omega)
    have h1 := h 1 (by omega)
    simp at h0 h1
    exact ⟨h0, h1⟩

end Go.Proofs.YtlhiahhpmjiioadGreatDoor

namespace Go.Proofs.YtlhiahhpmjiioadGreatDoor
open Go.RowKit

end Go.Proofs.YtlhiahhpmjiioadGreatDoor

namespace Go.Proofs.YtlhiahhpmjiioadGreatDoor
open Go.RowKit

theorem Rd.len {w : World} {a : Option Addr} {n : Nat} {xs : List Int} (h : Rd w a n xs) : xs.length = n := h.1

/-- The first fault of two is the one of the first, or else that of the second. -/
theorem bigFault2_first {na nb : Bool} {xs ys : List Int} (h : bigFault na xs ≠ 0) : bigFault2 na xs nb ys = bigFault na xs := if_neg h
theorem bigFault2_second {na nb : Bool} {xs ys : List Int} (h : bigFault na xs = 0) : bigFault2 na xs nb ys = bigFault nb ys := if_pos h

end Go.Proofs.YtlhiahhpmjiioadGreatDoor

namespace Go.Proofs.YtlhiahhpmjiioadGreatDoor
open Go.RowKit

theorem mask_i64 (u : Int) (h : -4611686018427387904 ≤ u ∧ u ≤ 4611686018427387904) : bits BinOp.and IntKind.i64 u 65535 = u % 65536 := by
  show IntKind.i64.wrap ((BitVec.ofInt 64 u &&& BitVec.ofInt 64 65535).toNat : Int) = _
  have e : (BitVec.ofInt 64 u &&& BitVec.ofInt 64 65535).toNat = (u % 65536).toNat := by
    rw [BitVec.toNat_and, BitVec.toNat_ofInt, show (BitVec.ofInt 64 65535).toNat = 2 ^ 16 - 1 by decide, Nat.and_two_pow_sub_one_eq_mod]
    omega
  rw [e, Int.toNat_of_nonneg (by omega)]
  exact IntWalk.i64_in _ (by omega)

/-- What a pass of addTimes answers: the carry; the limbs in the block from off on are out. -/
def AddTR (w : World) (g off : Nat) (cs : List Int) (n : Nat) (T : Int) (e : Ending) (w' : World) : Prop :=
  ∃ (out ds : List Int) (cy : Int), e = .returned (.int .i64 cy) ∧ out.length = n ∧ AllLimbs out ∧ ap out cy = T ∧ Upd cs off out ds ∧ Blk w' g ds ∧ Kept [g] w w' ∧ -2097152 ≤ cy ∧ cy ≤ 2097152

end Go.Proofs.YtlhiahhpmjiioadGreatDoor

namespace Go.Proofs.YtlhiahhpmjiioadGreatDoor
open Go.RowKit

theorem getD_map {xs : List Int} {j : Nat} {u : Value} (h : (xs.map (Value.int .i64))[j]? = some u) : j < xs.length ∧ u = .int .i64 (xs.getD j 0) := by
  have hj : j < xs.length := by simpa using (List.getElem?_eq_some_iff.1 h).1
  refine ⟨hj, ?_⟩
  rw [List.getElem?_map, List.getElem?_eq_getElem hj] at h
  simp at h
  rw [← h]; simp [List.getD_eq_getElem?_getD, hj]

/-- The list cs, its head overwritten by xs. -/
def over (cs xs : List Int) : List Int := xs ++ cs.drop xs.length
theorem over_zeros (xs : List Int) (n : Nat) : over (List.replicate n 0) xs = xs ++ List.replicate (n - xs.length) 0 := by simp [over]

theorem copyT (T : TypeId) {w : World} {ops : Array Oper} {rest : List Oper} {o : Oper} {a : Act} {Q : Exit → Act → World → Prop} (hgd : o.guard = none) (d s : Operand)
    (ho : o.op = .call { callee := .builtin .copy, args := #[d, s], argTypes := #[91, 91] })
    (g dLen dCap n sCap : Nat) (sp : Option Addr) (hd : a.eval d = .slice (some ⟨g, 0, none⟩) dLen dCap) (hs : a.eval s = .slice sp n sCap)
    (cs xs : List Int) (hg : w.heap[g]? = some (.cells (ints cs) T (0, 0))) (hr : Rd w sp n xs) (hn : n ≤ dLen) (hdl : dLen ≤ cs.length)
    (h : ∀ w', Blk w' g (over cs xs) → Kept [g] w w' → wpList Tryz.prog ops Q rest (a.put o.dst (goInt n)) w') :
    wpList Tryz.prog ops Q (o :: rest) a w := by
  obtain ⟨i0, hi, hz0, hz1, hz2⟩ := info_parts Tryz.info64
  have hsz : (Tryz.prog.info? 2).map (·.size) = some 1 := by rw [hi]; simp [hz1]
  have hxl := hr.1
  by_cases h0 : n = 0
  · subst h0
    have hx : xs = [] := List.eq_nil_of_length_eq_zero hxl
    subst hx
    refine wpList_copy_nothing hgd d s 91 91 ho 2 Tryz.underlying91 hsz _ _ _ _ _ _ hd hs (by simp) ?_
    refine h w ?_ (Kept.refl _ _)
    exact ⟨(ints cs, T), hg, by simp [ints, over], fun k hk => by simpa [over] using ints_get cs k (by simpa [over] using hk)⟩
  · obtain ⟨g', off, rfl, _⟩ := hr.2.2 0 (by omega)
    refine wpList_copy_own hgd d s 91 91 ho 2 Tryz.underlying91 hsz g 0 dLen dCap ⟨g', off, none⟩ n sCap hd hs (ints cs) T hg (xs.map (Value.int .i64)) (by rw [List.length_map, hxl]; exact (Nat.min_eq_left hn).symm)
      (fun j v hj => ?_) (by rw [ints_size, List.length_map, hxl]; omega) (fun v hv => by obtain ⟨_, _, rfl⟩ := List.mem_map.1 hv; rfl) ?_
    · obtain ⟨hj', rfl⟩ := getD_map hj
      obtain ⟨g2, off2, he, hc⟩ := hr.2.2 j (by omega)
      cases he
      rw [Addr.add_lit]; exact hc
    · have e : (xs.map (Value.int .i64)).length = n := by rw [List.length_map, hxl]
      rw [e]
      refine h _ ?_ ⟨rfl, rfl, rfl, by simp, fun k _ hk => setRow_other w g k _ (by simpa using hk)⟩
      unfold over at *
      rw [hxl]
      refine ⟨(_, _), setRow_heap w g _ _ _ _ hg, ?_, fun k hk => ?_⟩
      · simp [ints, hxl]
      · simp only [Nat.zero_add]
        have : ((ints cs).toList.take 0 ++ (xs.map (Value.int .i64) ++ (ints cs).toList.drop n)).toArray = ints (xs ++ cs.drop n) := by simp [ints]
        show (((ints cs).toList.take 0 ++ (xs.map (Value.int .i64) ++ (ints cs).toList.drop n)).toArray)[k]? = _
        rw [this, ints_get _ k hk]
theorem copy1 {w : World} {ops : Array Oper} {rest : List Oper} {o : Oper} {a : Act} {Q : Exit → Act → World → Prop} (hgd : o.guard = none) (d s : Operand)
    (ho : o.op = .call { callee := .builtin .copy, args := #[d, s], argTypes := #[91, 91] })
    (g dLen dCap n sCap : Nat) (sp : Option Addr) (hd : a.eval d = .slice (some ⟨g, 0, none⟩) dLen dCap) (hs : a.eval s = .slice sp n sCap)
    (cs xs : List Int) (hg : w.heap[g]? = some (.cells (ints cs) 2 (0, 0))) (hr : Rd w sp n xs) (hn : n ≤ dLen) (hdl : dLen ≤ cs.length)
    (h : ∀ w', Blk w' g (over cs xs) → Kept [g] w w' → wpList Tryz.prog ops Q rest (a.put o.dst (goInt n)) w') :
    wpList Tryz.prog ops Q (o :: rest) a w :=
  copyT 2 hgd d s ho g dLen dCap n sCap sp hd hs cs xs hg hr hn hdl h

/-- A whole slice appended to one that the call owns. -/
theorem appS {w : World} {ops : Array Oper} {rest : List Oper} {o : Oper} {a : Act} {Q : Exit → Act → World → Prop} (hgd : o.guard = none) (s x : Operand)
    (ho : o.op = .call { callee := .builtin .append, args := #[s, x], argTypes := #[91, 91] })
    (base : Nat) (v : Value) (xs : List Int) (hs : a.eval s = v) (hown : Ow base w v xs)
    (b : Option Addr) (m c : Nat) (ys : List Int) (hx : a.eval x = .slice b m c) (hr : Rd w b m ys) (hbc : b = none → m = 0 ∧ c = 0)
    (hlen : xs.length + m ≤ 1099511627776) (hbase : base ≤ w.heap.size)
    (h : ∀ v' w', Ow base w' v' (xs ++ ys) → w.grownBy w' v.ownBlock → wpList Tryz.prog ops Q rest (a.put o.dst v') w') :
    wpList Tryz.prog ops Q (o :: rest) a w := by
  obtain ⟨i0, hi, hz0, hz1, hz2⟩ := info_parts Tryz.info64
  have hyl := hr.1
  cases b with
  | none =>
    obtain ⟨rfl, rfl⟩ := hbc rfl
    have hy : ys = [] := List.eq_nil_of_length_eq_zero hyl
    subst hy
    refine wpList_append_own_none hgd s x 91 ho base 2 i0 1 Tryz.underlying91 hi v xs.length _ hs hown hx ?_
    exact h v w (by rw [List.append_nil]; exact hown) (World.grownBy.refl w _)
  | some ad =>
    refine wpList_append_own w hgd s x 91 ho base 2 i0 (.int .i64 0) 1 8 Tryz.underlying91 hi hz0 hz1 hz2 rfl (by decide) v xs.length _ hs hown ad m c (ys.map (Value.int .i64)) hx (by rw [List.length_map, hyl, Nat.mul_one]) ?_ ?_ ?_ ?_ hbase ?_
    · intro j u hj
      obtain ⟨hj', rfl⟩ := getD_map hj
      obtain ⟨g2, off2, he, hc⟩ := hr.2.2 j (by omega)
      cases he
      rw [Addr.add_lit]; exact hc
    · exact fun v hv => by obtain ⟨_, _, rfl⟩ := List.mem_map.1 hv; rfl
    · unfold maxLen; omega
    · omega
    · intro v' w' h1 h2 _
      refine h v' w' ?_ h2
      unfold Ow
      rw [List.length_append, hyl, List.map_append]
      exact h1

end Go.Proofs.YtlhiahhpmjiioadGreatDoor

namespace Go.Proofs.YtlhiahhpmjiioadGreatDoor
open Go.RowKit

/-- The code and the limbs of an answer: none where there are too many. -/
def fitCode (v : Int) : Int := if 40 < (digits v).length then 7 else 0
def fitList (v : Int) : List Int := if 40 < (digits v).length then [] else digits v

/-- What natResult answers: the limbs lie where they lay. -/
def FitR (w : World) (a : Option Addr) (v : Int) (e : Ending) (w' : World) : Prop :=
  ∃ b c, e = .returned (.agg #[.int .i64 (fitCode v), .slice b (fitList v).length c]) ∧ Sl w' b (fitList v).length c (fitList v) ∧ (0 < (fitList v).length → b = a) ∧ Kept [] w w'

theorem Sl.front {w : World} {a : Option Addr} {n c : Nat} {xs : List Int} (h : Sl w a n c xs) (k : Nat) (hk : k ≤ n) : Sl w a k c (xs.take k) := by
  obtain ⟨h1, h2, h3, h5, h4⟩ := h
  refine ⟨by rw [List.length_take]; omega, by omega, h3, h5, ?_⟩
  by_cases h0 : k = 0
  · exact Or.inl h0
  · rcases h4 with h4 | ⟨g, off, cs, ha, hb, hl, he⟩
    · omega
    · exact Or.inr ⟨g, off, cs, ha, hb, by omega, fun i hi => by
        rw [he i (by omega)]
        simp only [List.getD_eq_getElem?_getD, List.getElem?_take, hi, if_true]⟩

theorem allLimbs_replicate (n : Nat) : AllLimbs (List.replicate n 0) := fun i hi => by
  have : i < n := by simpa using hi
  simp [List.getD_eq_getElem?_getD, this]
theorem allLimbs_pad {xs : List Int} (h : AllLimbs xs) (n : Nat) : AllLimbs (xs ++ List.replicate n 0) := fun i hi => by
  by_cases e : i < xs.length
  · have := h i e
    simp only [List.getD_eq_getElem?_getD, List.getElem?_append_left e] at this ⊢; exact this
  · have h2 : i - xs.length < n := by simp at hi; omega
    simp only [List.getD_eq_getElem?_getD, List.getElem?_append_right (Nat.not_lt.1 e)]
    simp [h2]
theorem val_pad : ∀ (xs : List Int) (n : Nat), val (xs ++ List.replicate n 0) = val xs
  | [], 0 => rfl
  | [], n + 1 => by
    have := val_pad [] n
    simp only [List.nil_append, List.replicate_succ, val] at this ⊢
    omega
  | x :: xs, n => by simp only [List.cons_append, val]; rw [val_pad xs n]

/-- What fits so many limbs has nothing carried out of them. -/
theorem no_carryN {out : List Int} {cy T : Int} {n : Nat} (ho : AllLimbs out) (hl : out.length = n) (hT : 0 ≤ T ∧ T < pw n) (h : ap out cy = T) : cy = 0 ∧ val out = T := by
  have h1 := ho.val
  rw [ap_pw, hl] at h
  rw [hl] at h1
  have hp := pw_pos n
  generalize pw n = P at *
  have hc : cy = 0 := by
    rcases Int.lt_trichotomy cy 0 with hc | hc | hc
    · have : P * cy ≤ P * (-1) := Int.mul_le_mul_of_nonneg_left (by omega) (by omega)
      omega
    · exact hc
    · have : P * 1 ≤ P * cy := Int.mul_le_mul_of_nonneg_left (by omega) (by omega)
      omega
  subst hc
  simp at h; exact ⟨rfl, h⟩

/-- A sum of two numbers fits one limb more than either; nothing is carried out of it. -/
theorem no_carry {out : List Int} {cy A B : Int} {n : Nat} (ho : AllLimbs out) (hl : out.length = n + 1) (hA : 0 ≤ A ∧ A < pw n) (hB : 0 ≤ B ∧ B < pw n) (h : ap out cy = A + B) : val out = A + B := by
  have h1 := ho.val
  rw [ap_pw, hl] at h
  rw [hl] at h1
  simp only [pw] at h h1
  have hp := pw_pos n
  generalize pw n = P at *
  have hc : cy = 0 := by
    rcases Int.lt_trichotomy cy 0 with hc | hc | hc
    · have : 65536 * P * cy ≤ 65536 * P * (-1) := Int.mul_le_mul_of_nonneg_left (by omega) (by omega)
      omega
    · exact hc
    · have : 65536 * P * 1 ≤ 65536 * P * cy := Int.mul_le_mul_of_nonneg_left (by omega) (by omega)
      omega
  subst hc
  simp at h; exact h

theorem val_pw_le {xs : List Int} (h : AllLimbs xs) {n : Nat} (hn : xs.length ≤ n) : 0 ≤ val xs ∧ val xs < pw n := by
  have h1 := h.val
  have h2 := pw_mono xs.length n hn
  omega

end Go.Proofs.YtlhiahhpmjiioadGreatDoor

namespace Go.Proofs.YtlhiahhpmjiioadGreatDoor
open Go.RowKit

theorem fit_len (v : Int) (c : Prop) [Decidable c] : (if c then fitList v else []).length ≤ 4000000 := by
  split
  · unfold fitList
    split
    · simp
    · omega
  · simp

end Go.Proofs.YtlhiahhpmjiioadGreatDoor

namespace Go.Proofs.YtlhiahhpmjiioadGreatDoor
open Go.RowKit

/-- A call that answers a code and a big in memory of its own. -/
def BigR (w : World) (r : BV) (e : Ending) (w' : World) : Prop :=
  ∃ a c, e = .returned (.agg #[.int .i64 r.code, .bool r.neg, .slice a r.limbs.length c]) ∧ Sl w' a r.limbs.length c r.limbs ∧ Fr w.heap.size a r.limbs.length ∧ Kept [] w w'
/-- A call that answers a big that is the number z; its limbs lie in memory from block B on. -/
def BigV (B : Nat) (w : World) (z : Int) (e : Ending) (w' : World) : Prop :=
  ∃ a c, e = .returned (.agg #[.bool (isNeg z), .slice a (mag z).length c]) ∧ Sl w' a (mag z).length c (mag z) ∧ Fr B a (mag z).length ∧ Kept [] w w'
/-- A call that answers this value and leaves old memory alone. -/
def Val (w : World) (v : Value) (e : Ending) (w' : World) : Prop := e = .returned v ∧ Kept [] w w'

/-- The cells of a result's block, stored. -/
theorem box_bool {w w1 : World} {b : Bool} {a : Option Addr} {n c : Nat} {T : TypeId} {x y : Value} (hK : Kept [] (w.alloc (.cells #[x, y] T)) w1) :
    Kept [] w ((w1.setCell ⟨w.heap.size, 0, none⟩ (.bool b)).setCell ⟨w.heap.size, 1, none⟩ (.slice a n c)) :=
  (((Kept.refl [] w).alloc _).trans0 hK).setCell _ _ (by simp) |>.setCell _ _ (by simp)

/-- The opposite of a big that is the number z. -/
theorem sg_not {b : Bool} {v : Int} : sg (!b) v = - sg b v := by cases b <;> simp [sg]

/-- What bigResult and l2Whole answer: the limbs lie where they lay. -/
def FitB (w : World) (a : Option Addr) (r : BV) (e : Ending) (w' : World) : Prop :=
  ∃ b c, e = .returned (.agg #[.int .i64 r.code, .bool r.neg, .slice b r.limbs.length c]) ∧ Sl w' b r.limbs.length c r.limbs ∧ (0 < r.limbs.length → b = a) ∧ Kept [] w w'

theorem fitB_many {z : Int} (h : 40 < (mag z).length) : fitB z = noBig 7 := if_pos h
theorem fitB_ok {z : Int} (h : ¬ 40 < (mag z).length) : fitB z = ⟨0, isNeg z, mag z⟩ := if_neg h

theorem Kept.undrew {L : List Nat} {w w1 : World} (h : Kept L w.drew w1) : Kept L w w1 := ⟨h.os, h.tape, h.output, h.size, h.block⟩
theorem drew_alloc_cell {w : World} {o : Obj} {p : Addr} {v : Value} (h : w.cell? p = some v) : (w.alloc o).drew.cell? p = some v := alloc_cell h
/-- Three cells of one block, stored one behind the other. -/
theorem cells3' {w : World} {g : Nat} {x y z : Value} (u v t : Value) (h0 : w.cell? ⟨g, 0, none⟩ = some x) (h1 : w.cell? ⟨g, 1, none⟩ = some y) (h2 : w.cell? ⟨g, 2, none⟩ = some z) :
    (((w.setCell ⟨g, 0, none⟩ u).setCell ⟨g, 1, none⟩ v).setCell ⟨g, 2, none⟩ t).cell? ⟨g, 0, none⟩ = some u ∧ (((w.setCell ⟨g, 0, none⟩ u).setCell ⟨g, 1, none⟩ v).setCell ⟨g, 2, none⟩ t).cell? ⟨g, 1, none⟩ = some v ∧ (((w.setCell ⟨g, 0, none⟩ u).setCell ⟨g, 1, none⟩ v).setCell ⟨g, 2, none⟩ t).cell? ⟨g, 2, none⟩ = some t := by
  obtain ⟨_, e2, e3⟩ := cells2 u v h0 h1
  have e4 : ((w.setCell ⟨g, 0, none⟩ u).setCell ⟨g, 1, none⟩ v).cell? ⟨g, 2, none⟩ = some z := by
    rw [World.cell?_setCell_other _ _ _ _ (by simp), World.cell?_setCell_other _ _ _ _ (by simp)]; exact h2
  exact ⟨by rw [World.cell?_setCell_other _ _ _ _ (by simp)]; exact e2, by rw [World.cell?_setCell_other _ _ _ _ (by simp)]; exact e3, World.cell?_setCell_same _ _ _ e4⟩
theorem Rd.lt {w : World} {a : Option Addr} {n : Nat} {xs : List Int} (h : Rd w a n xs) (hn : 0 < n) : ∀ x, a = some x → x.block < w.heap.size := by
  intro x hx
  obtain ⟨g, off, ha, hc⟩ := h.2.2 0 hn
  rw [ha] at hx; cases hx
  exact World.block_lt_of_cell? _ _ hc
/-- What a statement of a law leaves: a new box with a big result, in new memory. -/
def BoxR (w0 : World) (r : BV) (s : Value) (w : World) : Prop :=
  ∃ g a c, s = .pointer (some ⟨g, 0, none⟩) ∧ w.cell? ⟨g, 0, none⟩ = some (.int .i64 r.code) ∧ w.cell? ⟨g, 1, none⟩ = some (.bool r.neg) ∧ w.cell? ⟨g, 2, none⟩ = some (.slice a r.limbs.length c) ∧
    w0.heap.size ≤ g ∧ g < w.heap.size ∧ Sl w a r.limbs.length c r.limbs ∧ Fr w0.heap.size a r.limbs.length ∧ Kept [] w0 w
theorem boxR_last {W v : World} {B : Nat} {r : BV} {a : Option Addr} {c : Nat} {T : TypeId} (hB : W.heap.size ≤ B) (hS : Sl v a r.limbs.length c r.limbs) (hF : Fr B a r.limbs.length) (hk : Hid (Kept [] W v)) :
    BoxR W r (.pointer (some ⟨v.heap.size, 0, none⟩)) (v.alloc (.cells #[.int .i64 r.code, .bool r.neg, .slice a r.limbs.length c] T)) :=
  ⟨v.heap.size, a, c, rfl, by rw [World.cell?_alloc_new]; rfl, by rw [World.cell?_alloc_new]; rfl, by rw [World.cell?_alloc_new]; rfl, hk.out.size, by simp, hS.kept0 ((Kept.refl [] v).alloc _), hF.mono hB, hk.out.alloc _⟩
theorem boxR_set {W v : World} {B g : Nat} {r : BV} {a : Option Addr} {c : Nat} {x y z : Value} (hg : W.heap.size ≤ g) (hB : g < B) (hS : Sl v a r.limbs.length c r.limbs) (hF : Fr B a r.limbs.length)
    (h0 : v.cell? ⟨g, 0, none⟩ = some x) (h1 : v.cell? ⟨g, 1, none⟩ = some y) (h2 : v.cell? ⟨g, 2, none⟩ = some z) (hk : Hid (Kept [] W v)) :
    BoxR W r (.pointer (some ⟨g, 0, none⟩)) (((v.setCell ⟨g, 0, none⟩ (.int .i64 r.code)).setCell ⟨g, 1, none⟩ (.bool r.neg)).setCell ⟨g, 2, none⟩ (.slice a r.limbs.length c)) := by
  obtain ⟨ea, eb, ec⟩ := cells3' (.int .i64 r.code) (.bool r.neg) (.slice a r.limbs.length c) h0 h1 h2
  have hlt := World.block_lt_of_cell? _ _ h0
  exact ⟨g, a, c, rfl, ea, eb, ec, hg, by simpa using hlt, hS.kept ((((Kept.refl [g] v).setCell _ _ (by simp)).setCell _ _ (by simp)).setCell _ _ (by simp)) (fun hn x hx => by have := hF hn x hx; simp; omega), hF.mono (by omega),
    ((hk.out.setCell _ _ (by simp; omega)).setCell _ _ (by simp; omega)).setCell _ _ (by simp; omega)⟩
theorem Kept.set3n {W w2 : World} {g : Nat} {v1 v2 v3 : Value} (h : Hid (Kept [] W w2)) (hg : W.heap.size ≤ g) : Hid (Kept [] W (((w2.setCell ⟨g, 0, none⟩ v1).setCell ⟨g, 1, none⟩ v2).setCell ⟨g, 2, none⟩ v3)) :=
  Lib.hid (((h.out.setCell _ _ (by simp; omega)).setCell _ _ (by simp; omega)).setCell _ _ (by simp; omega))

end Go.Proofs.YtlhiahhpmjiioadGreatDoor

namespace Go.Proofs.YtlhiahhpmjiioadGreatDoor
open Go.RowKit

theorem val_nonneg {xs : List Int} (h : Nat40 xs) : 0 ≤ val xs := (canon_nonneg h.canon).1
theorem len_of_le {xs ys : List Int} (hx : Nat40 xs) (hy : Nat40 ys) (h : val ys ≤ val xs) : ys.length ≤ xs.length := by
  rcases Nat.lt_or_ge xs.length ys.length with h1 | h1
  · have := val_lt_len hx hy h1; omega
  · exact h1
theorem fit_small {v : Int} {n : Nat} (h : v < pw n) (hn : n ≤ 40) : fitCode v = 0 ∧ fitList v = digits v := by
  have := digits_len n v h
  unfold fitCode fitList
  rw [if_neg (by omega), if_neg (by omega)]; exact ⟨rfl, rfl⟩

/-- The code and the limbs of a difference. -/
def subCode (xs ys : List Int) : Int := if fault2 xs ys = 0 then (if val xs < val ys then 3 else 0) else fault2 xs ys
def subList (xs ys : List Int) : List Int := if fault2 xs ys = 0 then (if val xs < val ys then [] else digits (val xs - val ys)) else []

end Go.Proofs.YtlhiahhpmjiioadGreatDoor

namespace Go.Proofs.YtlhiahhpmjiioadGreatDoor
open Go.RowKit
attribute [local go_sem ↓] Go.wp_at_zero Go.wp_at_succ

theorem fitB_of {b : Bool} {v : Int} (h : 0 ≤ v) (c : Int) (l : List Int) (hc : fitCode v = c) (hl : fitList v = l) : (c ≠ 0 → fitB (sg b v) = noBig c) ∧ (c = 0 → l = digits v ∧ fitB (sg b v) = ⟨0, isNeg (sg b v), mag (sg b v)⟩) := by
  unfold fitCode at hc
  unfold fitList at hl
  have hm := mag_sg (neg := b) h
  by_cases h40 : 40 < (digits v).length
  · rw [if_pos h40] at hc hl
    subst hc hl
    exact ⟨fun _ => fitB_many (by rw [hm]; exact h40), fun h => by omega⟩
  · rw [if_neg h40] at hc hl
    subst hc hl
    exact ⟨fun h => absurd rfl h, fun _ => ⟨rfl, fitB_ok (by rw [hm]; exact h40)⟩⟩

theorem sum_same {p : Bool} {x y : Int} : sg p x + sg p y = sg p (x + y) := by cases p <;> simp [sg] <;> omega
theorem Kept.free' {L : List Nat} {w w' : World} {p : Addr} {v : Value} (h : Kept L w w') (hc : w.cell? p = some v) (hf : w.frozen? p = false) (hg : p.block ∉ L) : w'.frozen? p = false :=
  h.free hf (World.block_lt_of_cell? w p hc) hg
theorem Kept.set3 {W w2 : World} {g : Nat} {v1 v2 v3 : Value} (h : Hid (Kept [g] W w2)) : Hid (Kept [g] W (((w2.setCell ⟨g, 0, none⟩ v1).setCell ⟨g, 1, none⟩ v2).setCell ⟨g, 2, none⟩ v3)) :=
  Lib.hid (((h.out.setCell _ _ (by simp)).setCell _ _ (by simp)).setCell _ _ (by simp))
theorem cell_set3 {w2 : World} {g : Nat} {p : Addr} {v v1 v2 v3 : Value} (h : w2.cell? p = some v) (hg : p.block ≠ g) : (((w2.setCell ⟨g, 0, none⟩ v1).setCell ⟨g, 1, none⟩ v2).setCell ⟨g, 2, none⟩ v3).cell? p = some v :=
  ((((Kept.refl [g] w2).setCell _ _ (by simp)).setCell _ _ (by simp)).setCell _ _ (by simp)).cell h (by simpa using hg)
theorem cell_set2 {w2 : World} {g : Nat} {p : Addr} {v v1 v2 : Value} (h : w2.cell? p = some v) (hg : p.block ≠ g) : ((w2.setCell ⟨g, 0, none⟩ v1).setCell ⟨g, 1, none⟩ v2).cell? p = some v :=
  (((Kept.refl [g] w2).setCell _ _ (by simp)).setCell _ _ (by simp)).cell h (by simpa using hg)
theorem drew_cell {w : World} {p : Addr} {v : Value} (h : w.cell? p = some v) : w.drew.cell? p = some v := h
theorem Kept.set2 {W w2 : World} {g : Nat} {v1 v2 : Value} (h : Hid (Kept [g] W w2)) : Hid (Kept [g] W ((w2.setCell ⟨g, 0, none⟩ v1).setCell ⟨g, 1, none⟩ v2)) :=
  Lib.hid ((h.out.setCell _ _ (by simp)).setCell _ _ (by simp))
/-- A big answer, stored into the result's block. -/
theorem bigR_fin {w w0 w1 : World} {g : Nat} {r : BV} {a : Option Addr} {c : Nat} (hg : w.heap.size ≤ g) (hS : Sl w1 a r.limbs.length c r.limbs) (hF : Fr w0.heap.size a r.limbs.length) (hg0 : g < w0.heap.size) (hk : Kept [] w w1) :
    BigR w r (.returned (.agg #[.int .i64 r.code, .bool r.neg, .slice a r.limbs.length c])) (((w1.setCell ⟨g, 0, none⟩ (.int .i64 r.code)).setCell ⟨g, 1, none⟩ (.bool r.neg)).setCell ⟨g, 2, none⟩ (.slice a r.limbs.length c)) :=
  ⟨a, c, rfl, hS.kept ((((Kept.refl [g] w1).setCell _ _ (by simp)).setCell _ _ (by simp)).setCell _ _ (by simp)) (fun hn x hx => by have := hF hn x hx; simp; omega), hF.mono (by omega),
    ((hk.setCell _ _ (by simp; omega)).setCell _ _ (by simp; omega)).setCell _ _ (by simp; omega)⟩

end Go.Proofs.YtlhiahhpmjiioadGreatDoor
