/-
 Contract of the terms of a series, as an iterator. Conditions: as said.
-/
import Derived.Test.YtfafjijoeanbhaaGreatRange
import Derived.Test.YtfafjijoeanbhaaGreatSpanG
import Derived.Test.YtfafjijoeanbhaaGreatPlainC
namespace Go.Proofs.YtfafjijoeanbhaaGreat
open Go.RowKit Go.Shelf
attribute [local go_sem] Oper.semAt_some

/-- What a round is handed: its number, and a span. -/
structure TX where
 k : Int
 t1 : Int
 t2 : Int
 a : Option Addr
 c : Nat
 b : Option Addr
 d : Nat
abbrev TX.encs (x : TX) : Array Value := #[.int .i64 x.k, .agg #[.bool (isNeg x.t1), .slice x.a (mag x.t1).length x.c, .bool (isNeg x.t2), .slice x.b (mag x.t2).length x.d]]
/-- What it is told of that: the number of the round, the term, in memory from B on. -/
def TV (T : Nat → Z2) (B : Nat) (j : Nat) (x : TX) (W : World) : Prop :=
 x.k = (j : Int) + 1 ∧ x.t1 = (T (j + 1)).lo ∧ x.t2 = (T (j + 1)).hi ∧ Sl W x.a (mag x.t1).length x.c (mag x.t1) ∧ Sl W x.b (mag x.t2).length x.d (mag x.t2) ∧ Fr B x.a (mag x.t1).length ∧ Fr B x.b (mag x.t2).length
/-- Everything below B that is not in M is as it was. -/
def KeptFrom (M : List Nat) (B : Nat) (w w' : World) : Prop := ∃ L, Kept L w w' ∧ ∀ x, x ∈ L → x ∈ M ∨ B ≤ x
theorem KeptFrom.cell {M : List Nat} {B : Nat} {w w' : World} {p : Addr} {v : Value} (h : KeptFrom M B w w') (hc : w.cell? p = some v) (h1 : p.block ∉ M) (h2 : p.block < B) : w'.cell? p = some v := by
 obtain ⟨L, hk, hL⟩ := h
 exact hk.cell hc (fun hm => by rcases hL _ hm with h | h; exact h1 h; omega)
theorem KeptFrom.trans {M : List Nat} {B : Nat} {w w1 w2 : World} {L : List Nat} (h : KeptFrom M B w w1) (k : Kept L w1 w2) (hL : ∀ x, x ∈ L → x ∈ M ∨ B ≤ x) : KeptFrom M B w w2 := by
 obtain ⟨L0, hk, h0⟩ := h
 exact ⟨L0 ++ L, (hk.mono (fun x hx _ => List.mem_append_left _ hx)).trans k (fun x hx _ => List.mem_append_right _ hx), fun x hx => by
  rcases List.mem_append.1 hx with h | h
  ·exact h0 x h
  ·exact hL x h⟩

/-- A box with a span that may be written, whose ends do not lie in it. -/
def TBox (w : World) (g : Nat) (t : Z2) : Prop :=
 ∃ a c b d, w.cell? ⟨g, 0, none⟩ = some (.bool (isNeg t.lo)) ∧ w.cell? ⟨g, 1, none⟩ = some (.slice a (mag t.lo).length c) ∧ w.cell? ⟨g, 2, none⟩ = some (.bool (isNeg t.hi)) ∧ w.cell? ⟨g, 3, none⟩ = some (.slice b (mag t.hi).length d) ∧
  w.frozen? ⟨g, 0, none⟩ = false ∧ w.frozen? ⟨g, 1, none⟩ = false ∧ w.frozen? ⟨g, 2, none⟩ = false ∧ w.frozen? ⟨g, 3, none⟩ = false ∧ Sl w a (mag t.lo).length c (mag t.lo) ∧ Sl w b (mag t.hi).length d (mag t.hi)
set_option maxHeartbeats 4000000 in
set_option maxRecDepth 20000 in
theorem terms_iter (T : Nat → Z2) (N : Nat) (hN : N ≤ 1000) (M : List Nat) (gA gN gF fn : Nat) (caps : Array Value) (Cap : World → Prop) (w : World) (a b : Option Addr) (c d : Nat)
  (hA0 : w.cell? ⟨gA, 0, none⟩ = some (.bool (isNeg (T 0).lo))) (hA1 : w.cell? ⟨gA, 1, none⟩ = some (.slice a (mag (T 0).lo).length c)) (hA2 : w.cell? ⟨gA, 2, none⟩ = some (.bool (isNeg (T 0).hi))) (hA3 : w.cell? ⟨gA, 3, none⟩ = some (.slice b (mag (T 0).hi).length d))
  (h1 : Sl w a (mag (T 0).lo).length c (mag (T 0).lo)) (h2 : Sl w b (mag (T 0).hi).length d (mag (T 0).hi))
  (hNc : w.cell? ⟨gN, 0, none⟩ = some (.int .i64 (N : Int))) (hF : w.cell? ⟨gF, 0, none⟩ = some (.func (.func fn) #[] caps)) (eg : Enters Tryz.prog fn)
  (hM : ∀ x, x ∈ M → x < w.heap.size) (hmN : gN ∉ M) (hmF : gF ∉ M)
  (hCap : Cap w) (hCapK : ∀ A B L, Cap A → Kept L A B → (∀ x, x ∈ L → x ∈ M ∨ w.heap.size ≤ x) → Cap B)
  (hnext : ∀ (j : Nat) (W : World) (a b : Option Addr) (c d : Nat), j < N → Cap W → Sl W a (mag (T j).lo).length c (mag (T j).lo) → Sl W b (mag (T j).hi).length d (mag (T j).hi) →
   Calls Tryz.prog fn (#[.int .i64 ((j : Int) + 1), .agg #[.bool (isNeg (T j).lo), .slice a (mag (T j).lo).length c, .bool (isNeg (T j).hi), .slice b (mag (T j).hi).length d]] ++ caps) W (SpanV W (T (j + 1)).lo (T (j + 1)).hi))
  (l : Nat) (J : Nat → World → Prop) (W : World) (hkW : Kept [] w W) (hl : l < W.heap.size) (hl0 : w.heap.size ≤ l)
  (hJ : ∀ j A B L, J j A → Kept L A B → (∀ x, x ∈ L → x = W.heap.size) → W.heap.size ≤ A.heap.size → J j B)
  (hY : ∀ j x W1, j < N → J j W1 → TV T (W.heap.size + 1) j x W1 → W.heap.size ≤ W1.heap.size → YieldAt Fence.wide 0 Tryz.prog l x.encs W1 fun e W' => e = .returned (.bool true) ∧ J (j + 1) W' ∧ Kept (l :: M) W1 W')
  (hJ0 : J 0 W) :
  CallsIn Fence.wide 0 Tryz.prog 183 (#[.func (.yield l) #[] #[]] ++ #[.pointer (some ⟨gA, 0, none⟩), .pointer (some ⟨gN, 0, none⟩), .pointer (some ⟨gF, 0, none⟩)]) W fun e W' => (∃ v, e = .returned v) ∧ J N W' ∧ W.heap.size ≤ W'.heap.size := by
 have tA0 := hkW.cell hA0 (by simp)
 have tA1 := hkW.cell hA1 (by simp)
 have tA2 := hkW.cell hA2 (by simp)
 have tA3 := hkW.cell hA3 (by simp)
 have H1 := Lib.hid (h1.kept0 hkW)
 have H2 := Lib.hid (h2.kept0 hkW)
 have HNC := Lib.hid hNc
 have HFC := Lib.hid hF
 have HY := Lib.hid hY
 have HJ := Lib.hid hJ
 have HJ0 := Lib.hid hJ0
 have HCAP := Lib.hid hCap
 have HCK := Lib.hid hCapK
 have HNX := Lib.hid hnext
 have HM := Lib.hid hM
 have HKW := Lib.hid hkW
 clear h1 h2 hNc hF hY hJ hJ0 hCap hCapK hnext hM hkW hA0 hA1 hA2 hA3
 refine callsIn_of_wp Tryz.func183 rfl trivial ?_ rfl
 simp only [Tryz.ntmps183, List.size_toArray, List.length_cons, List.length_nil, Nat.reduceAdd, Nat.reduceSub, Array.replicate_succ, Array.replicate_zero, List.push_toArray, List.append_toArray, List.nil_append, List.cons_append]
 gi_wp2
 have hb0 : TBox (W.alloc (.cells #[.bool (isNeg (T 0).lo), .slice a (mag (T 0).lo).length c, .bool (isNeg (T 0).hi), .slice b (mag (T 0).hi).length d] 26)) W.heap.size (T 0) :=
  ⟨a, c, b, d, by rw [World.cell?_alloc_new]; rfl, by rw [World.cell?_alloc_new]; rfl, by rw [World.cell?_alloc_new]; rfl, by rw [World.cell?_alloc_new]; rfl,
   frozen_of_row _ _ 0 _ _ (heap_alloc_new _ _), frozen_of_row _ _ 1 _ _ (heap_alloc_new _ _), frozen_of_row _ _ 2 _ _ (heap_alloc_new _ _), frozen_of_row _ _ 3 _ _ (heap_alloc_new _ _),
   H1.out.kept0 ((Kept.refl [] W).alloc _), H2.out.kept0 ((Kept.refl [] W).alloc _)⟩
 have HB0 := Lib.hid hb0
 clear hb0 tA0 tA1 tA2 tA3
 have hzW := HKW.out.size
 gi_loopw [6] (fun i wr => ∃ j : Nat, j ≤ N ∧ i = .int .i64 ((j : Int) + 1) ∧ Hid (J j wr) ∧ Hid (TBox wr W.heap.size (T j)) ∧ Hid (KeptFrom M w.heap.size w wr) ∧ W.heap.size < wr.heap.size ∧ Hid (Cap wr)) (fun i _ => N + 1 - (intOf i).toNat)
 case atStart =>
  have hk := (Kept.refl [] W).alloc (.cells #[.bool (isNeg (T 0).lo), .slice a (mag (T 0).lo).length c, .bool (isNeg (T 0).hi), .slice b (mag (T 0).hi).length d] 26)
  exact ⟨0, Nat.zero_le _, rfl, Lib.hid (HJ.out 0 _ _ [] HJ0.out hk (fun x hx => by cases hx) (Nat.le_refl _)), HB0, Lib.hid ⟨[], HKW.out.trans0 hk, fun x hx => by cases hx⟩, by simp, Lib.hid (HCK.out _ _ [] HCAP.out (HKW.out.trans0 hk) (fun x hx => by cases hx))⟩
 case round =>
  obtain ⟨j, hj, rfl, HJj, HB, HKF, hsz, HCj⟩ := hrel
  have tN := HKF.out.cell HNC.out hmN (World.block_lt_of_cell? w _ HNC.out)
  have tF := HKF.out.cell HFC.out hmF (World.block_lt_of_cell? w _ HFC.out)
  have hj0 : (0 : Int) ≤ (j : Int) := by omega
  have hw1 : IntKind.i64.wrap ((j : Int) + 1 + 1) = (j : Int) + 1 + 1 := IntWalk.i64_in _ (by omega)
  by_cases hlt : j < N
  ·have hle : (j : Int) + 1 ≤ (N : Int) := by omega
   obtain ⟨a1, c1, b1, d1, e0, e1, e2, e3, f0, f1, f2, f3, hs1, hs2⟩ := HB.out
   have E0 := Lib.hid e0
   have E1 := Lib.hid e1
   have E2 := Lib.hid e2
   have E3 := Lib.hid e3
   have F0 := Lib.hid f0
   have F1 := Lib.hid f1
   have F2 := Lib.hid f2
   have F3 := Lib.hid f3
   have S1 := Lib.hid hs1
   have S2 := Lib.hid hs2
   clear hs1 hs2
   gi_wp2
   refine ⟨trivial, ?_⟩
   rw [show ∀ args w, Sem.run Tryz.prog (callFunc fn args) w = .ok (.enter fn args) w from eg]
   rw [Oper.uponIn_enter]
   refine ⟨fun hd => by simp [Fence.wide] at hd, ?_⟩
   refine CallsIn.mono (callsIn_wide.2 (HNX.out j _ a1 b1 c1 d1 hlt HCj.out S1.out S2.out)) ?_
   intro e w2 hh
   unfold SpanV at hh
   obtain ⟨a2, hh⟩ := hh
   obtain ⟨c2, hh⟩ := hh
   obtain ⟨b2, hh⟩ := hh
   obtain ⟨d2, hh, hs3, hs4, hf3, hf4, hk⟩ := hh
   subst hh
   have hz2 := hk.size
   have e0 := hk.cell E0.out (by simp)
   have e1 := hk.cell E1.out (by simp)
   have e2 := hk.cell E2.out (by simp)
   have e3 := hk.cell E3.out (by simp)
   have f0 := hk.free F0.out (by simp; omega) (by simp)
   have f1 := hk.free F1.out (by simp; omega) (by simp)
   have f2 := hk.free F2.out (by simp; omega) (by simp)
   have f3 := hk.free F3.out (by simp; omega) (by simp)
   have S3 := Lib.hid hs3
   have S4 := Lib.hid hs4
   have G3 := Lib.hid hf3
   have G4 := Lib.hid hf4
   have HK := Lib.hid hk
   clear hs3 hs4 hf3 hf4 hk
   gi_wp2
   generalize hW3 : ((((w2.setCell ⟨W.heap.size, 0, none⟩ (.bool (isNeg (T (j + 1)).lo))).setCell ⟨W.heap.size, 1, none⟩ (.slice a2 (mag (T (j + 1)).lo).length c2)).setCell ⟨W.heap.size, 2, none⟩ (.bool (isNeg (T (j + 1)).hi))).setCell ⟨W.heap.size, 3, none⟩ (.slice b2 (mag (T (j + 1)).hi).length d2)) = W3
   have hk3 : Kept [W.heap.size] w2 W3 := by rw [← hW3]; exact ((((Kept.refl _ _).setCell _ _ (by simp)).setCell _ _ (by simp)).setCell _ _ (by simp)).setCell _ _ (by simp)
   obtain ⟨x0, x1, x2, x3⟩ := st4 hW3.symm e0 e1 e2 e3
   have hfz : ∀ x, W3.frozen? x = w2.frozen? x := by rw [← hW3]; intro x; simp only [World.frozen?_setCell]
   have y0 := (hfz _).trans f0
   have y1 := (hfz _).trans f1
   have y2 := (hfz _).trans f2
   have y3 := (hfz _).trans f3
   have s3 := S3.out.kept hk3 (fun hn y hy hm => by have h9 := G3.out hn y hy; simp at hm; omega)
   have s4 := S4.out.kept hk3 (fun hn y hy hm => by have h9 := G4.out hn y hy; simp at hm; omega)
   have hz3 := hk3.size
   have hJ3 := HJ.out j _ _ [W.heap.size] (HJ.out j _ _ [] HJj.out HK.out (fun x hx => by cases hx) (by omega)) hk3 (fun x hx => by simpa using hx) (by omega)
   have hV : TV T (W.heap.size + 1) j ⟨(j : Int) + 1, (T (j + 1)).lo, (T (j + 1)).hi, a2, c2, b2, d2⟩ W3 := ⟨rfl, rfl, rfl, s3, s4, G3.out.mono (by omega), G4.out.mono (by omega)⟩
   obtain ⟨fn', tmps, asg, bdy, hy, hR⟩ := HY.out j ⟨(j : Int) + 1, (T (j + 1)).lo, (T (j + 1)).hi, a2, c2, b2, d2⟩ W3 hlt hJ3 hV (by omega)
   have hKF3 : KeptFrom M w.heap.size w W3 := (HKF.out.trans HK.out (fun x hx => by cases hx)).trans hk3 (fun x hx => .inr (by simp at hx; omega))
   have hC3 := HCK.out _ _ [W.heap.size] (HCK.out _ _ [] HCj.out HK.out (fun x hx => by cases hx)) hk3 (fun x hx => .inr (by simp at hx; omega))
   have X0 := Lib.hid x0
   have X1 := Lib.hid x1
   have X2 := Lib.hid x2
   have X3 := Lib.hid x3
   have Y0 := Lib.hid y0
   have Y1 := Lib.hid y1
   have Y2 := Lib.hid y2
   have Y3 := Lib.hid y3
   have S5 := Lib.hid s3
   have S6 := Lib.hid s4
   have HKF3 := Lib.hid hKF3
   have HC3 := Lib.hid hC3
   have HR := Lib.hid hR
   have HYY := Lib.hid hy
   clear x0 x1 x2 x3 y0 y1 y2 y3 s3 s4 hJ3 hV hKF3 hC3 hR hy hk3 hfz e0 e1 e2 e3 f0 f1 f2 f3 hW3 tN tF
   rw [show Sem.run Tryz.prog (Instr.yield l #[.int .i64 ((j : Int) + 1), .agg #[.bool (isNeg (T (j + 1)).lo), .slice a2 (mag (T (j + 1)).lo).length c2, .bool (isNeg (T (j + 1)).hi), .slice b2 (mag (T (j + 1)).hi).length d2]]) W3 = _ from HYY.out]
   rw [Oper.uponIn_round]
   refine ⟨fun hd => by simp [Fence.wide] at hd, ?_⟩
   refine RoundIn.mono HR.out ?_
   rintro e W4 ⟨rfl, hJ4, hk4⟩
   have hnl : W.heap.size ∉ l :: M := fun hm => by
    rcases List.mem_cons.1 hm with h | h
    ·omega
    ·have := HM.out _ h; omega
   have hz4 := hk4.size
   have HB4 : Hid (TBox W4 W.heap.size (T (j + 1))) := Lib.hid ⟨a2, c2, b2, d2, hk4.cell X0.out hnl, hk4.cell X1.out hnl, hk4.cell X2.out hnl, hk4.cell X3.out hnl,
    hk4.free Y0.out (by simp; omega) hnl, hk4.free Y1.out (by simp; omega) hnl, hk4.free Y2.out (by simp; omega) hnl, hk4.free Y3.out (by simp; omega) hnl,
    S5.out.kept hk4 (fun hn y hy hm => by
     have h9 := G3.out hn y hy
     rcases List.mem_cons.1 hm with h | h
     ·omega
     ·have := HM.out _ h; omega),
    S6.out.kept hk4 (fun hn y hy hm => by
     have h9 := G4.out hn y hy
     rcases List.mem_cons.1 hm with h | h
     ·omega
     ·have := HM.out _ h; omega)⟩
   have HKF4 : Hid (KeptFrom M w.heap.size w W4) := Lib.hid (HKF3.out.trans hk4 (fun x hx => by
    rcases List.mem_cons.1 hx with h | h
    ·exact .inr (by omega)
    ·exact .inl h))
   have HC4 : Hid (Cap W4) := Lib.hid (HCK.out _ _ _ HC3.out hk4 (fun x hx => by
    rcases List.mem_cons.1 hx with h | h
    ·exact .inr (by omega)
    ·exact .inl h))
   have HJ4 := Lib.hid hJ4
   clear hJ4 hk4 hnl X0 X1 X2 X3 Y0 Y1 Y2 Y3 S5 S6 HR HYY HKF3 HC3 S3 S4 HK E0 E1 E2 E3 F0 F1 F2 F3 S1 S2 HB HKF HCj HJj
   gi_wp2
   go_roundw
   case rel => exact ⟨j + 1, hlt, by first | rfl | (congr 1; omega), HJ4, HB4, HKF4, by omega, HC4⟩
   case measure => simp [intOf]; omega
  ·obtain rfl : j = N := by omega
   have hle : ¬ (j : Int) + 1 ≤ (j : Int) := by omega
   have HE := Lib.hid HJj.out
   clear HB HKF HCj tF hw1
   gi_wp2
   go_end0
   exact ⟨⟨_, rfl⟩, HE.out, by omega⟩

end Go.Proofs.YtfafjijoeanbhaaGreat
