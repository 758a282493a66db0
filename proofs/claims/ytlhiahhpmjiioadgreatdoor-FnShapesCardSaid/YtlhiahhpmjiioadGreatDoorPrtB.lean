/-
  Several of my texts joined: the contracts of the functions that they name, each with the conditions that it states.
-/
import Derived.Deep.RegionHeld3
import Derived.Deep.DrawnRows
import Derived.Deep.DeepCutAuto
import Derived.Test.YtlhiahhpmjiioadGreatDoorPrtP
import Derived.Test.YtlhiahhpmjiioadGreatDoorCooC
namespace Go.Proofs.YtlhiahhpmjiioadGreatDoor
open Go.RowKit

set_option maxHeartbeats 1000000 in
theorem nameOf_any (k : Int) (w : World) (hk : inK k = true) : Calls Tryz.prog 20 #[.int .i64 k] w (Ans w (.string (strB (nameT k)))) := by
  have hk' : 1 ≤ k ∧ k ≤ 4 := of_decide_eq_true hk
  rcases (by omega : k = 1 ∨ k = 2 ∨ k = 3 ∨ k = 4) with rfl | rfl | rfl | rfl
  all_goals
    go_enter Tryz.func20, Tryz.ntmps20
    go_wp2
    go_ret
    exact ⟨rfl, Kept.refl _ _⟩
set_option maxHeartbeats 1000000 in
theorem parenthesesOf_any (k : Int) (w : World) : Calls Tryz.prog 19 #[.int .i64 k] w (Ans w (.int .i64 (aroundN k : Int))) := by
  by_cases h4 : k = 4
  · subst h4
    go_enter Tryz.func19, Tryz.ntmps19
    go_wp2
    go_ret
    exact ⟨rfl, Kept.refl _ _⟩
  · have hv : Hid (aroundN k = 1) := by unfold aroundN; exact if_neg h4
    go_enter Tryz.func19, Tryz.ntmps19
    go_wp2
    go_ret
    exact ⟨by rw [hv.out]; rfl, Kept.refl _ _⟩
theorem repeat_same (c : UInt8) (k : Nat) : Lib.repeatL [c] k = List.replicate k c := by
  induction k with
  | zero => rfl
  | succ k ih => simp only [Lib.repeatL, ih, List.replicate_succ]; rfl
theorem Repeat_same (c : UInt8) (k : Nat) (w : World) (hk : k ≤ 1000) :
    Calls Tryz.prog 21 #[.string ⟨#[c]⟩, .int .i64 (k : Int)] w (Ans w (.string (strB (List.replicate k c)))) := by
  refine (Tryz.strings_Repeat ⟨#[c]⟩ k w (by omega) (by show 1 * k ≤ _; omega)).mono ?_
  rintro e w' ⟨rfl, hw⟩
  have : Lib.repeatL (⟨#[c]⟩ : ByteArray).data.toList k = List.replicate k c := repeat_same c k
  rw [this]
  exact ⟨rfl, Kept.ofBelow hw⟩
theorem Join_commas (v : Value) (B : Nat) (ts : List (List UInt8)) (w : World) (h : OwS B w v ts) (hn : 0 < ts.length) (hl : (joinC ts).length ≤ 1000000) (hm : ts.length ≤ 1000) :
    Calls Tryz.prog 22 #[v, .string ⟨#[44]⟩] w (Ans w (.string (strB (joinC ts)))) := by
  obtain ⟨g, c, rfl, hc1, hc2, hB, hg, hcell⟩ := h.form hn
  have hmap : (ts.map strB).map (·.data.toList) = ts := by rw [List.map_map]; exact List.map_id'' (fun _ => rfl) ts
  have hlen : (ts.map strB).length = ts.length := by simp
  have hj := Tryz.strings_Join g 0 c (ts.map strB) ⟨#[44]⟩ w (fun j x hx => by
    rw [List.getElem?_map] at hx
    obtain ⟨t, ht, rfl⟩ := Option.map_eq_some_iff.1 hx
    have hlt := (List.getElem?_eq_some_iff.1 ht).1
    have := hcell j hlt
    rw [Nat.zero_add, this]
    simp [List.getD_eq_getElem?_getD, ht, strV]) hg (by omega) (by omega) (by rw [hmap]; have : Lib.join ts (⟨#[44]⟩ : ByteArray).data.toList = joinC ts := rfl; rw [this]; omega)
  rw [hlen, hmap] at hj
  refine hj.mono ?_
  rintro e w' ⟨rfl, hw⟩
  exact ⟨rfl, Kept.ofBelow hw⟩

end Go.Proofs.YtlhiahhpmjiioadGreatDoor

namespace Go.Proofs.YtlhiahhpmjiioadGreatDoor
open Go.RowKit

theorem shape_in {k : Int} {xs : List Int} {n : Nat} (h : shapeC k xs n = 0) : inK k = true ∧ 1 ≤ n ∧ n ≤ 12 ∧ ∀ i, i < n → (-999999999999999 ≤ xs.getD (i * 2) 0 ∧ xs.getD (i * 2) 0 ≤ 999999999999999) ∧ -999999999999999 ≤ xs.getD (i * 2 + 1) 0 ∧ xs.getD (i * 2 + 1) 0 ≤ 999999999999999 := by
  have hk : inK k = true := by
    cases hi : inK k with
    | true => rfl
    | false => rw [shapeC_kind hi] at h; omega
  have hp : ptsFault xs n = 0 := by
    rcases Classical.em (ptsFault xs n = 0) with h1 | h1
    · exact h1
    · rw [shapeC_pts hk h1] at h; exact absurd h h1
  have hn := ptsFault_len hp
  refine ⟨hk, hn.1, hn.2, fun i hi => ?_⟩
  rw [ptsFault_in (by omega)] at hp
  have ht : PtsTo xs n := by
    rcases Classical.em (PtsTo xs n) with h1 | h1
    · exact h1
    · unfold ptsFirst at hp; rw [if_neg h1] at hp; omega
  have h3 := ht i hi
  have h4 : InPt (xs.getD (i * 2) 0) (xs.getD (i * 2 + 1) 0) := by
    rcases Classical.em (InPt (xs.getD (i * 2) 0) (xs.getD (i * 2 + 1) 0)) with h1 | h1
    · exact h1
    · rw [ptFault_no h1] at h3; omega
  unfold InPt at h4
  omega
theorem pointT_len (x y : Int) (hx : -999999999999999 ≤ x ∧ x ≤ 999999999999999) (hy : -999999999999999 ≤ y ∧ y ≤ 999999999999999) : (pointT x y).length ≤ 35 := by
  unfold pointT
  have h1 := coordT_len x hx.1 hx.2
  have h2 := coordT_len y hy.1 hy.2
  rw [List.length_append, List.length_cons]; omega
theorem ptsT_in {xs : List Int} {n : Nat} (h : ∀ i, i < n → (-999999999999999 ≤ xs.getD (i * 2) 0 ∧ xs.getD (i * 2) 0 ≤ 999999999999999) ∧ -999999999999999 ≤ xs.getD (i * 2 + 1) 0 ∧ xs.getD (i * 2 + 1) 0 ≤ 999999999999999) : ∀ t ∈ ptsT xs n, t.length ≤ 35 := by
  intro t ht
  unfold ptsT at ht
  obtain ⟨i, hi, rfl⟩ := List.mem_map.1 ht
  have := h i (List.mem_range.1 hi)
  exact pointT_len _ _ this.1 this.2
theorem ptText (x y : Int) : strB (coordT x) ++ ⟨#[32]⟩ ++ strB (coordT y) = strB (pointT x y) := by
  show strB _ ++ strB [32] ++ strB _ = _
  rw [strB_append, strB_append]; unfold pointT; simp
theorem pr_box {w w1 : World} {k : Int} {a : Option Addr} {n c : Nat} {T U : TypeId} (hk : Kept [] ((w.alloc (.cells #[.int .i64 k, .slice a n c] T)).alloc (.cells #[.int .i64 0, .string ⟨#[]⟩] U)) w1) :
    (w1.cell? ⟨w.heap.size, 0, none⟩ = some (.int .i64 k) ∧ w1.cell? ⟨w.heap.size, 1, none⟩ = some (.slice a n c)) ∧ w1.cell? ⟨w.heap.size + 1, 0, none⟩ = some (.int .i64 0) ∧ w1.cell? ⟨w.heap.size + 1, 1, none⟩ = some (.string ⟨#[]⟩) ∧ w1.frozen? ⟨w.heap.size + 1, 0, none⟩ = false ∧ w1.frozen? ⟨w.heap.size + 1, 1, none⟩ = false :=
  ⟨⟨(hk.peel.top rfl (by simp) 0 (v := .int .i64 k) rfl).1, (hk.peel.top rfl (by simp) 1 (v := .slice a n c) rfl).1⟩,
   (hk.top (g := w.heap.size + 1) (by simp) (by simp) 0 (v := .int .i64 0) rfl).1, (hk.top (g := w.heap.size + 1) (by simp) (by simp) 1 (v := .string ⟨#[]⟩) rfl).1, (hk.top (g := w.heap.size + 1) (by simp) (by simp) 0 (v := .int .i64 0) rfl).2.1, (hk.top (g := w.heap.size + 1) (by simp) (by simp) 1 (v := .string ⟨#[]⟩) rfl).2.1⟩
theorem app_keep {wB w1 w' : World} {v : Value} {xs : List (List UInt8)} {B E : Nat} {x y : Value} (k : Hid (Kept [] wB w1)) (hO : OwS B w1 v xs) (hB : wB.heap.size ≤ B) (hG : w1.grownBy w' v.ownBlock) (c0 : w1.cell? ⟨E, 0, none⟩ = some x) (c1 : w1.cell? ⟨E, 1, none⟩ = some y) (hE : v.ownBlock ≠ some E) :
    Hid (Kept [] wB w') ∧ w'.cell? ⟨E, 0, none⟩ = some x ∧ w'.cell? ⟨E, 1, none⟩ = some y :=
  ⟨Lib.hid (hO.grown k.out hB hG), (kept_ownS hG).cell c0 (by rw [Option.mem_toList]; exact hE), (kept_ownS hG).cell c1 (by rw [Option.mem_toList]; exact hE)⟩
theorem mkP2 {wB w5 w' : World} {E : Nat} {x y : Value} (c0 : w5.cell? ⟨E, 0, none⟩ = some x) (c1 : w5.cell? ⟨E, 1, none⟩ = some y) (kB : Hid (Kept [] wB w5)) (k : Hid (Kept [] w5 w')) : Hid (Kept [] wB w') ∧ w'.cell? ⟨E, 0, none⟩ = some x ∧ w'.cell? ⟨E, 1, none⟩ = some y :=
  ⟨Lib.hid (kB.out.trans0 k.out), k.out.cell c0 (by simp), k.out.cell c1 (by simp)⟩
theorem mkP3 {wB w5 w' : World} {E : Nat} {x y : Value} (h : Hid (Kept [] wB w5) ∧ w5.cell? ⟨E, 0, none⟩ = some x ∧ w5.cell? ⟨E, 1, none⟩ = some y) (k : Kept [] w5 w') : Hid (Kept [] wB w') ∧ w'.cell? ⟨E, 0, none⟩ = some x ∧ w'.cell? ⟨E, 1, none⟩ = some y :=
  ⟨Lib.hid (h.1.out.trans0 k), k.cell h.2.1 (by simp), k.cell h.2.2 (by simp)⟩
theorem mkP4 {wB w5 w' : World} {E : Nat} {x y : Value} (k : Kept [] w5 w') (kB : Hid (Kept [] wB w5)) (c0 : w5.cell? ⟨E, 0, none⟩ = some x) (c1 : w5.cell? ⟨E, 1, none⟩ = some y) : Hid (Kept [] wB w') ∧ w'.cell? ⟨E, 0, none⟩ = some x ∧ w'.cell? ⟨E, 1, none⟩ = some y :=
  ⟨Lib.hid (kB.out.trans0 k), k.cell c0 (by simp), k.cell c1 (by simp)⟩
theorem mkP5 {wB w5 : World} {E : Nat} {x y : Value} {o : Obj} (h : Hid (Kept [] wB w5) ∧ w5.cell? ⟨E, 0, none⟩ = some x ∧ w5.cell? ⟨E, 1, none⟩ = some y) : Hid (Kept [] wB (w5.alloc o)) ∧ (w5.alloc o).cell? ⟨E, 0, none⟩ = some x ∧ (w5.alloc o).cell? ⟨E, 1, none⟩ = some y :=
  mkP4 ((Kept.refl _ _).alloc _) h.1 h.2.1 h.2.2
theorem field_txS (v0 v1 : Value) (w : World) : Sem.run Tryz.prog (Instr.field 29 (.agg #[v0, v1]) 1) w = .ok v1 w := by kernel_rfl
attribute [local go_sem ↓] field_txS

set_option maxHeartbeats 2000000 in
set_option maxRecDepth 20000 in
theorem PrintShape_any (k : Int) (a : Option Addr) (n c : Nat) (xs : List Int) (w : World) (h : Rd w a (n * 2) xs) (hp : Pow10 w) :
    Calls Tryz.prog 6 #[.agg #[.int .i64 k, .slice a n c]] w (Ans w (.agg #[.int .i64 (shapeC k xs n), .string (printS k xs n)])) := by
  have HR := Lib.hid h
  have HP := Lib.hid hp
  have hmax := h.2.1
  clear h hp
  by_cases hz : shapeC k xs n = 0
  · have hin := shape_in hz
    obtain ⟨hk, hn1, hn2, hpt⟩ := hin
    have HZ := Lib.hid hz
    have HPT := Lib.hid hpt
    have HK := Lib.hid hk
    have hS : Hid (printS k xs n = strB (printT k xs n)) := if_pos hz
    clear hz hpt hk
    go_enter Tryz.func6, Tryz.ntmps6
    go_wp2_with fail
    refine (ShapeFault_any _ _ _ _ _ _ (HR.out.kept0 (((Kept.refl _ _).alloc _).alloc _))).mono ?_
    rintro e wB ⟨rfl, hk⟩
    rw [HZ.out]
    obtain ⟨⟨b0, b1⟩, r0, r1, f0, f1⟩ := pr_box hk
    have KB := Lib.hid hk
    have RB := Lib.hid (HR.out.kept0 hk.peel.peel)
    have PB := Lib.hid (HP.out.kept hk.peel.peel)
    clear hk
    go_wp2_with fail
    go_loopw [4, 18] (fun v i wr => ∃ j : Nat, i = .int .i64 j ∧ j ≤ n ∧ Hid (OwS wB.heap.size wr v (ptsT xs j)) ∧ Hid (Kept [] wB wr)) (fun _ i _ => n - (intOf i).toNat)
    case atStart => exact ⟨0, rfl, Nat.zero_le _, OwS.nil _ _, Kept.refl _ _⟩
    case round =>
      obtain ⟨j, rfl, hj, hO, hK⟩ := hrel
      by_cases hlt : j < n
      · obtain ⟨g, off, rfl, p0, p1⟩ := rd_pt RB.out j hlt
        have p0 := hK.out.cell p0 (by simp)
        have p1 := hK.out.cell p1 (by simp)
        have hxy := HPT.out j hlt
        have hN := Lib.hid (ptsT_succ xs j)
        generalize xs.getD (j * 2) 0 = x at *
        generalize xs.getD (j * 2 + 1) 0 = y at *
        have hlt' : (j : Int) < n := by omega
        have hcx := Lib.hid (coord_yes (n := x) (decide_eq_true hxy.1))
        have hcy := Lib.hid (coord_yes (n := y) (decide_eq_true hxy.2))
        have z1 : (strB (coordT x)).size ≤ 17 := by rw [strB_size]; exact coordT_len x hxy.1.1 hxy.1.2
        have z2 : (strB (coordT y)).size ≤ 17 := by rw [strB_size]; exact coordT_len y hxy.2.1 hxy.2.2
        have ht := Lib.hid (ptText x y)
        obtain ⟨X, hX⟩ : ∃ X, strB (coordT x) = X := ⟨_, rfl⟩
        obtain ⟨Y, hY⟩ : ∃ X, strB (coordT y) = X := ⟨_, rfl⟩
        rw [hX] at z1 hcx ht
        rw [hY] at z2 hcy ht
        clear hxy hX hY
        go_upto_region 8 with fail
        obtain ⟨E, hE⟩ : ∃ E, E = wr.heap.size := ⟨_, rfl⟩
        obtain ⟨W, hW⟩ : ∃ W, W = wr.alloc (.cells #[.int .i64 x, .int .i64 y] 44) := ⟨_, rfl⟩
        have kW : Kept [] wr W := by rw [hW]; exact (Kept.refl _ _).alloc _
        have c0 : W.cell? ⟨E, 0, none⟩ = some (.int .i64 x) := by rw [hW, hE, World.cell?_alloc_new]; rfl
        have c1 : W.cell? ⟨E, 1, none⟩ = some (.int .i64 y) := by rw [hW, hE, World.cell?_alloc_new]; rfl
        have KW := Lib.hid (hK.out.trans0 kW)
        have OW := Lib.hid (hO.out.kept0 kW)
        have hne : Hid (u4.ownBlock ≠ some E) := by
          intro he
          have := World.ownsRow.lt hO.out E he
          omega
        have PW := Lib.hid (PB.out.kept KW.out)
        rw [← hW, ← hE]
        clear kW hW hE p0 p1 hO hK
        have z3 : ¬ 9223372036854775807 < X.size + 1 := by omega
        have z4 : ¬ 9223372036854775807 < X.size + 1 + Y.size := by omega
        have hjn : j ≤ 12 := by omega
        go_region_held3 (fun w' => Hid (Kept [] wB w') ∧ w'.cell? ⟨E, 0, none⟩ = some (.int .i64 x) ∧ w'.cell? ⟨E, 1, none⟩ = some (.int .i64 y))
          (with_reducible first | assumption | exact mkP2 c0 c1 KW (by with_reducible first | exact Lib.hid (Kept.refl _ _) | exact Lib.hid ((Kept.refl _ _).drew)) | exact mkP4 (by assumption) (by assumption) (by assumption) (by assumption) | exact mkP5 ⟨by assumption, by assumption, by assumption⟩ | exact mkP5 (by assumption))
          (first
            | (go_at_call_of 18 (Value.int IntKind.i64 x); go_split_ands; refine (CoordText_any x _ (PB.out.kept (Hid.out (by assumption)))).mono ?_; rw [hcx.out.1, hcx.out.2]; rintro e v1 ⟨rfl, hj1⟩)
            | (go_at_call_of 18 (Value.int IntKind.i64 y); go_split_ands; refine (CoordText_any y _ (PB.out.kept (Hid.out (by assumption)))).mono ?_; rw [hcy.out.1, hcy.out.2]; rintro e v2 ⟨rfl, hj2⟩)
            | (refine step_appStr (by rfl) _ _ (by rfl) wB.heap.size u4 (ptsT xs j) (by rfl) ((((OW.out.kept0 (Kept.refl [] W).drew).kept0 hj1).kept0 hj2).alloc _) v2.heap.size (pointT x y) (by rfl) (by rw [World.cell?_alloc_new]; show some (Value.string (X ++ ⟨#[32]⟩ ++ Y)) = _; rw [ht.out]; rfl) (by rw [ptsT_len]; omega) (by have h1 := KW.out.size; have h2 := hj1.size; have h3 := hj2.size; simp at h2 ⊢; omega) ?_; intro v9 w9 hO9 hgr; have hkeep := app_keep (wB := wB) (Lib.hid (((((KW.out.trans0 (Kept.refl [] W).drew).trans0 hj1).trans0 hj2).alloc _))) ((((OW.out.kept0 (Kept.refl [] W).drew).kept0 hj1).kept0 hj2).alloc _) (Nat.le_refl _) hgr (((Kept.refl [] v2).alloc _).cell (hj2.cell (hj1.cell (p := ⟨E, 0, none⟩) c0 (by simp)) (by simp)) (by simp)) (((Kept.refl [] v2).alloc _).cell (hj2.cell (hj1.cell (p := ⟨E, 1, none⟩) c1 (by simp)) (by simp)) (by simp)) hne.out))
        have hK9 := hkeep.1
        rw [← hN.out] at hO9
        have HO9 := Lib.hid hO9
        clear hO9 hgr hkeep hj1 hj2 c0 c1
        go_wp2_with fail
        go_roundw
        case rel => exact ⟨j + 1, by go_num, by omega, HO9.out, hK9.out⟩
        case measure => simp [intOf] <;> omega
      · obtain rfl : j = n := by omega
        have b0 := hK.out.cell b0 (by simp)
        have r0 := hK.out.cell r0 (by simp)
        have r1 := hK.out.cell r1 (by simp)
        have hjl := joinC_len 35 (ptsT xs j) (ptsT_in HPT.out)
        rw [ptsT_len] at hjl
        have hjl2 : (joinC (ptsT xs j)).length ≤ 432 := by
          refine Nat.le_trans hjl ?_
          have : j * 36 ≤ 12 * 36 := Nat.mul_le_mul_right _ hn2
          omega
        obtain ⟨A, hA⟩ : ∃ A, aroundN k = A := ⟨_, rfl⟩
        have hA2 : A ≤ 2 := by rw [← hA]; unfold aroundN; split <;> omega
        have hnl : (nameT k).length ≤ 10 := by unfold nameT; split; simp; split; simp; split; simp; split <;> simp
        have hprint : strB (nameT k) ++ strB (List.replicate A 40) ++ strB (joinC (ptsT xs j)) ++ strB (List.replicate A 41) = strB (printT k xs j) := by
          rw [strB_append, strB_append, strB_append, ← hA]; rfl
        have z1 : (strB (nameT k)).size ≤ 10 := by rw [strB_size]; exact hnl
        have z2 : (strB (List.replicate A (40 : UInt8))).size ≤ 2 := by rw [strB_size]; simp; omega
        have z3 : (strB (joinC (ptsT xs j))).size ≤ 432 := by rw [strB_size]; exact hjl2
        have z4 : (strB (List.replicate A (41 : UInt8))).size ≤ 2 := by rw [strB_size]; simp; omega
        obtain ⟨s1, h1⟩ : ∃ s, strB (nameT k) = s := ⟨_, rfl⟩
        obtain ⟨s2, h2⟩ : ∃ s, strB (List.replicate A (40 : UInt8)) = s := ⟨_, rfl⟩
        obtain ⟨s3, h3⟩ : ∃ s, strB (joinC (ptsT xs j)) = s := ⟨_, rfl⟩
        obtain ⟨s4, h4⟩ : ∃ s, strB (List.replicate A (41 : UInt8)) = s := ⟨_, rfl⟩
        rw [h1, h2, h3, h4] at hprint
        rw [h1] at z1
        rw [h2] at z2
        rw [h3] at z3
        rw [h4] at z4
        have HA := Lib.hid hA
        have H1 := Lib.hid h1
        have H2 := Lib.hid h2
        have H3 := Lib.hid h3
        have H4 := Lib.hid h4
        have HPR := Lib.hid hprint
        clear hA h1 h2 h3 h4 hprint hjl hnl
        go_wp2_with fail
        refine (parenthesesOf_any _ _).mono ?_
        rintro e w2 ⟨rfl, k2⟩
        rw [HA.out]
        have b0 := k2.cell b0 (by simp)
        have r0 := k2.cell r0 (by simp)
        have r1 := k2.cell r1 (by simp)
        have O2 := Lib.hid (hO.out.kept0 k2)
        have K2 := Lib.hid (hK.out.trans0 k2)
        clear k2 hO hK
        go_wp2_with fail
        refine (nameOf_any _ _ HK.out).mono ?_
        rintro e w3 ⟨rfl, k3⟩
        rw [H1.out]
        have r0 := k3.cell r0 (by simp)
        have r1 := k3.cell r1 (by simp)
        have O3 := Lib.hid (O2.out.kept0 k3)
        have K3 := Lib.hid (K2.out.trans0 k3)
        clear k3 O2 K2 b0
        go_wp2_with fail
        refine (Repeat_same 40 A _ (by omega)).mono ?_
        rintro e w4 ⟨rfl, k4⟩
        rw [H2.out]
        have r0 := k4.cell r0 (by simp)
        have r1 := k4.cell r1 (by simp)
        have O4 := Lib.hid (O3.out.kept0 k4)
        have K4 := Lib.hid (K3.out.trans0 k4)
        clear k4 O3 K3
        go_wp2_with fail
        refine (Join_commas _ _ _ _ O4.out (by rw [ptsT_len]; omega) (by omega) (by rw [ptsT_len]; omega)).mono ?_
        rintro e w5 ⟨rfl, k5⟩
        rw [H3.out]
        have r0 := k5.cell r0 (by simp)
        have r1 := k5.cell r1 (by simp)
        have K5 := Lib.hid (K4.out.trans0 k5)
        clear k5 O4 K4
        go_wp2_with fail
        refine (Repeat_same 41 A _ (by omega)).mono ?_
        rintro e w6 ⟨rfl, k6⟩
        rw [H4.out]
        have r0 := k6.cell r0 (by simp)
        have r1 := k6.cell r1 (by simp)
        have K6 := Lib.hid (K5.out.trans0 k6)
        have KF := Lib.hid (KB.out.trans0 K6.out)
        obtain ⟨_, _, _, f0, f1⟩ := pr_box KF.out
        clear k6 K5 K6
        go_wp2_with fail
        obtain ⟨_, t0, t1⟩ := cells2 (.int .i64 0) (.string (s1 ++ s2 ++ s3 ++ s4)) r0 r1
        refine bodyPost_ret (v := .agg #[.int .i64 0, .string (s1 ++ s2 ++ s3 ++ s4)]) (by simp [results, Tryz.results6, go_sem, t0, t1]) rfl ⟨by rw [HZ.out, hS.out, HPR.out], ?_⟩
        exact (KF.out.peel.peel.setCell _ _ (by simp)).setCell _ _ (by simp)
  · have hS : Hid (printS k xs n = ⟨#[]⟩) := if_neg hz
    obtain ⟨f, hf⟩ : ∃ f, shapeC k xs n = f := ⟨_, rfl⟩
    have hne : (f == 0) = false := by rw [beq_eq_false_iff_ne, ← hf]; exact hz
    have HF := Lib.hid hf
    clear hf hz
    go_enter Tryz.func6, Tryz.ntmps6
    go_wp2_with fail
    refine (ShapeFault_any _ _ _ _ _ _ (HR.out.kept0 (((Kept.refl _ _).alloc _).alloc _))).mono ?_
    rintro e wB ⟨rfl, hk⟩
    rw [HF.out]
    obtain ⟨⟨b0, b1⟩, r0, r1, f0, f1⟩ := pr_box hk
    have KB := Lib.hid hk
    clear hk
    go_wp2_with fail
    obtain ⟨_, t0, t1⟩ := cells2 (.int .i64 f) (.string ⟨#[]⟩) r0 r1
    refine bodyPost_ret (v := .agg #[.int .i64 f, .string ⟨#[]⟩]) (by simp [results, Tryz.results6, go_sem, t0, t1]) rfl ⟨by rw [HF.out, hS.out], ?_⟩
    exact (KB.out.peel.peel.setCell _ _ (by simp)).setCell _ _ (by simp)

end Go.Proofs.YtlhiahhpmjiioadGreatDoor
