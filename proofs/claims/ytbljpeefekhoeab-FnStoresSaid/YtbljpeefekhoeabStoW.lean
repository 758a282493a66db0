/-
  Contracts of the model's l9Without and DropShape. Condition: the slice reads as named shapes; l9Without: they have no fault.
-/
import Derived.Test.YtbljpeefekhoeabStoD
import Derived.Test.YtbljpeefekhoeabRange
import Derived.Deep.RegionHeld3
import Derived.Deep.DrawnRows
import Derived.Deep.DeepCutAuto
import Derived.Test.YtbljpeefekhoeabStoH
namespace Go.Proofs.Ytbljpeefekhoeab
open Go.RowKit

/-- How many of the first k are left. -/
def preN (L : List Sh) (x : List UInt8) (k : Nat) : Nat := (dropL (L.take k) x).length
theorem drop_split (L : List Sh) (x : List UInt8) {k : Nat} (hk : k < L.length) : dropL L x = dropL (L.take k) x ++ ((if (L.getD k sh0).nm ≠ x then [L.getD k sh0] else []) ++ dropL (L.drop (k + 1)) x) := by
  have h1 : L = L.take k ++ (L.getD k sh0 :: L.drop (k + 1)) := by
    have h2 : L.getD k sh0 = L[k] := by simp [List.getD_eq_getElem?_getD, hk]
    rw [h2, ← List.drop_eq_getElem_cons hk, List.take_append_drop]
  unfold dropL
  conv => lhs; rw [h1]
  rw [List.filter_append, List.filter_cons]
  by_cases he : (L.getD k sh0).nm ≠ x
  · rw [if_pos (by simpa using he), if_pos he]; rfl
  · rw [if_neg (by simpa using he), if_neg he]; rfl
theorem pre_take (L : List Sh) (x : List UInt8) {k : Nat} (hk : k < L.length) : dropL (L.take (k + 1)) x = dropL (L.take k) x ++ (if (L.getD k sh0).nm ≠ x then [L.getD k sh0] else []) := by
  have h2 : L.getD k sh0 = L[k] := by simp [List.getD_eq_getElem?_getD, hk]
  unfold dropL
  rw [List.take_succ_eq_append_getElem hk, List.filter_append, h2]
  by_cases he : L[k].nm ≠ x
  · rw [if_pos he]; simp [he]
  · rw [if_neg he]; simp at he; simp [he]
theorem pre_yes {L : List Sh} {x : List UInt8} {k : Nat} (hk : k < L.length) (he : (L.getD k sh0).nm ≠ x) : preN L x (k + 1) = preN L x k + 1 ∧ (dropL L x).getD (preN L x k) sh0 = L.getD k sh0 ∧ preN L x k < (dropL L x).length := by
  have h1 := drop_split L x hk
  rw [if_pos he] at h1
  refine ⟨?_, ?_, ?_⟩
  · unfold preN; rw [pre_take L x hk, if_pos he]; simp
  · rw [h1]; unfold preN
    simp [List.getD_eq_getElem?_getD]
  · rw [h1]; unfold preN; simp
theorem pre_no {L : List Sh} {x : List UInt8} {k : Nat} (hk : k < L.length) (he : (L.getD k sh0).nm = x) : preN L x (k + 1) = preN L x k := by
  unfold preN; rw [pre_take L x hk, if_neg (by simpa using he)]; simp
theorem pre_end (L : List Sh) (x : List UInt8) : preN L x L.length = (dropL L x).length := by unfold preN; rw [List.take_length]
theorem pre_le (L : List Sh) (x : List UInt8) (k : Nat) : preN L x k ≤ k := by
  unfold preN
  have := drop_len (L.take k) x
  rw [List.length_take] at this
  omega

theorem stV_of2 {B : Nat} {w' : World} {v : Value} {n : Nat} {M : List Sh} {gs cz : Nat → Nat} (hl : M.length = n) (h : OwN B w' v n M gs cz) (h0 : n = 0 → v = .slice none 0 0) (hA : Apt B w' gs n M) (h10 : n ≤ 11)
    (hx : ∀ i, i < n → (M.getD i sh0).xs.length = (M.getD i sh0).n * 2 ∧ (1 ≤ (M.getD i sh0).n ∧ (M.getD i sh0).n ≤ 12) ∧ (M.getD i sh0).nm.length ≤ 8) : StV B w' v n M := by
  refine ⟨hl, ?_⟩
  by_cases hn : n = 0
  · exact .inl ⟨hn, h0 hn⟩
  · obtain ⟨g, c, rfl, hg, hr⟩ := h.row (by omega)
    refine .inr ⟨g, gs, cz, c, rfl, ⟨hl, by omega, hr, fun i hi => ?_⟩, hg, fun i hi => (hA i hi).2.1⟩
    obtain ⟨a1, a2, a3⟩ := hA i hi
    obtain ⟨b2, b3, b4⟩ := hx i hi
    refine ⟨a1, b2, by omega, by omega, fun e => ?_, a3⟩
    exact h.ne (by omega) a1 (by omega) (by rw [e]; rfl)
/-- One more named shape, as a step of a region that draws its order. -/
theorem step_appN {w : World} {ops : Array Oper} {o : Oper} {a : Act} {K : Act → World → Prop} {Q : Exit → Act → World → Prop} {E : Prop} (hgd : o.guard = none) (s x : Operand)
    (ho : o.op = .call { callee := .builtin .append, args := #[s, x], argTypes := #[24, 24] })
    (base : Nat) (v : Value) (k : Nat) (xs : List Value) (hs : a.eval s = v) (hown : w.ownsRow base 49 3 v k xs)
    (g0 : Nat) (u0 u1 u2 : Value) (hx : a.eval x = .slice (some ⟨g0, 0, none⟩) 1 1) (hc : w.cell? ⟨g0, 0, none⟩ = some u0) (hd : w.cell? ⟨g0, 1, none⟩ = some u1) (he : w.cell? ⟨g0, 2, none⟩ = some u2)
    (z0 : u0.oneCell' = true) (z1 : u1.oneCell' = true) (z2 : u2.oneCell' = true) (hlen : k ≤ 3000000) (hbase : base ≤ w.heap.size)
    (h : ∀ v' w', w'.ownsRow base 49 3 v' (k + 1) (xs ++ [u0, u1, u2]) → w.grownBy w' v.ownBlock → K (a.put o.dst v') w') :
    if Region.wanted o (yielded ops a.tmps) = true then Oper.wp Try.prog o a w K Q else E := by
  have hw : Region.wanted o (yielded ops a.tmps) = true := by simp [Region.wanted, hgd]
  rw [if_pos hw]
  obtain ⟨i0, hi, hz0, hz1, hz2⟩ := info_parts Try.infoNm
  refine wp_append_own_wide w s x 24 ho base 49 i0 (.agg #[.string ⟨#[]⟩, .int .i64 0, .slice none 0 0]) 3 48 Try.underlying24 hi hz0 hz1 hz2 rfl (by decide) v k xs hs hown ⟨g0, 0, none⟩ 1 1 [u0, u1, u2] hx rfl ?_ ?_ ?_ ?_ hbase ?_
  · intro j z hj
    have hj0 : j < 3 := by
      have := (List.getElem?_eq_some_iff.1 hj).1
      simpa using this
    rw [Addr.add_lit]
    rcases (by omega : j = 0 ∨ j = 1 ∨ j = 2) with rfl | rfl | rfl
    · simp at hj; subst hj; exact hc
    · simp at hj; subst hj; exact hd
    · simp at hj; subst hj; exact he
  · intro z hz
    simp at hz
    rcases hz with rfl | rfl | rfl <;> assumption
  · unfold maxLen; omega
  · omega
  · intro v' w' h1 h2 _
    exact h v' w' h1 h2

/-- The cells that a round reads. -/
def RdW4 (S g off k : Nat) (s : Sh) (p : Option Addr) (c' n c : Nat) (w : World) : Prop :=
  w.cell? ⟨S, 0, none⟩ = some (.slice (some ⟨g, off, none⟩) n c) ∧ w.cell? ⟨g, off + k * 3, none⟩ = some (.string (strB s.nm)) ∧ w.cell? ⟨g, off + k * 3 + 1, none⟩ = some (.int .i64 s.k) ∧ w.cell? ⟨g, off + k * 3 + 2, none⟩ = some (.slice p s.n c')
theorem RdW4.kept {L : List Nat} {S g off k : Nat} {s : Sh} {p : Option Addr} {c' n c : Nat} {w w' : World} (h : RdW4 S g off k s p c' n c w) (kk : Kept L w w') (h1 : S ∉ L) (h2 : g ∉ L) : RdW4 S g off k s p c' n c w' :=
  ⟨kk.cell h.1 h1, kk.cell h.2.1 h2, kk.cell h.2.2.1 h2, kk.cell h.2.2.2 h2⟩

set_option maxHeartbeats 1000000 in
theorem l9Without_any (S : Nat) (a : Option Addr) (n c : Nat) (L : List Sh) (x : List UInt8) (w : World) (h : RdSt w a n L) (hs : w.cell? ⟨S, 0, none⟩ = some (.slice a n c)) (hn : n ≤ 10) (hv : ∀ i, i < n → (1 ≤ (L.getD i sh0).n ∧ (L.getD i sh0).n ≤ 12) ∧ (L.getD i sh0).nm.length ≤ 8) :
    Calls Try.prog 38 #[.pointer (some ⟨S, 0, none⟩), .string (strB x)] w (NewV w (dropL L x)) := by
  have HR := Lib.hid h
  have hS : S < w.heap.size := World.block_lt_of_cell? w _ hs
  have B0 := Lib.hid hs
  have HV := Lib.hid hv
  clear h hs hv
  go_enter Try.func38, Try.ntmps38
  obtain ⟨W0, hW0⟩ : ∃ W0, (w.alloc (.cells #[.slice none 0 0] 26)).alloc (.cells #[.slice none 0 0] 26) = W0 := ⟨_, rfl⟩
  have HW0 := Lib.hid hW0
  have K0 : Hid (Kept [] w W0) := by show Kept _ _ _; rw [← hW0]; exact ((Kept.refl [] w).alloc _).alloc _
  have z0 : W0.heap.size = w.heap.size + 1 + 1 := by rw [← hW0]; simp
  have q0 := (Kept.refl [] ((w.alloc (.cells #[.slice none 0 0] 26)).alloc (.cells #[.slice none 0 0] 26))).peel.top rfl (by simp) 0 (v := .slice none 0 0) rfl
  have q1 := (Kept.refl [] ((w.alloc (.cells #[.slice none 0 0] 26)).alloc (.cells #[.slice none 0 0] 26))).top (g := w.heap.size + 1) (by simp) (by simp) 0 (v := .slice none 0 0) rfl
  rw [hW0] at q0 q1
  have R0 := Lib.hid (And.intro q0.1 q0.2.1)
  have R1 := Lib.hid (And.intro q1.1 q1.2.1)
  clear q0 q1 hW0
  have HZ0 := Lib.hid z0
  clear z0
  go_wp2_with fail
  rw [HW0.out]
  go_loopw [6] (fun i wr => ∃ (k : Nat) (v : Value) (gs cz : Nat → Nat), k ≤ n ∧ i = .int .i64 k ∧ Hid (wr.cell? ⟨w.heap.size + 1, 0, none⟩ = some v ∧ wr.frozen? ⟨w.heap.size + 1, 0, none⟩ = false) ∧ Hid (OwN W0.heap.size wr v (preN L x k) (dropL L x) gs cz) ∧ Hid (preN L x k = 0 → v = .slice none 0 0) ∧ Hid (Apt W0.heap.size wr gs (preN L x k) (dropL L x)) ∧ Hid (Kept [w.heap.size + 1] W0 wr)) (fun i _ => n - (intOf i).toNat)
  case atStart => exact ⟨0, _, fun _ => 0, fun _ => 0, Nat.zero_le _, rfl, R1.out, ⟨rfl, Or.inl ⟨rfl, rfl⟩⟩, fun _ => rfl, fun j hj => by simp [preN, dropL] at hj, Kept.refl _ _⟩
  case round =>
    obtain ⟨k, v, gs, cz, hk, rfl, hR, hO, h0, hA, hK⟩ := hrel
    have hSS := World.block_lt_of_cell? w _ B0.out
    have kW : Kept [w.heap.size + 1] w wr := (K0.out.mono (M := [w.heap.size + 1]) (by simp)).trans hK.out (fun y hy _ => hy)
    have b0 := kW.cell B0.out (by simp; omega)
    by_cases hlt : k < n
    · obtain ⟨g, off, p, c', rfl, hc0, hc1, hc2, hrd, _⟩ := HR.out.2.2 k hlt
      have hgw : g < w.heap.size := World.block_lt_of_cell? w _ hc0
      have d0 := kW.cell hc0 (by simp; omega)
      have d1 := kW.cell hc1 (by simp; omega)
      have d2 := kW.cell hc2 (by simp; omega)
      have hv := HV.out k hlt
      have HRD : Hid (Rd wr p ((L.getD k sh0).n * 2) (L.getD k sh0).xs) := by
        refine hrd.kept kW (fun hpos y hy => ?_)
        obtain ⟨g9, off9, e9, c9⟩ := hrd.2.2 0 hpos
        rw [hy] at e9
        have e8 : y = ⟨g9, off9, none⟩ := by simpa using e9
        have e7 : g9 < w.heap.size := World.block_lt_of_cell? w _ c9
        rw [e8]
        simp; omega
      obtain ⟨s, hs⟩ : ∃ s, L.getD k sh0 = s := ⟨_, rfl⟩
      rw [hs] at d0 d1 d2 HRD hv
      have HS := Lib.hid hs
      have HVV := Lib.hid hv
      have KW := Lib.hid kW
      clear hc0 hc1 hc2 hrd hs hv kW
      by_cases he : s.nm = x
      · have hq : ((strB s.nm).toList == (strB x).toList) = true := by rw [same_str]; exact decide_eq_true he
        have hp := pre_no (L := L) (x := x) (by rw [HR.out.1]; exact hlt) (by rw [HS.out]; exact he)
        rw [← hp] at hO h0 hA
        clear he hp
        go_wp2_with fail
        go_roundw
        case rel => exact ⟨k + 1, v, gs, cz, by omega, by go_num, hR, hO, h0, hA, hK⟩
        case measure => simp [intOf]; omega
      · have hq : ((strB s.nm).toList == (strB x).toList) = false := by rw [same_str]; exact decide_eq_false he
        have HP := Lib.hid (pre_yes (L := L) (x := x) (by rw [HR.out.1]; exact hlt) (by rw [HS.out]; exact he))
        clear he
        go_wp2_with fail
        have hHeld : RdW4 S g off k s p c' n c wr.drew := ⟨b0, d0, d1, d2⟩
        refine wp_region_held_drew (S := RdW4 S g off k s p c' n c) (by kernel_rfl) hHeld (fun hHeld => ?_)
        refine take_d (i := 0) (d := 27) (v := .pointer (some ⟨w.heap.size + 1, 0, none⟩)) rfl rfl (by kernel_rfl) (by kernel_rfl) (by kernel_rfl) (fun _ _ _ h => h) (by rfl) ?_ hHeld ?_
        · intro w9 hS9; obtain ⟨t0, t1, t2, t3⟩ := hS9; go_simp
        simp only [List.setIfInBounds_toArray, List.set_cons_zero, List.set_cons_succ]
        refine take_d (i := 2) (d := 29) (v := .pointer (some ⟨S, 0, none⟩)) rfl rfl (by kernel_rfl) (by kernel_rfl) (by kernel_rfl) (fun _ _ _ h => h) (by rfl) ?_ hHeld ?_
        · intro w9 hS9; obtain ⟨t0, t1, t2, t3⟩ := hS9; go_simp
        simp only [List.setIfInBounds_toArray, List.set_cons_zero, List.set_cons_succ]
        refine take_d (i := 3) (d := 30) (v := .pointer (some ⟨S, 0, none⟩)) rfl rfl (by kernel_rfl) (by kernel_rfl) (by kernel_rfl) (fun _ _ _ h => h) (by rfl) ?_ hHeld ?_
        · intro w9 hS9; obtain ⟨t0, t1, t2, t3⟩ := hS9; go_simp
        simp only [List.setIfInBounds_toArray, List.set_cons_zero, List.set_cons_succ]
        refine take_d (i := 4) (d := 31) (v := .pointer (some ⟨S, 0, none⟩)) rfl rfl (by kernel_rfl) (by kernel_rfl) (by kernel_rfl) (fun _ _ _ h => h) (by rfl) ?_ hHeld ?_
        · intro w9 hS9; obtain ⟨t0, t1, t2, t3⟩ := hS9; go_simp
        simp only [List.setIfInBounds_toArray, List.set_cons_zero, List.set_cons_succ]
        refine take_d (i := 5) (d := 32) (v := .slice (some ⟨g, off, none⟩) n c) rfl rfl (by kernel_rfl) (by kernel_rfl) (by kernel_rfl) (fun _ _ _ h => h) (by rfl) ?_ hHeld ?_
        · intro w9 hS9; obtain ⟨t0, t1, t2, t3⟩ := hS9; go_simp
        simp only [List.setIfInBounds_toArray, List.set_cons_zero, List.set_cons_succ]
        refine take_d (i := 6) (d := 33) (v := .int .i64 (k : Int)) rfl rfl (by kernel_rfl) (by kernel_rfl) (by kernel_rfl) (fun _ _ _ h => h) (by rfl) ?_ hHeld ?_
        · intro w9 hS9; obtain ⟨t0, t1, t2, t3⟩ := hS9; go_simp
        simp only [List.setIfInBounds_toArray, List.set_cons_zero, List.set_cons_succ]
        refine take_d (i := 7) (d := 34) (v := .pointer (some ⟨g, off + k * 3, none⟩)) rfl rfl (by kernel_rfl) (by kernel_rfl) (by kernel_rfl) (fun _ _ _ h => h) (by rfl) ?_ hHeld ?_
        · intro w9 hS9; obtain ⟨t0, t1, t2, t3⟩ := hS9; go_simp
        simp only [List.setIfInBounds_toArray, List.set_cons_zero, List.set_cons_succ]
        refine take_d (i := 8) (d := 35) (v := .pointer (some ⟨g, off + k * 3, none⟩)) rfl rfl (by kernel_rfl) (by kernel_rfl) (by kernel_rfl) (fun _ _ _ h => h) (by rfl) ?_ hHeld ?_
        · intro w9 hS9; obtain ⟨t0, t1, t2, t3⟩ := hS9; go_simp
        simp only [List.setIfInBounds_toArray, List.set_cons_zero, List.set_cons_succ]
        refine take_d (i := 9) (d := 36) (v := .string (strB s.nm)) rfl rfl (by kernel_rfl) (by kernel_rfl) (by kernel_rfl) (fun _ _ _ h => h) (by rfl) ?_ hHeld ?_
        · intro w9 hS9; obtain ⟨t0, t1, t2, t3⟩ := hS9; go_simp
        simp only [List.setIfInBounds_toArray, List.set_cons_zero, List.set_cons_succ]
        refine take_d (i := 10) (d := 37) (v := .pointer (some ⟨S, 0, none⟩)) rfl rfl (by kernel_rfl) (by kernel_rfl) (by kernel_rfl) (fun _ _ _ h => h) (by rfl) ?_ hHeld ?_
        · intro w9 hS9; obtain ⟨t0, t1, t2, t3⟩ := hS9; go_simp
        simp only [List.setIfInBounds_toArray, List.set_cons_zero, List.set_cons_succ]
        refine take_d (i := 11) (d := 38) (v := .pointer (some ⟨S, 0, none⟩)) rfl rfl (by kernel_rfl) (by kernel_rfl) (by kernel_rfl) (fun _ _ _ h => h) (by rfl) ?_ hHeld ?_
        · intro w9 hS9; obtain ⟨t0, t1, t2, t3⟩ := hS9; go_simp
        simp only [List.setIfInBounds_toArray, List.set_cons_zero, List.set_cons_succ]
        refine take_d (i := 12) (d := 39) (v := .pointer (some ⟨S, 0, none⟩)) rfl rfl (by kernel_rfl) (by kernel_rfl) (by kernel_rfl) (fun _ _ _ h => h) (by rfl) ?_ hHeld ?_
        · intro w9 hS9; obtain ⟨t0, t1, t2, t3⟩ := hS9; go_simp
        simp only [List.setIfInBounds_toArray, List.set_cons_zero, List.set_cons_succ]
        refine take_d (i := 13) (d := 40) (v := .slice (some ⟨g, off, none⟩) n c) rfl rfl (by kernel_rfl) (by kernel_rfl) (by kernel_rfl) (fun _ _ _ h => h) (by rfl) ?_ hHeld ?_
        · intro w9 hS9; obtain ⟨t0, t1, t2, t3⟩ := hS9; go_simp
        simp only [List.setIfInBounds_toArray, List.set_cons_zero, List.set_cons_succ]
        refine take_d (i := 14) (d := 41) (v := .int .i64 (k : Int)) rfl rfl (by kernel_rfl) (by kernel_rfl) (by kernel_rfl) (fun _ _ _ h => h) (by rfl) ?_ hHeld ?_
        · intro w9 hS9; obtain ⟨t0, t1, t2, t3⟩ := hS9; go_simp
        simp only [List.setIfInBounds_toArray, List.set_cons_zero, List.set_cons_succ]
        refine take_d (i := 15) (d := 42) (v := .pointer (some ⟨g, off + k * 3, none⟩)) rfl rfl (by kernel_rfl) (by kernel_rfl) (by kernel_rfl) (fun _ _ _ h => h) (by rfl) ?_ hHeld ?_
        · intro w9 hS9; obtain ⟨t0, t1, t2, t3⟩ := hS9; go_simp
        simp only [List.setIfInBounds_toArray, List.set_cons_zero, List.set_cons_succ]
        refine take_d (i := 16) (d := 43) (v := .pointer (some ⟨g, off + k * 3 + 1, none⟩)) rfl rfl (by kernel_rfl) (by kernel_rfl) (by kernel_rfl) (fun _ _ _ h => h) (by rfl) ?_ hHeld ?_
        · intro w9 hS9; obtain ⟨t0, t1, t2, t3⟩ := hS9; go_simp
        simp only [List.setIfInBounds_toArray, List.set_cons_zero, List.set_cons_succ]
        refine take_d (i := 17) (d := 44) (v := .agg #[.int .i64 s.k, .slice p s.n c']) rfl rfl (by kernel_rfl) (by kernel_rfl) (by kernel_rfl) (fun _ _ _ h => h) (by rfl) ?_ hHeld ?_
        · intro w9 hS9; obtain ⟨t0, t1, t2, t3⟩ := hS9; go_simp
        simp only [List.setIfInBounds_toArray, List.set_cons_zero, List.set_cons_succ]
        have hpk : preN L x k ≤ 3000000 := by have := pre_le L x k; omega
        have hK0 := Lib.hid hK.out.size
        refine wpAnyH_ready (rs := [1, 18]) (by kernel_rfl) (by simp) ?_
        refine AllReadyH.cons rfl (fun K hK => ?_) (AllReadyH.cons rfl (fun K hK => ?_) AllReadyH.nil)
        focus
          have r0 := (Kept.refl [] wr).drew.cell hR.out.1 (by simp)
          go_simp
          refine hK.out _ _ hHeld (fun hHeld => ?_)
          clear hK r0
          try simp only [Act.put, List.setIfInBounds_toArray, List.set_cons_zero, List.set_cons_succ]
          refine wpAnyH_ready (rs := [18]) (by kernel_rfl) (by simp) ?_
          refine AllReadyH.cons rfl (fun K hK => ?_) AllReadyH.nil
          go_simp
          refine (l8Copy_any _ _ _ _ _ _ (HRD.out.kept0 (Kept.refl [] wr).drew) (by have := HVV.out.1.1; omega) (by have := HVV.out.1.2; omega)).mono ?_
          rintro e w3 ⟨q, c3, rfl, hq, hb, hk3⟩
          refine hK.out _ _ (hHeld.kept hk3 (by simp) (by simp)) (fun hHeld => ?_)
          clear hK
          try simp only [Act.put, List.setIfInBounds_toArray, List.set_cons_zero, List.set_cons_succ]
          refine take_d (i := 19) (d := 46) (v := .agg #[.string (strB s.nm), .int .i64 s.k, .slice (some ⟨q, 0, none⟩) s.n c3]) rfl rfl (by kernel_rfl) (by kernel_rfl) (by kernel_rfl) (fun _ _ _ h => h) (by rfl) ?_ hHeld ?_
          · intro w9 hS9; go_simp
          simp only [List.setIfInBounds_toArray, List.set_cons_zero, List.set_cons_succ]
          refine wpAnyH_ready (rs := [20]) (by kernel_rfl) (by simp) ?_
          refine AllReadyH.cons rfl (fun K hK => ?_) AllReadyH.nil
          go_simp
          refine hK.out _ _ (hHeld.kept ((Kept.refl [] w3).alloc _) (by simp) (by simp)) (fun hHeld => ?_)
          clear hK
          try simp only [Act.put, List.setIfInBounds_toArray, List.set_cons_zero, List.set_cons_succ]
          refine wpAnyH_ready (rs := [21]) (by kernel_rfl) (by simp) ?_
          refine AllReadyH.cons rfl (fun K hK => ?_) AllReadyH.nil
          have hO4 := OwN.kept0 hO.out (((Kept.refl [] wr).drew.trans0 hk3).alloc (.cells #[.string (strB s.nm), .int .i64 s.k, .slice (some ⟨q, 0, none⟩) s.n c3] 49))
          have nn := boxN (Kept.refl [] (w3.alloc (.cells #[.string (strB s.nm), .int .i64 s.k, .slice (some ⟨q, 0, none⟩) s.n c3] 49)))
          refine step_appN (by rfl) _ _ (by rfl) W0.heap.size v (preN L x k) _ (by rfl) hO4 w3.heap.size _ _ _ (by rfl) nn.1 nn.2.1 nn.2.2 rfl rfl rfl hpk (by have h1 := hK0.out; have h2 := hk3.size; simp at h2 ⊢; omega) ?_
          intro v9 w9 hO9 hgr
          have hkg : Kept v.ownBlock.toList (w3.alloc (.cells #[.string (strB s.nm), .int .i64 s.k, .slice (some ⟨q, 0, none⟩) s.n c3] 49)) w9 := (Kept.refl _ _).grown hgr (fun j hj _ => by rw [hj]; simp)
          have hlo : ∀ y, y < W0.heap.size → y ∉ v.ownBlock.toList := fun y hy hm => by have h5 := (World.ownsRow.lt hO4 y (show v.ownBlock = some y by simpa using hm)).1; omega
          refine hK.out _ _ (hHeld.kept hkg (hlo _ (by have := HZ0.out; omega)) (hlo _ (by have := HZ0.out; omega))) (fun hHeld => ?_)
          clear hK
          try simp only [Act.put, List.setIfInBounds_toArray]
          have hN9 := OwN.step (M := dropL L x) (gs := gs) (cz := cz) (q := q) (c := c3) (k := preN L x k) (by rw [HP.out.2.1, HS.out]; exact hO9)
          obtain ⟨g9, c9, rfl, hg9, _⟩ := hN9.row (by omega)
          have r3 := ((Kept.refl [] wr).drew.trans0 hk3).cell hR.out.1 (by simp)
          have f3 := ((Kept.refl [] wr).drew.trans0 hk3).freeS hR.out.1 hR.out.2 (by simp)
          have r9 := hkg.cell (alloc_cell r3) (hlo _ (by have := HZ0.out; show w.heap.size + 1 < _; omega))
          have f9 := hkg.freeS (alloc_cell r3) (((Kept.refl [] w3).alloc _).freeS r3 f3 (by simp)) (hlo _ (by have := HZ0.out; show w.heap.size + 1 < _; omega))
          refine wpAnyH_ready (rs := [22]) (by kernel_rfl) (by simp) ?_
          refine AllReadyH.cons rfl (fun K hK => ?_) AllReadyH.nil
          go_simp
          refine hK.out _ _ hHeld (fun hHeld => ?_)
          clear hK
          try simp only [Act.put, List.setIfInBounds_toArray, List.set_cons_zero, List.set_cons_succ]
          refine wpAnyH_ready (rs := [23]) (by kernel_rfl) (by simp) ?_
          refine AllReadyH.cons rfl (fun K hK => ?_) AllReadyH.nil
          go_simp
          refine hK.out _ _ (hHeld.kept ((Kept.refl [w.heap.size + 1] w9).setCell _ _ (by simp)) (by simp; omega) (by simp; omega)) (fun hHeld => ?_)
          clear hK
          refine wpAnyH_done (by kernel_rfl) ?_ _
          try simp only [Act.put, List.setIfInBounds_toArray, List.set_cons_zero, List.set_cons_succ]
        rotate_left 1
        focus
          go_simp
          refine (l8Copy_any _ _ _ _ _ _ (HRD.out.kept0 (Kept.refl [] wr).drew) (by have := HVV.out.1.1; omega) (by have := HVV.out.1.2; omega)).mono ?_
          rintro e w3 ⟨q, c3, rfl, hq, hb, hk3⟩
          refine hK.out _ _ (hHeld.kept hk3 (by simp) (by simp)) (fun hHeld => ?_)
          clear hK
          try simp only [Act.put, List.setIfInBounds_toArray, List.set_cons_zero, List.set_cons_succ]
          refine take_d (i := 19) (d := 46) (v := .agg #[.string (strB s.nm), .int .i64 s.k, .slice (some ⟨q, 0, none⟩) s.n c3]) rfl rfl (by kernel_rfl) (by kernel_rfl) (by kernel_rfl) (fun _ _ _ h => h) (by rfl) ?_ hHeld ?_
          · intro w9 hS9; go_simp
          simp only [List.setIfInBounds_toArray, List.set_cons_zero, List.set_cons_succ]
          refine wpAnyH_ready (rs := [1, 20]) (by kernel_rfl) (by simp) ?_
          refine AllReadyH.cons rfl (fun K hK => ?_) (AllReadyH.cons rfl (fun K hK => ?_) AllReadyH.nil)
          focus
            have r0 := ((Kept.refl [] wr).drew.trans0 hk3).cell hR.out.1 (by simp)
            go_simp
            refine hK.out _ _ hHeld (fun hHeld => ?_)
            clear hK r0
            try simp only [Act.put, List.setIfInBounds_toArray, List.set_cons_zero, List.set_cons_succ]
            refine wpAnyH_ready (rs := [20]) (by kernel_rfl) (by simp) ?_
            refine AllReadyH.cons rfl (fun K hK => ?_) AllReadyH.nil
            go_simp
            refine hK.out _ _ (hHeld.kept ((Kept.refl [] w3).alloc _) (by simp) (by simp)) (fun hHeld => ?_)
            clear hK
            try simp only [Act.put, List.setIfInBounds_toArray, List.set_cons_zero, List.set_cons_succ]
            refine wpAnyH_ready (rs := [21]) (by kernel_rfl) (by simp) ?_
            refine AllReadyH.cons rfl (fun K hK => ?_) AllReadyH.nil
            have hO4 := OwN.kept0 hO.out (((Kept.refl [] wr).drew.trans0 hk3).alloc (.cells #[.string (strB s.nm), .int .i64 s.k, .slice (some ⟨q, 0, none⟩) s.n c3] 49))
            have nn := boxN (Kept.refl [] (w3.alloc (.cells #[.string (strB s.nm), .int .i64 s.k, .slice (some ⟨q, 0, none⟩) s.n c3] 49)))
            refine step_appN (by rfl) _ _ (by rfl) W0.heap.size v (preN L x k) _ (by rfl) hO4 w3.heap.size _ _ _ (by rfl) nn.1 nn.2.1 nn.2.2 rfl rfl rfl hpk (by have h1 := hK0.out; have h2 := hk3.size; simp at h2 ⊢; omega) ?_
            intro v9 w9 hO9 hgr
            have hkg : Kept v.ownBlock.toList (w3.alloc (.cells #[.string (strB s.nm), .int .i64 s.k, .slice (some ⟨q, 0, none⟩) s.n c3] 49)) w9 := (Kept.refl _ _).grown hgr (fun j hj _ => by rw [hj]; simp)
            have hlo : ∀ y, y < W0.heap.size → y ∉ v.ownBlock.toList := fun y hy hm => by have h5 := (World.ownsRow.lt hO4 y (show v.ownBlock = some y by simpa using hm)).1; omega
            refine hK.out _ _ (hHeld.kept hkg (hlo _ (by have := HZ0.out; omega)) (hlo _ (by have := HZ0.out; omega))) (fun hHeld => ?_)
            clear hK
            try simp only [Act.put, List.setIfInBounds_toArray]
            have hN9 := OwN.step (M := dropL L x) (gs := gs) (cz := cz) (q := q) (c := c3) (k := preN L x k) (by rw [HP.out.2.1, HS.out]; exact hO9)
            obtain ⟨g9, c9, rfl, hg9, _⟩ := hN9.row (by omega)
            have r3 := ((Kept.refl [] wr).drew.trans0 hk3).cell hR.out.1 (by simp)
            have f3 := ((Kept.refl [] wr).drew.trans0 hk3).freeS hR.out.1 hR.out.2 (by simp)
            have r9 := hkg.cell (alloc_cell r3) (hlo _ (by have := HZ0.out; show w.heap.size + 1 < _; omega))
            have f9 := hkg.freeS (alloc_cell r3) (((Kept.refl [] w3).alloc _).freeS r3 f3 (by simp)) (hlo _ (by have := HZ0.out; show w.heap.size + 1 < _; omega))
            refine wpAnyH_ready (rs := [22]) (by kernel_rfl) (by simp) ?_
            refine AllReadyH.cons rfl (fun K hK => ?_) AllReadyH.nil
            go_simp
            refine hK.out _ _ hHeld (fun hHeld => ?_)
            clear hK
            try simp only [Act.put, List.setIfInBounds_toArray, List.set_cons_zero, List.set_cons_succ]
            refine wpAnyH_ready (rs := [23]) (by kernel_rfl) (by simp) ?_
            refine AllReadyH.cons rfl (fun K hK => ?_) AllReadyH.nil
            go_simp
            refine hK.out _ _ (hHeld.kept ((Kept.refl [w.heap.size + 1] w9).setCell _ _ (by simp)) (by simp; omega) (by simp; omega)) (fun hHeld => ?_)
            clear hK
            refine wpAnyH_done (by kernel_rfl) ?_ _
            try simp only [Act.put, List.setIfInBounds_toArray, List.set_cons_zero, List.set_cons_succ]
          rotate_left 1
          focus
            go_simp
            refine hK.out _ _ (hHeld.kept ((Kept.refl [] w3).alloc _) (by simp) (by simp)) (fun hHeld => ?_)
            clear hK
            try simp only [Act.put, List.setIfInBounds_toArray, List.set_cons_zero, List.set_cons_succ]
            refine wpAnyH_ready (rs := [1]) (by kernel_rfl) (by simp) ?_
            refine AllReadyH.cons rfl (fun K hK => ?_) AllReadyH.nil
            have r0 := alloc_cell (o := .cells #[.string (strB s.nm), .int .i64 s.k, .slice (some ⟨q, 0, none⟩) s.n c3] 49) (((Kept.refl [] wr).drew.trans0 hk3).cell hR.out.1 (by simp))
            go_simp
            refine hK.out _ _ hHeld (fun hHeld => ?_)
            clear hK r0
            try simp only [Act.put, List.setIfInBounds_toArray, List.set_cons_zero, List.set_cons_succ]
            refine wpAnyH_ready (rs := [21]) (by kernel_rfl) (by simp) ?_
            refine AllReadyH.cons rfl (fun K hK => ?_) AllReadyH.nil
            have hO4 := OwN.kept0 hO.out (((Kept.refl [] wr).drew.trans0 hk3).alloc (.cells #[.string (strB s.nm), .int .i64 s.k, .slice (some ⟨q, 0, none⟩) s.n c3] 49))
            have nn := boxN (Kept.refl [] (w3.alloc (.cells #[.string (strB s.nm), .int .i64 s.k, .slice (some ⟨q, 0, none⟩) s.n c3] 49)))
            refine step_appN (by rfl) _ _ (by rfl) W0.heap.size v (preN L x k) _ (by rfl) hO4 w3.heap.size _ _ _ (by rfl) nn.1 nn.2.1 nn.2.2 rfl rfl rfl hpk (by have h1 := hK0.out; have h2 := hk3.size; simp at h2 ⊢; omega) ?_
            intro v9 w9 hO9 hgr
            have hkg : Kept v.ownBlock.toList (w3.alloc (.cells #[.string (strB s.nm), .int .i64 s.k, .slice (some ⟨q, 0, none⟩) s.n c3] 49)) w9 := (Kept.refl _ _).grown hgr (fun j hj _ => by rw [hj]; simp)
            have hlo : ∀ y, y < W0.heap.size → y ∉ v.ownBlock.toList := fun y hy hm => by have h5 := (World.ownsRow.lt hO4 y (show v.ownBlock = some y by simpa using hm)).1; omega
            refine hK.out _ _ (hHeld.kept hkg (hlo _ (by have := HZ0.out; omega)) (hlo _ (by have := HZ0.out; omega))) (fun hHeld => ?_)
            clear hK
            try simp only [Act.put, List.setIfInBounds_toArray]
            have hN9 := OwN.step (M := dropL L x) (gs := gs) (cz := cz) (q := q) (c := c3) (k := preN L x k) (by rw [HP.out.2.1, HS.out]; exact hO9)
            obtain ⟨g9, c9, rfl, hg9, _⟩ := hN9.row (by omega)
            have r3 := ((Kept.refl [] wr).drew.trans0 hk3).cell hR.out.1 (by simp)
            have f3 := ((Kept.refl [] wr).drew.trans0 hk3).freeS hR.out.1 hR.out.2 (by simp)
            have r9 := hkg.cell (alloc_cell r3) (hlo _ (by have := HZ0.out; show w.heap.size + 1 < _; omega))
            have f9 := hkg.freeS (alloc_cell r3) (((Kept.refl [] w3).alloc _).freeS r3 f3 (by simp)) (hlo _ (by have := HZ0.out; show w.heap.size + 1 < _; omega))
            refine wpAnyH_ready (rs := [22]) (by kernel_rfl) (by simp) ?_
            refine AllReadyH.cons rfl (fun K hK => ?_) AllReadyH.nil
            go_simp
            refine hK.out _ _ hHeld (fun hHeld => ?_)
            clear hK
            try simp only [Act.put, List.setIfInBounds_toArray, List.set_cons_zero, List.set_cons_succ]
            refine wpAnyH_ready (rs := [23]) (by kernel_rfl) (by simp) ?_
            refine AllReadyH.cons rfl (fun K hK => ?_) AllReadyH.nil
            go_simp
            refine hK.out _ _ (hHeld.kept ((Kept.refl [w.heap.size + 1] w9).setCell _ _ (by simp)) (by simp; omega) (by simp; omega)) (fun hHeld => ?_)
            clear hK
            refine wpAnyH_done (by kernel_rfl) ?_ _
            try simp only [Act.put, List.setIfInBounds_toArray, List.set_cons_zero, List.set_cons_succ]
        all_goals
          have hpn := HP.out.1
          have hRn : Hid ((w9.setCell ⟨w.heap.size + 1, 0, none⟩ (.slice (some ⟨g9, 0, none⟩) (preN L x k + 1) c9)).cell? ⟨w.heap.size + 1, 0, none⟩ = some (.slice (some ⟨g9, 0, none⟩) (preN L x k + 1) c9) ∧ (w9.setCell ⟨w.heap.size + 1, 0, none⟩ (.slice (some ⟨g9, 0, none⟩) (preN L x k + 1) c9)).frozen? ⟨w.heap.size + 1, 0, none⟩ = false) :=
            ⟨World.cell?_setCell_same _ _ _ r9, by rw [World.frozen?_setCell]; exact f9⟩
          have kS : Kept [w.heap.size + 1] w9 (w9.setCell ⟨w.heap.size + 1, 0, none⟩ (.slice (some ⟨g9, 0, none⟩) (preN L x k + 1) c9)) := (Kept.refl [w.heap.size + 1] w9).setCell _ _ (by simp)
          have hON := Lib.hid (hN9.kept kS (fun y hy hm => by simp [Value.ownBlock] at hy; have := HZ0.out; simp at hm; omega))
          have hAN : Hid (Apt W0.heap.size (w9.setCell ⟨w.heap.size + 1, 0, none⟩ (.slice (some ⟨g9, 0, none⟩) (preN L x k + 1) c9)) (fun i => if i = preN L x k then q else gs i) (preN L x k + 1) (dropL L x)) := by
            have ka := ((Kept.refl [] wr).drew.trans0 hk3).alloc (.cells #[.string (strB s.nm), .int .i64 s.k, .slice (some ⟨q, 0, none⟩) s.n c3] 49)
            have hne : ∀ y cs', Blk (w3.alloc (.cells #[.string (strB s.nm), .int .i64 s.k, .slice (some ⟨q, 0, none⟩) s.n c3] 49)) y cs' → 0 < cs'.length → y ∉ v.ownBlock.toList := by
              intro y cs' hb' hl hm
              have hm' : v.ownBlock = some y := by simpa using hm
              by_cases hk0 : preN L x k = 0
              · rw [h0.out hk0] at hm'; cases hm'
              · exact OwN.ne hO4 (by omega) hb' hl hm'
            have hqb := ((Kept.refl [] w3).alloc (.cells #[.string (strB s.nm), .int .i64 s.k, .slice (some ⟨q, 0, none⟩) s.n c3] 49)).blk hb (by simp)
            have hqw : W0.heap.size ≤ q := by have h1 := hK0.out; simp at hq; omega
            intro j hj
            by_cases hjk : j = preN L x k
            · subst hjk
              simp only [if_true]
              rw [HP.out.2.1, HS.out]
              refine ⟨kS.blk (hkg.blk hqb (hne _ _ hqb (by have := HRD.out.1; have := HVV.out.1.1; omega))) (by have := HZ0.out; simp; omega), hqw, fun j' hj' => ?_⟩
              rw [if_neg (by omega)]
              have := (hA.out j' hj').1.lt
              simp at hq
              omega
            · obtain ⟨a1, a2, a3⟩ := hA.out j (by omega)
              simp only [if_neg hjk]
              have a4 := ka.blk a1 (by simp)
              have hjm : (dropL L x).getD j sh0 ∈ dropL L x := mem_getD.2 ⟨j, by have := HP.out.2.2; omega, rfl⟩
              obtain ⟨i9, hi9, e9⟩ := mem_getD.1 (drop_mem.1 hjm).1
              have hv9 := HV.out i9 (by rw [← HR.out.1]; exact hi9)
              obtain ⟨_, _, _, _, _, _, _, _, hr9, _⟩ := HR.out.2.2 i9 (by rw [← HR.out.1]; exact hi9)
              rw [e9] at hv9 hr9
              refine ⟨kS.blk (hkg.blk a4 (hne _ _ a4 (by have := hr9.1; have := hv9.1.1; omega))) (by have := HZ0.out; simp; omega), a2, fun j' hj' => ?_⟩
              rw [if_neg (by omega)]
              exact a3 j' hj'
          have hKN : Hid (Kept [w.heap.size + 1] W0 (w9.setCell ⟨w.heap.size + 1, 0, none⟩ (.slice (some ⟨g9, 0, none⟩) (preN L x k + 1) c9))) := by
            have ka := ((Kept.refl [] wr).drew.trans0 hk3).alloc (.cells #[.string (strB s.nm), .int .i64 s.k, .slice (some ⟨q, 0, none⟩) s.n c3] 49)
            exact (((hK.out.trans0 ka).grown hgr (fun y hy hlt => by have := (World.ownsRow.lt hO4 y hy).1; omega))).trans kS (fun y hy _ => hy)
          clear hR hO h0 hA hK hO4 hgr hkg hlo hN9 r9 f9 r3 f3 nn hO9 hb hk3 kS hHeld hpk
          go_wp2_with fail
          go_roundw
          case rel => exact ⟨k + 1, _, _, _, by omega, by go_num, hRn, by rw [hpn]; exact hON, by intro h; omega, by rw [hpn]; exact hAN, hKN⟩
          case measure => simp [intOf]; omega
    · obtain rfl : k = n := by omega
      have hpe : preN L x k = (dropL L x).length := by rw [← HR.out.1]; exact pre_end L x
      rw [hpe] at hO h0 hA
      have hst := Lib.hid (stV_of2 rfl hO.out h0.out hA.out (by have := drop_len L x; have := HR.out.1; omega) (fun j hj => by
        obtain ⟨i9, hi9, e9⟩ := mem_getD.1 (drop_mem.1 (mem_getD.2 ⟨j, hj, rfl⟩)).1
        have hv9 := HV.out i9 (by rw [← HR.out.1]; exact hi9)
        obtain ⟨_, _, _, _, _, _, _, _, hr9, _⟩ := HR.out.2.2 i9 (by rw [← HR.out.1]; exact hi9)
        rw [e9] at hv9 hr9
        exact ⟨hr9.1, hv9⟩))
      obtain ⟨va, vc, rfl⟩ := hst.out.form
      obtain ⟨m, hm⟩ : ∃ m, (dropL L x).length = m := ⟨_, rfl⟩
      rw [hm] at hst hR
      have HMm := Lib.hid hm
      have r1 := hR.out.1
      have x0 := hK.out.cell R0.out.1 (by simp)
      have u0 := hK.out.freeS R0.out.1 R0.out.2 (by simp)
      have hKw : Hid (Kept [] w wr) := K0.out.trans hK.out (fun y hy hlt => by simp at hy; omega)
      have hzw : w.heap.size < W0.heap.size := by have := HZ0.out; omega
      clear hO h0 hA hK hR hm hpe
      have e4 := World.cell?_setCell_same _ _ (.slice va m vc) x0
      go_wp2_with fail
      refine bodyPost_ret (v := .agg #[.slice va m vc]) (by simp [results, Try.results38, go_sem, e4]) rfl ⟨_, rfl, ?_, hKw.out.setCell _ _ (by simp)⟩
      rw [HMm.out]
      exact (stV_set hst.out _ _ hzw).mono (by omega)

set_option maxHeartbeats 1000000 in
theorem sDropShape_any (a : Option Addr) (n c : Nat) (L : List Sh) (x : List UInt8) (w : World) (h : RdSt w a n L) :
    Calls Try.prog 14 #[.agg #[.slice a n c], .string (strB x)] w (StoRes w (getC L x) (dropS L x)) := by
  have HR := Lib.hid h
  clear h
  have K0 := Lib.hid (((Kept.refl [] w).alloc (.cells #[.slice a n c] 26)).alloc (.cells #[.int .i64 0, .slice none 0 0] 33))
  have b0 := (Kept.refl [] ((w.alloc (.cells #[.slice a n c] 26)).alloc (.cells #[.int .i64 0, .slice none 0 0] 33))).peel.top rfl (by simp) 0 (v := .slice a n c) rfl
  have B0 := Lib.hid b0.1
  clear b0
  go_enter Try.func14, Try.ntmps14
  go_wp2_with fail
  refine (l9Get_any _ _ _ _ _ _ _ (HR.out.kept0 K0.out) B0.out).mono ?_
  rintro e w1 ⟨q, c1, rfl, _, _, hk⟩
  have R1 := Lib.hid (boxRR hk)
  have hs1 : w.heap.size + 1 < w1.heap.size := by have := hk.size; simp only [World.size_alloc] at this; omega
  have K1 := Lib.hid (K0.out.trans0 hk)
  have B1 := Lib.hid (hk.cell B0.out (by simp))
  clear hk
  generalize (gotS L x).k = sk
  generalize (gotS L x).n = sn
  by_cases hz : getC L x = 0
  · have hz0 : storeC L = 0 := by
      by_cases h0 : storeC L = 0
      · exact h0
      · rw [(getC_fault h0).1] at hz; exact absurd hz h0
    obtain ⟨o1, o2, o3⟩ := storeC_ok hz0
    have hn10 : n ≤ 10 := by rw [← HR.out.1]; exact o1
    have hvv : ∀ i, i < n → (1 ≤ (L.getD i sh0).n ∧ (L.getD i sh0).n ≤ 12) ∧ (L.getD i sh0).nm.length ≤ 8 := fun i hi => by
      have h4 := namedC_ok (o2 i (by rw [HR.out.1]; exact hi))
      exact ⟨shapeC_n h4.2, (isNm_len h4.1).2⟩
    have HV := Lib.hid (And.intro hn10 hvv)
    have hds : Hid (dropS L x = dropL L x) := by show _ = _; unfold dropS; rw [if_pos hz]
    have HZ := Lib.hid hz
    rw [hz]
    clear hz hz0 o1 o2 o3 hn10 hvv
    obtain ⟨⟨c0, f0⟩, c2, f2⟩ := R1.out
    have KA := Lib.hid ((Kept.refl [] w1).alloc (.cells #[.int .i64 sk, .slice q sn c1] 29))
    go_wp2_with fail
    refine (l9Without_any _ _ _ _ _ _ _ (HR.out.kept0 (K1.out.trans0 KA.out)) (KA.out.cell B1.out (by simp)) HV.out.1 HV.out.2).mono ?_
    rintro e w2 ⟨v, rfl, hst, hk2⟩
    obtain ⟨va, vc, rfl⟩ := hst.form
    obtain ⟨m, hm⟩ : ∃ m, (dropL L x).length = m := ⟨_, rfl⟩
    rw [hm] at hst ⊢
    have HMm := Lib.hid hm
    have HST := Lib.hid hst
    have K2 := Lib.hid (K1.out.trans0 (KA.out.trans0 hk2))
    have d0 := (KA.out.trans0 hk2).cell R1.out.1.1 (by simp)
    have e0 := (KA.out.trans0 hk2).freeS R1.out.1.1 R1.out.1.2 (by simp)
    have d1 := (KA.out.trans0 hk2).cell R1.out.2.1 (by simp)
    have e1 := (KA.out.trans0 hk2).freeS R1.out.2.1 R1.out.2.2 (by simp)
    clear hst hk2 hm c0 f0 c2 f2
    obtain ⟨_, ea, eb⟩ := cells2 (.int .i64 0) (.slice va m vc) d0 d1
    go_wp2_with fail
    refine bodyPost_ret (v := .agg #[.int .i64 0, .slice va m vc]) (by simp [results, Try.results14, go_sem, ea, eb]) rfl ⟨_, by rw [HZ.out], ?_, (K2.out.setCell _ _ (by simp)).setCell _ _ (by simp)⟩
    rw [hds.out, HMm.out]
    exact (stV_set (stV_set HST.out _ _ (by simp; omega)) _ _ (by simp; omega)).mono (by simp; omega)
  · have hds : Hid (dropS L x = []) := by show _ = _; unfold dropS; rw [if_neg hz]
    obtain ⟨f, hf⟩ : ∃ f, getC L x = f := ⟨_, rfl⟩
    rw [hf] at hz ⊢
    have HF := Lib.hid hf
    have hne : (f == 0) = false := by rw [beq_eq_false_iff_ne]; exact hz
    obtain ⟨⟨c0, f0⟩, c2, f2⟩ := R1.out
    clear hf
    obtain ⟨_, ea, eb⟩ := cells2 (.int .i64 f) (.slice none 0 0) c0 c2
    go_wp2_with fail
    refine bodyPost_ret (v := .agg #[.int .i64 f, .slice none 0 0]) (by simp [results, Try.results14, go_sem, alloc_cell ea, alloc_cell eb]) rfl ?_
    rw [hds.out, HF.out]
    exact stoRes_zero (((K1.out.setCell _ _ (by simp)).setCell _ _ (by simp)).alloc _)

end Go.Proofs.Ytbljpeefekhoeab
