/-
  Contracts of the laws' helpers over a store's result: marking, holding, comparing. Conditions: the store lies in blocks of its own, or there is none; the marks are no great numbers.
-/
import Derived.Test.YtklecaojkngjmadStoJ
import Derived.Test.YtklecaojkngjmadStoI
namespace Go.Proofs.Ytklecaojkngjmad
open Go.RowKit

theorem stb_in {w : World} {g : Nat} {gs cs : Nat → Nat} {n : Nat} {L : List Sh} (h : StB w g gs cs n L) : ∀ x ∈ blksS g gs n, x < w.heap.size := by
  intro x hx
  rcases List.mem_cons.1 hx with rfl | hx
  · exact h.2.2.1.lt
  · obtain ⟨i, hi, rfl⟩ := List.mem_map.1 hx
    exact (h.2.2.2 i (List.mem_range.1 hi)).1.lt
/-- A slice of named shapes in blocks from B on, below D; or none of it. -/
def StW (B D : Nat) (w : World) (v : Value) (n : Nat) (M : List Sh) : Prop :=
  M.length = n ∧ ((n = 0 ∧ v = .slice none 0 0) ∨ ∃ g gs cs c, v = .slice (some ⟨g, 0, none⟩) n c ∧ StB w g gs cs n M ∧ ∀ x ∈ blksS g gs n, B ≤ x ∧ x < D)
theorem StV.w {B : Nat} {w : World} {v : Value} {n : Nat} {M : List Sh} (h : StV B w v n M) : StW B w.heap.size w v n M := by
  refine ⟨h.1, ?_⟩
  rcases h.2 with h0 | ⟨g, gs, cs, c, hv, hs, ha⟩
  · exact .inl h0
  · exact .inr ⟨g, gs, cs, c, hv, hs, fun x hx => ⟨ha.blks x hx, stb_in hs x hx⟩⟩
theorem StW.rd {B D : Nat} {w : World} {a : Option Addr} {m c n : Nat} {M : List Sh} (h : StW B D w (.slice a m c) n M) : RdSt w a n M := by
  rcases h.2 with ⟨h0, hv⟩ | ⟨g, gs, cs, c', hv, hs, _⟩
  · cases hv
    subst h0
    exact ⟨h.1, by omega, fun i hi => by omega⟩
  · cases hv
    exact hs.rd
theorem StW.form {B D : Nat} {w : World} {v : Value} {n : Nat} {M : List Sh} (h : StW B D w v n M) : ∃ a c, v = .slice a n c := by
  rcases h.2 with ⟨rfl, rfl⟩ | ⟨g, gs, cs, c, hv, _⟩
  · exact ⟨none, 0, rfl⟩
  · exact ⟨_, c, hv⟩
theorem StW.kept {B D : Nat} {L : List Nat} {w w' : World} {v : Value} {n : Nat} {M : List Sh} (h : StW B D w v n M) (k : Kept L w w') (hL : ∀ x, x ∈ L → x < B ∨ D ≤ x) : StW B D w' v n M := by
  refine ⟨h.1, ?_⟩
  rcases h.2 with h0 | ⟨g, gs, cs, c, hv, hs, ha⟩
  · exact .inl h0
  · exact .inr ⟨g, gs, cs, c, hv, hs.kept k (fun hm => by have := hL _ hm; have := ha _ (blksS_g g gs n); omega) (fun i hi hm => by have := hL _ hm; have := ha _ (blksS_mem hi); omega), ha⟩
theorem StW.kept0 {B D : Nat} {w w' : World} {v : Value} {n : Nat} {M : List Sh} (h : StW B D w v n M) (k : Kept [] w w') : StW B D w' v n M := h.kept k (by simp)
def StM (B D : Nat) (w : World) (v : Value) (n : Nat) (M : List Sh) (k : Int) (e : Ending) (w' : World) : Prop :=
  e = .returned (.int .i64 (kAt M k n)) ∧ StW B D w' v n (markL M k n) ∧ ∃ L, (∀ x, x ∈ L → B ≤ x ∧ x < D) ∧ Kept L w w'

set_option maxHeartbeats 1000000 in
theorem markStore_none (k : Int) (w : World) (_h0 : ¬ k < 0) : Calls Try.prog 13 #[.agg #[.slice none 0 0], .int .i64 k] w (Ans w (.int .i64 k)) := by
  go_enter Try.func13, Try.ntmps13
  go_wp2_with fail
  refine (markNamedS_none _ _).mono ?_
  rintro e w1 ⟨rfl, h1⟩
  have K1 := Lib.hid h1.peel
  clear h1
  go_wp2_with fail
  go_ret
  exact ⟨rfl, K1.out⟩
set_option maxHeartbeats 1000000 in
theorem markStoreResult_none (u : Int) (k : Int) (w : World) (_h0 : ¬ k < 0) : Calls Try.prog 15 #[.agg #[.int .i64 u, .slice none 0 0], .int .i64 k] w (Ans w (.int .i64 k)) := by
  go_enter Try.func15, Try.ntmps15
  go_wp2_with fail
  refine (markStore_none _ _ (by omega)).mono ?_
  rintro e w1 ⟨rfl, h1⟩
  have K1 := Lib.hid h1.peel
  clear h1
  go_wp2_with fail
  go_ret
  exact ⟨rfl, K1.out⟩
set_option maxHeartbeats 1000000 in
theorem heldStore_none (k : Int) (w : World) (h0 : ¬ k < 0) : Calls Try.prog 34 #[.agg #[.slice none 0 0], .int .i64 k] w (Ans w (.int .i64 k)) := by
  go_enter Try.func34, Try.ntmps34
  go_wp2_with fail
  refine (heldNamedS_none _ _).mono ?_
  rintro e w1 ⟨rfl, h1⟩
  have K1 := Lib.hid h1.peel
  clear h1
  go_wp2_with fail
  go_ret
  exact ⟨rfl, K1.out⟩
set_option maxHeartbeats 1000000 in
theorem heldStoreResult_none (u : Int) (k : Int) (w : World) (h0 : ¬ k < 0) : Calls Try.prog 16 #[.agg #[.int .i64 u, .slice none 0 0], .int .i64 k] w (Ans w (.int .i64 k)) := by
  go_enter Try.func16, Try.ntmps16
  go_wp2_with fail
  refine (heldStore_none _ _ (by omega)).mono ?_
  rintro e w1 ⟨rfl, h1⟩
  have K1 := Lib.hid h1.peel
  clear h1
  go_wp2_with fail
  go_ret
  exact ⟨rfl, K1.out⟩
set_option maxHeartbeats 1000000 in
theorem heldStore_any (g : Nat) (gs cs : Nat → Nat) (n c : Nat) (L : List Sh) (k : Int) (w : World) (hl : L.length = n) (h : StB w g gs cs n (markL L k n)) (hk : 1 ≤ k ∧ k ≤ 1099511627) (hn : n + szAt L n ≤ 2000000) :
    Calls Try.prog 34 #[.agg #[.slice (some ⟨g, 0, none⟩) n c], .int .i64 k] w (Ans w (.int .i64 (kAt L k n))) := by
  have HH := Lib.hid (h.kept0 ((Kept.refl [] w).alloc (.cells #[.slice (some ⟨g, 0, none⟩) n c] 32)))
  have HK := Lib.hid (And.intro hk hn)
  have HL := Lib.hid hl
  obtain ⟨V, hV⟩ : ∃ V : Int, kAt L k n = V := ⟨_, rfl⟩
  have hV0 : ¬ V < 0 := by have := (kAt_le L k n).1; omega
  have HV := Lib.hid hV
  rw [hV]
  clear hV h hk hn hl
  go_enter Try.func34, Try.ntmps34
  go_wp2_with fail
  refine (heldNamedS_any _ _ _ _ _ _ _ _ HL.out HH.out HK.out.1 HK.out.2).mono ?_
  rintro e w1 ⟨rfl, h1⟩
  rw [HV.out]
  have H1 := Lib.hid h1.peel
  clear h1
  go_wp2_with fail
  go_ret
  exact ⟨rfl, H1.out⟩
set_option maxHeartbeats 1000000 in
theorem heldStoreResult_any (u : Int) (g : Nat) (gs cs : Nat → Nat) (n c : Nat) (L : List Sh) (k : Int) (w : World) (hl : L.length = n) (h : StB w g gs cs n (markL L k n)) (hk : 1 ≤ k ∧ k ≤ 1099511627) (hn : n + szAt L n ≤ 2000000) :
    Calls Try.prog 16 #[.agg #[.int .i64 u, .slice (some ⟨g, 0, none⟩) n c], .int .i64 k] w (Ans w (.int .i64 (kAt L k n))) := by
  have HH := Lib.hid (h.kept0 ((Kept.refl [] w).alloc (.cells #[.int .i64 u, .slice (some ⟨g, 0, none⟩) n c] 34)))
  have HK := Lib.hid (And.intro hk hn)
  have HL := Lib.hid hl
  obtain ⟨V, hV⟩ : ∃ V : Int, kAt L k n = V := ⟨_, rfl⟩
  have hV0 : ¬ V < 0 := by have := (kAt_le L k n).1; omega
  have HV := Lib.hid hV
  rw [hV]
  clear hV h hk hn hl
  go_enter Try.func16, Try.ntmps16
  go_wp2_with fail
  refine (heldStore_any _ _ _ _ _ _ _ _ HL.out HH.out HK.out.1 HK.out.2).mono ?_
  rintro e w1 ⟨rfl, h1⟩
  rw [HV.out]
  have H1 := Lib.hid h1.peel
  clear h1
  go_wp2_with fail
  go_ret
  exact ⟨rfl, H1.out⟩

theorem markStore_v {B D : Nat} (v : Value) (n : Nat) (M : List Sh) (k : Int) (w : World) (h : StW B D w v n M) (hk : 1 ≤ k ∧ k ≤ 1099511627) (hn : n + szAt M n ≤ 2000000) :
    Calls Try.prog 13 #[.agg #[v], .int .i64 k] w (StM B D w v n M k) := by
  rcases h.2 with ⟨rfl, rfl⟩ | ⟨g, gs, cs, c, rfl, hs, ha⟩
  · refine (markStore_none k w (by omega)).mono ?_
    rintro e w1 ⟨rfl, h1⟩
    exact ⟨rfl, ⟨by rw [markL_len]; exact h.1, .inl ⟨rfl, rfl⟩⟩, [], by simp, h1⟩
  · refine (markStore_any g gs cs n c M k w hs hk hn).mono ?_
    rintro e w1 ⟨rfl, h1, h2⟩
    exact ⟨rfl, ⟨h1.1, .inr ⟨g, gs, cs, c, rfl, h1, ha⟩⟩, blksS g gs n, ha, h2⟩
theorem markStoreResult_v {B D : Nat} (u : Int) (v : Value) (n : Nat) (M : List Sh) (k : Int) (w : World) (h : StW B D w v n M) (hk : 1 ≤ k ∧ k ≤ 1099511627) (hn : n + szAt M n ≤ 2000000) :
    Calls Try.prog 15 #[.agg #[.int .i64 u, v], .int .i64 k] w (StM B D w v n M k) := by
  rcases h.2 with ⟨rfl, rfl⟩ | ⟨g, gs, cs, c, rfl, hs, ha⟩
  · refine (markStoreResult_none u k w (by omega)).mono ?_
    rintro e w1 ⟨rfl, h1⟩
    exact ⟨rfl, ⟨by rw [markL_len]; exact h.1, .inl ⟨rfl, rfl⟩⟩, [], by simp, h1⟩
  · refine (markStoreResult_any u g gs cs n c M k w hs hk hn).mono ?_
    rintro e w1 ⟨rfl, h1, h2⟩
    exact ⟨rfl, ⟨h1.1, .inr ⟨g, gs, cs, c, rfl, h1, ha⟩⟩, blksS g gs n, ha, h2⟩
theorem heldStoreResult_v {B D : Nat} (u : Int) (v : Value) (n : Nat) (M : List Sh) (k : Int) (w : World) (hl : M.length = n) (h : StW B D w v n (markL M k n)) (hk : 1 ≤ k ∧ k ≤ 1099511627) (hn : n + szAt M n ≤ 2000000) :
    Calls Try.prog 16 #[.agg #[.int .i64 u, v], .int .i64 k] w (Ans w (.int .i64 (kAt M k n))) := by
  rcases h.2 with ⟨rfl, rfl⟩ | ⟨g, gs, cs, c, rfl, hs, ha⟩
  · exact heldStoreResult_none u k w (by omega)
  · exact heldStoreResult_any u g gs cs n c M k w hl hs hk hn
theorem szAt_max (M : List Sh) (c : Nat) : ∀ n, (∀ i, i < n → (M.getD i sh0).nm.length + (M.getD i sh0).n ≤ c) → szAt M n ≤ n * c
  | 0, _ => by simp [szAt]
  | n + 1, h => by
    have h1 := szAt_max M c n (fun i hi => h i (by omega))
    have h2 := h n (by omega)
    simp only [szAt]
    rw [Nat.add_mul]
    omega

set_option maxHeartbeats 1000000 in
theorem eqStoreResult_yes (u : Int) (a b : Option Addr) (n c c' : Nat) (L : List Sh) (w : World) (h : RdSt w a n L) (h' : RdSt w b n L) :
    Calls Try.prog 10 #[.agg #[.int .i64 u, .slice a n c], .agg #[.int .i64 u, .slice b n c']] w (Ans w (.bool true)) := by
  have HR := Lib.hid h
  have HR' := Lib.hid h'
  clear h h'
  go_enter Try.func10, Try.ntmps10
  go_wp2_with fail
  refine (eqStore_yes _ _ _ _ _ _ _ (HR.out.kept0 (((Kept.refl _ _).alloc _).alloc _)) (HR'.out.kept0 (((Kept.refl _ _).alloc _).alloc _))).mono ?_
  rintro e w1 ⟨rfl, h1⟩
  go_wp2_with fail
  go_ret
  exact ⟨rfl, h1.peel.peel⟩

end Go.Proofs.Ytklecaojkngjmad
