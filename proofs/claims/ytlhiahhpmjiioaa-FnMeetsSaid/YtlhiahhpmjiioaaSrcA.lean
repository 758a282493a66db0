/-
  The bytes that a draw reads one by one: contracts of l1Source, l1Next, l1Chance. Condition: few have been read so far.
-/
import Derived.Test.YtlhiahhpmjiioaaJ1
namespace Go.Proofs.Ytlhiahhpmjiioaa
open Go.RowKit

/-- The slice of bytes with head a and length n reads as bs. -/
def Rd8 (w : World) (a : Option Addr) (n : Nat) (bs : List Int) : Prop :=
  bs.length = n ∧ n ≤ 1048576 ∧ (∀ b, b ∈ bs → 0 ≤ b ∧ b < 256) ∧ ∀ k, k < n → ∃ g off, a = some ⟨g, off, none⟩ ∧ w.cell? ⟨g, off + k, none⟩ = some (.int .u8 (bs.getD k 0))
theorem Rd8.kept {L : List Nat} {w w' : World} {a : Option Addr} {n : Nat} {bs : List Int} (h : Rd8 w a n bs) (k : Kept L w w') (hL : 0 < n → ∀ x, a = some x → x.block ∉ L) : Rd8 w' a n bs :=
  ⟨h.1, h.2.1, h.2.2.1, fun i hi => by obtain ⟨g, off, ha, hc⟩ := h.2.2.2 i hi; exact ⟨g, off, ha, k.cell hc (by have := hL (by omega) _ ha; simpa using this)⟩⟩
theorem Rd8.byte {w : World} {a : Option Addr} {n : Nat} {bs : List Int} (h : Rd8 w a n bs) (k : Nat) : 0 ≤ bs.getD k 0 ∧ bs.getD k 0 < 256 := by
  by_cases hk : k < bs.length
  · rw [List.getD_eq_getElem?_getD, List.getElem?_eq_getElem hk, Option.getD_some]; exact h.2.2.1 _ (List.getElem_mem hk)
  · rw [List.getD_eq_getElem?_getD, List.getElem?_eq_none (by omega)]; simp
theorem Rd8.ne {w : World} {a : Option Addr} {n : Nat} {bs : List Int} (h : Rd8 w a n bs) {g : Nat} (hg : w.heap.size ≤ g) : 0 < n → ∀ x, a = some x → x.block ≠ g := by
  intro hn x hx
  obtain ⟨g', off, ha, hc⟩ := h.2.2.2 0 hn
  have := World.block_lt_of_cell? _ _ hc
  rw [ha] at hx; cases hx
  simp at this ⊢
  omega
theorem Rd8.lt {w : World} {a : Option Addr} {n : Nat} {bs : List Int} (h : Rd8 w a n bs) : 0 < n → ∀ x, a = some x → x.block < w.heap.size := by
  intro hn x hx
  obtain ⟨g', off, ha, hc⟩ := h.2.2.2 0 hn
  have := World.block_lt_of_cell? _ _ hc
  rw [ha] at hx; cases hx
  simpa using this
/-- A slice of bytes that came in reads as bytes. -/
theorem rd8_of_row {w : World} {a : Option Addr} {len cap : Nat} {zs : List Int}
    (h : (a = none ∧ len = 0 ∧ cap = 0 ∧ zs = []) ∨ ∃ x, a = some x ∧ len ≤ cap ∧ cap ≤ maxLen ∧ zs.length = cap ∧ (∀ i, i < zs.length → w.cell? (x.add i) = some (.int .u8 (zs.getD i 0))) ∧ ∀ n ∈ zs, (Lit.int .u8 n).wf = true) :
    len ≤ 1048576 → Rd8 w a len (zs.take len) := by
  intro hn
  rcases h with ⟨rfl, rfl, rfl, rfl⟩ | ⟨x, rfl, h1, h2, h3, h4, h5⟩
  · exact ⟨by simp, by omega, by simp, fun k hk => by omega⟩
  · refine ⟨by simp; omega, hn, fun b hb => ?_, fun k hk => ?_⟩
    · have := h5 b (List.mem_of_mem_take hb)
      simp only [Lit.wf, Bool.and_eq_true, decide_eq_true_eq, show IntKind.u8.min = 0 from rfl, show IntKind.u8.max = 255 from rfl] at this
      omega
    · have h0 := h4 k (by omega)
      obtain ⟨g, off, spot⟩ := x
      have hs : spot = none := by simpa [Addr.add] using World.cell?_spot (h4 0 (by omega))
      subst hs
      rw [Addr.add_lit] at h0
      refine ⟨g, off, rfl, ?_⟩
      rw [h0]
      simp [List.getD_eq_getElem?_getD, hk]
/-- The source in block g: its bytes, and how many have been read. -/
def Src (w : World) (g : Nat) (a : Option Addr) (n c : Nat) (bs : List Int) (at_ : Int) : Prop :=
  w.cell? ⟨g, 0, none⟩ = some (.slice a n c) ∧ w.cell? ⟨g, 1, none⟩ = some (.int .i64 at_) ∧ w.frozen? ⟨g, 1, none⟩ = false ∧ Rd8 w a n bs ∧ (0 < n → ∀ x, a = some x → x.block ≠ g) ∧ 0 ≤ at_
theorem Src.kept {L : List Nat} {w w' : World} {g : Nat} {a : Option Addr} {n c : Nat} {bs : List Int} {at_ : Int} (h : Src w g a n c bs at_) (k : Kept L w w') (hg : g ∉ L) (hL : 0 < n → ∀ x, a = some x → x.block ∉ L) : Src w' g a n c bs at_ := by
  obtain ⟨h0, h1, h2, h3, h4, h5⟩ := h
  exact ⟨k.cell h0 hg, k.cell h1 hg, k.free h2 (World.block_lt_of_cell? _ _ h1) hg, h3.kept k hL, h4, h5⟩
theorem Src.kept0 {w w' : World} {g : Nat} {a : Option Addr} {n c : Nat} {bs : List Int} {at_ : Int} (h : Src w g a n c bs at_) (k : Kept [] w w') : Src w' g a n c bs at_ := h.kept k (by simp) (by simp)
theorem Src.lt {w : World} {g : Nat} {a : Option Addr} {n c : Nat} {bs : List Int} {at_ : Int} (h : Src w g a n c bs at_) : g < w.heap.size := World.block_lt_of_cell? _ _ h.1
theorem Src.step {w : World} {g : Nat} {a : Option Addr} {n c : Nat} {bs : List Int} {at_ : Int} (h : Src w g a n c bs at_) : Src (w.setCell ⟨g, 1, none⟩ (.int .i64 (at_ + 1))) g a n c bs (at_ + 1) := by
  obtain ⟨h0, h1, h2, h3, h4, h5⟩ := h
  have hk : Kept [g] w (w.setCell ⟨g, 1, none⟩ (.int .i64 (at_ + 1))) := (Kept.refl [g] w).setCell _ _ (by simp)
  exact ⟨by rw [World.cell?_setCell_other _ _ _ _ (by simp)]; exact h0, World.cell?_setCell_same _ _ _ h1, by rw [World.frozen?_setCell]; exact h2, h3.kept hk (fun hn x hx => by have := h4 hn x hx; simpa using this), h4, by omega⟩

theorem Src.drewN {w : World} {g : Nat} {a : Option Addr} {n c : Nat} {bs : List Int} {at_ : Int} (h : Src w g a n c bs at_) (k : Nat) : Src (w.drewN k) g a n c bs at_ := h.kept0 ((Kept.refl [] w).drewN _)

set_option maxHeartbeats 1000000 in
theorem l1Source_any (a : Option Addr) (n c : Nat) (bs : List Int) (w : World) (h : Rd8 w a n bs) :
    Calls Try.prog 16 #[.slice a n c] w (fun e w' => ∃ g, e = .returned (.pointer (some ⟨g, 0, none⟩)) ∧ w.heap.size ≤ g ∧ Src w' g a n c bs 0 ∧ Kept [] w w') := by
  have HR := Lib.hid h
  have HN := Lib.hid (h.ne (Nat.le_refl w.heap.size))
  clear h
  go_enter Try.func16, Try.ntmps16
  go_wp2_with fail
  go_ret
  have hk : Kept [] w (w.alloc (.cells #[.slice a n c, .int .i64 0] 53)) := (Kept.refl [] w).alloc _
  exact ⟨w.heap.size, rfl, Nat.le_refl _, ⟨by rw [World.cell?_alloc_new]; rfl, by rw [World.cell?_alloc_new]; rfl, by simp, HR.out.kept hk (by simp), HN.out, Int.le_refl _⟩, hk⟩

/-- What a draw of one number answers. -/
def NextR (w : World) (g : Nat) (a : Option Addr) (n c : Nat) (bs : List Int) (at_ m : Int) (e : Ending) (w' : World) : Prop :=
  ∃ r, e = .returned (.int .i64 r) ∧ 0 ≤ r ∧ r < m ∧ Src w' g a n c bs (at_ + 1) ∧ Kept [g] w w'

set_option maxHeartbeats 4000000 in
theorem l1Next_any (g : Nat) (a : Option Addr) (n c : Nat) (bs : List Int) (at_ m : Int) (w : World) (h : Src w g a n c bs at_) (ha : at_ ≤ 1000000) (hm : 1 ≤ m ∧ m ≤ 1000000000000) :
    Calls Try.prog 41 #[.pointer (some ⟨g, 0, none⟩), .int .i64 m] w (NextR w g a n c bs at_ m) := by
  obtain ⟨h0, h1, h2, h3, h4, h5⟩ := h
  have hst := Src.step ⟨h0, h1, h2, h3, h4, h5⟩
  have HS := Lib.hid hst
  have hk : Kept [g] w (w.setCell ⟨g, 1, none⟩ (.int .i64 (at_ + 1))) := (Kept.refl [g] w).setCell _ _ (by simp)
  have HK := Lib.hid hk
  have H3 := Lib.hid h3
  have c0 := hst.1
  have c1 := hst.2.1
  have e1 : IntKind.i64.wrap (at_ + 1) = at_ + 1 := IntWalk.i64_in _ (by omega)
  have e2 : IntKind.i64.wrap (at_ + 1 - 1) = at_ := by rw [show at_ + 1 - 1 = at_ by omega]; exact IntWalk.i64_in _ (by omega)
  have hn9 := h3.2.1
  have hm1 : ¬ m < 1 := by omega
  have hmz : ¬ m = 0 := by omega
  clear hst hk h3 h4
  by_cases hn : n = 0
  · subst hn
    have e3 : IntKind.i64.wrap (at_ * 7) = at_ * 7 := IntWalk.i64_in _ (by omega)
    have e4 : (at_ * 7).tmod m = at_ * 7 % m := Int.tmod_eq_emod_of_nonneg (by omega)
    have hr1 := Int.emod_nonneg (at_ * 7) hmz
    have hr2 := Int.emod_lt_of_pos (at_ * 7) (show 0 < m by omega)
    go_enter Try.func41, Try.ntmps41
    go_wp2_with fail
    go_ret
    exact ⟨_, rfl, hr1, hr2, HS.out, HK.out⟩
  · have hpos : 0 < n := by omega
    -- the bytes that are read, and what comes of them
    have hB : ∀ i : Int, 0 ≤ i → ∃ (j : Nat) (ga off : Nat), i.tmod (n : Int) = (j : Int) ∧ j < n ∧ a = some ⟨ga, off, none⟩ ∧ (w.setCell ⟨g, 1, none⟩ (.int .i64 (at_ + 1))).cell? ⟨ga, off + j, none⟩ = some (.int .u8 (bs.getD j 0)) := by
      intro i hi
      have h8 := Int.emod_nonneg i (show (n : Int) ≠ 0 by omega)
      have h9 := Int.emod_lt_of_pos i (show (0 : Int) < n by omega)
      obtain ⟨j, hj⟩ : ∃ j : Nat, i % (n : Int) = (j : Int) := ⟨(i % (n : Int)).toNat, by omega⟩
      obtain ⟨ga, off, ha', hc⟩ := HS.out.2.2.2.1.2.2.2 j (by omega)
      exact ⟨j, ga, off, by rw [Int.tmod_eq_emod_of_nonneg hi, hj], by omega, ha', hc⟩
    obtain ⟨j0, ga, off, q0, l0, rfl, b0⟩ := hB at_ h5
    obtain ⟨j1, ga1, off1, q1, l1, he1, b1⟩ := hB (at_ + 1) (by omega)
    simp only [Option.some.injEq, Addr.mk.injEq, and_true] at he1
    obtain ⟨rfl, rfl⟩ := he1
    obtain ⟨j2, ga2, off2, q2, l2, he2, b2⟩ := hB (at_ + 2) (by omega)
    simp only [Option.some.injEq, Addr.mk.injEq, and_true] at he2
    obtain ⟨rfl, rfl⟩ := he2
    have y0 := H3.out.byte j0
    have y1 := H3.out.byte j1
    have y2 := H3.out.byte j2
    generalize bs.getD j0 0 = x0 at b0 y0
    generalize bs.getD j1 0 = x1 at b1 y1
    generalize bs.getD j2 0 = x2 at b2 y2
    obtain ⟨k0, hk0⟩ : ∃ k0, at_.tdiv (n : Int) = k0 := ⟨_, rfl⟩
    have hk1 : 0 ≤ k0 ∧ k0 ≤ 1000000 := by
      rw [← hk0, Int.tdiv_eq_ediv_of_nonneg h5]
      have := Int.ediv_nonneg h5 (show (0 : Int) ≤ n by omega)
      have := Int.ediv_le_self (n : Int) h5
      omega
    clear hB
    obtain ⟨W, hW⟩ : ∃ W, W = w.setCell ⟨g, 1, none⟩ (.int .i64 (at_ + 1)) := ⟨_, rfl⟩
    rw [← hW] at HS HK c0 c1 b0 b1 b2
    have HW := Lib.hid hW
    clear hW
    go_enter Try.func41, Try.ntmps41
    go_wp2_with fail
    rw [← HW.out]
    go_quiet (fail)
    obtain ⟨v, hv⟩ : ∃ v, x0 + k0 * 37 = v := ⟨_, rfl⟩
    have hv1 : 0 ≤ v ∧ v ≤ 40000000 := by omega
    rw [hv]
    clear hv hk0 hk1 q0
    by_cases hm2 : 200 < m
    · go_wp2_with fail
      go_quiet (fail)
      obtain ⟨v', hv'⟩ : ∃ v', v * 251 + x1 * 13 + at_ = v' := ⟨_, rfl⟩
      have hv2 : 0 ≤ v' ∧ v' ≤ 40000000000 := by omega
      rw [hv']
      clear hv' hv1 q1
      by_cases hm3 : 60000 < m
      · go_wp2_with fail
        go_quiet (fail)
        go_wp2_with fail
        go_ret
        exact ⟨_, rfl, Int.emod_nonneg _ hmz, Int.emod_lt_of_pos _ (by omega), HS.out.drewN _, HK.out.drewN _⟩
      · go_wp2_with fail
        go_ret
        exact ⟨_, rfl, Int.emod_nonneg _ hmz, Int.emod_lt_of_pos _ (by omega), HS.out.drewN _, HK.out.drewN _⟩
    · have hm3 : ¬ 60000 < m := by omega
      go_wp2_with fail
      go_ret
      exact ⟨_, rfl, Int.emod_nonneg _ hmz, Int.emod_lt_of_pos _ (by omega), HS.out.drewN _, HK.out.drewN _⟩

/-- What a chance answers: some yes or no. -/
def ChanceR (w : World) (g : Nat) (a : Option Addr) (n c : Nat) (bs : List Int) (at_ : Int) (e : Ending) (w' : World) : Prop :=
  ∃ b, e = .returned (.bool b) ∧ Src w' g a n c bs (at_ + 1) ∧ Kept [g] w w'

set_option maxHeartbeats 1000000 in
theorem l1Chance_any (g : Nat) (a : Option Addr) (n c : Nat) (bs : List Int) (at_ m : Int) (w : World) (h : Src w g a n c bs at_) (ha : at_ ≤ 1000000) (hm : 1 ≤ m ∧ m ≤ 1000000000000) :
    Calls Try.prog 18 #[.pointer (some ⟨g, 0, none⟩), .int .i64 m] w (ChanceR w g a n c bs at_) := by
  go_enter Try.func18, Try.ntmps18
  go_wp2_with (refine (l1Next_any g a n c bs at_ m _ h ha hm).mono ?_; rintro e w1 ⟨r, rfl, hr0, hr1, hS, hK⟩)
  go_ret
  exact ⟨_, rfl, hS, hK⟩

end Go.Proofs.Ytlhiahhpmjiioaa
