/-
  The draws of two naturals: contracts of DrawAddNats, DrawMulNats, DrawCompareNats, of lwNums and lwBig. Condition: the bytes are at most 1048576.
-/
import Derived.Test.YtledbpiaipmgkaaSrcC
import Derived.Test.YtledbpiaipmgkaaJ1
namespace Go.Proofs.Ytledbpiaipmgkaa
open Go.RowKit

set_option maxHeartbeats 400000 in
theorem lwNums_yes (a b : Option Addr) (n c c' : Nat) (xs : List Int) (w : World) (h : Rd w a n xs) (h' : Rd w b n xs) :
    Calls Try.prog 25 #[.slice a n c, .slice b n c'] w (Ans w (.bool true)) := by
  have hlen := h.1
  have hmax := h.2.1
  have HR := Lib.hid h
  have HR' := Lib.hid h'
  have HL := Lib.hid hlen
  clear h h' hlen
  go_enter Try.func25, Try.ntmps25
  go_wp2
  go_loopw [5] (fun i wr => ∃ k : Nat, k ≤ n ∧ i = .int .i64 k ∧ Hid (Kept [] w wr)) (fun i _ => n - (intOf i).toNat)
  case atStart => exact ⟨0, Nat.zero_le _, rfl, Kept.refl [] w⟩
  case round =>
    obtain ⟨k, hk, rfl, hK⟩ := hrel
    by_cases hlt : k < n
    · obtain ⟨g, off, rfl, hc0⟩ := HR.out.2.2 k hlt
      obtain ⟨g', off', rfl, hc0'⟩ := HR'.out.2.2 k hlt
      have hc := hK.out.cell hc0 (by simp)
      have hc' := hK.out.cell hc0' (by simp)
      clear hc0 hc0'
      go_wp2
      go_quiet (fail)
      have hK2 : Hid (Kept [] w (wr.drewN nq)) := hK.out.drewN _
      clear hK
      go_wp2
      go_roundw
      case rel => exact ⟨k + 1, by omega, by go_num, hK2⟩
      case measure => simp [intOf]; omega
    · go_wp2
      go_ret
      exact ⟨rfl, hK.out⟩

set_option maxHeartbeats 400000 in
theorem lwBig_any (a : Option Addr) (n c : Nat) (w : World) :
    Calls Try.prog 7 #[.slice a n c] w (fun e w' => e = .returned (.bool (decide ((1048576 : Int) < (n : Int)))) ∧ w' = w) := by
  go_enter Try.func7, Try.ntmps7
  go_wp2
  go_ret
  exact ⟨rfl, rfl⟩

/-- A slice that a draw made. -/
def Drawn (w w' : World) (a : Option Addr) (c : Nat) (xs : List Int) : Prop := Sl w' a xs.length c xs ∧ Fr w.heap.size a xs.length ∧ Near xs ∧ xs.length ≤ 90
/-- What a draw of two naturals answers. -/
def Draw2R (w : World) (e : Ending) (w' : World) : Prop :=
  ∃ a c xs b d ys, e = .returned (.tuple #[.slice a xs.length c, .slice b ys.length d]) ∧ Drawn w w' a c xs ∧ Drawn w w' b d ys ∧ Kept [] w w'

theorem Sl.keptG {w w' : World} {g B : Nat} {a : Option Addr} {n c : Nat} {xs : List Int} (h : Sl w a n c xs) (k : Kept [g] w w') (hF : Fr B a n) (hg : g < B) : Sl w' a n c xs :=
  h.kept k (fun hn x hx => by have := hF hn x hx; simp; omega)

set_option maxHeartbeats 1000000 in
theorem DrawAddNats_any (a : Option Addr) (n c : Nat) (bs : List Int) (w : World) (h : Rd8 w a n bs) :
    Calls Try.prog 8 #[.slice a n c] w (Draw2R w) := by
  have HR := Lib.hid h
  clear h
  go_enter Try.func8, Try.ntmps8
  go_wp2_with fail
  refine (l1Source_any _ _ _ _ _ HR.out).mono ?_
  rintro e w1 ⟨g, rfl, hg, hS, hK⟩
  go_wp2_with fail
  refine (l1Bent_any g a n c bs 0 _ hS (by omega)).mono ?_
  rintro e w2 ⟨a2, c2, xs, at2, rfl, hs2, hf2, hn2, hl2, hS2, hat2, hK2⟩
  go_wp2_with fail
  refine (l1Bent_any g a n c bs at2 _ hS2 (by omega)).mono ?_
  rintro e w3 ⟨a3, c3, ys, at3, rfl, hs3, hf3, hn3, hl3, hS3, hat3, hK3⟩
  go_wp2_with fail
  go_ret2
  have hg3 : g < w2.heap.size := hS2.lt
  exact ⟨a2, c2, xs, a3, c3, ys, rfl, ⟨hs2.kept hK3 (fun hn x hx => by have := hf2 hn x hx; have := hS.lt; simp; omega), hf2.mono hK.size, hn2, by omega⟩, ⟨hs3, hf3.mono (Nat.le_trans hK.size hK2.size), hn3, by omega⟩, hK.trans (hK2.trans hK3 (fun _ h _ => h)) (fun x hx hlt => by simp at hx; omega)⟩

set_option maxHeartbeats 1000000 in
theorem DrawMulNats_any (a : Option Addr) (n c : Nat) (bs : List Int) (w : World) (h : Rd8 w a n bs) :
    Calls Try.prog 30 #[.slice a n c] w (Draw2R w) := by
  have HR := Lib.hid h
  clear h
  go_enter Try.func30, Try.ntmps30
  go_wp2_with fail
  refine (DrawAddNats_any _ _ _ _ _ HR.out).mono ?_
  rintro e w1 ⟨a2, c2, xs, a3, c3, ys, rfl, h2, h3, hK⟩
  go_wp2_with fail
  go_ret2
  exact ⟨a2, c2, xs, a3, c3, ys, rfl, h2, h3, hK⟩

set_option maxHeartbeats 1000000 in
theorem DrawCompareNats_any (a : Option Addr) (n c : Nat) (bs : List Int) (w : World) (h : Rd8 w a n bs) :
    Calls Try.prog 32 #[.slice a n c] w (Draw2R w) := by
  have HR := Lib.hid h
  clear h
  go_enter Try.func32, Try.ntmps32
  go_wp2_with fail
  refine (l1Source_any _ _ _ _ _ HR.out).mono ?_
  rintro e w1 ⟨g, rfl, hg, hS, hK⟩
  go_wp2_with fail
  refine (l1Bent_any g a n c bs 0 _ hS (by omega)).mono ?_
  rintro e w2 ⟨a2, c2, xs, at2, rfl, hs2, hf2, hn2, hl2, hS2, hat2, hK2⟩
  go_wp2_with fail
  refine (l1Chance_any g a n c bs at2 3 _ hS2 (by omega) (by omega)).mono ?_
  rintro e w3 ⟨b, rfl, hS3, hK3⟩
  have hg2 : g < w1.heap.size := hS.lt
  have hs3 := hs2.kept hK3 (fun hn x hx => by have := hf2 hn x hx; simp; omega)
  have hK03 : Kept [] w w3 := hK.trans (hK2.trans hK3 (fun _ h _ => h)) (fun x hx hlt => by simp at hx; omega)
  cases b
  · go_wp2_with fail
    refine (l1Bent_any g a n c bs (at2 + 1) _ hS3 (by omega)).mono ?_
    rintro e w4 ⟨a4, c4, ys, at4, rfl, hs4, hf4, hn4, hl4, hS4, hat4, hK4⟩
    go_wp2_with fail
    go_ret2
    exact ⟨a2, c2, xs, a4, c4, ys, rfl, ⟨hs3.kept hK4 (fun hn x hx => by have := hf2 hn x hx; simp; omega), hf2.mono hK.size, hn2, by omega⟩, ⟨hs4, hf4.mono hK03.size, hn4, by omega⟩, hK03.trans hK4 (fun x hx hlt => by simp at hx; omega)⟩
  · go_wp2_with fail
    refine (l1Ints_any _ _ _ _ _ hs3 (by omega)).mono ?_
    rintro e w4 ⟨v, rfl, hO, hK4⟩
    obtain ⟨a4, c4, rfl, hs4, hf4⟩ := hO.sl
    go_wp2_with fail
    go_ret2
    exact ⟨a2, c2, xs, a4, c4, xs, rfl, ⟨hs3.kept0 hK4, hf2.mono hK.size, hn2, by omega⟩, ⟨hs4, hf4.mono hK03.size, hn2, by omega⟩, hK03.trans0 hK4⟩

end Go.Proofs.Ytledbpiaipmgkaa
