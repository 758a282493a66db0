/-
  An argument that is a store, read as named shapes. No condition.
-/
import Derived.Test.YtbljpeefekhoeadPtO
import Derived.Test.YtbljpeefekhoeadStoL
namespace Go.Proofs.Ytbljpeefekhoead
open Go.RowKit Go.ChangeShapes Go.WideShapes Go.Deep

set_option maxRecDepth 100000 in
theorem open_named {H : Type} {enc : TypeId × Value → H} {w : World} {base : Nat} {spare : Nat → Bool} {held : Bool} {fuel : Nat} {cs : List Value} {x : DataW H × List MemPlace} (hsp : ∀ b, spare b = true)
    (h : DataW.trod enc Try.prog w base spare held fuel 53 cs = some x) : ∃ (s : Sh) (p : Option Addr) (c : Nat), cs = [.string (strB s.nm), .int .i64 s.k, .slice p s.n c] ∧ s.nm.length ≤ 9223372036854775807 ∧ s.n ≤ 9223372036854775807 ∧ (s.n ≤ 1048576 → Rd w p (s.n * 2) s.xs) := by
  obtain ⟨y0, y1, n, _, hl, h0, h1⟩ := trod_struct2 Try.underlying53 h
  have hc : Try.prog.cellsOf 53 = 3 := by kernel_rfl
  rw [hc] at hl
  match cs, hl with
  | [c0, c1, c2], _ =>
    have hs : Try.prog.cellsOf 9 = 1 := by kernel_rfl
    have hq : Try.prog.cellsOf 51 = 2 := by kernel_rfl
    rw [show (List.take (Try.prog.cellsOf 9) (List.drop 0 [c0, c1, c2])) = [c0] by rw [hs]; rfl] at h0
    rw [show (List.take (Try.prog.cellsOf 51) (List.drop 1 [c0, c1, c2])) = [c1, c2] by rw [hq]; rfl] at h1
    obtain ⟨S, hS, _, hSm⟩ := DataW.trod_string Try.underlying9 h0
    obtain ⟨z0, z1, m, _, _, g0, g1⟩ := trod_struct2 Try.underlying51 h1
    have hi : Try.prog.cellsOf 2 = 1 := by kernel_rfl
    have hp : Try.prog.cellsOf 49 = 1 := by kernel_rfl
    rw [show (List.take (Try.prog.cellsOf 2) (List.drop 0 [c1, c2])) = [c1] by rw [hi]; rfl] at g0
    rw [show (List.take (Try.prog.cellsOf 49) (List.drop 1 [c1, c2])) = [c2] by rw [hp]; rfl] at g1
    obtain ⟨k, hk, _, _⟩ := DataW.trod_int Try.underlying2 g0
    obtain ⟨a, len, cap, zs, ha, hle, hrd⟩ := open_pts hsp g1
    simp only [List.cons.injEq, and_true] at hS hk ha
    subst hS hk ha
    refine ⟨⟨S.data.toList, k, len, zs⟩, a, cap, rfl, ?_, hle, hrd⟩
    show S.data.toList.length ≤ _
    rw [Array.length_toList]
    unfold maxLen at hSm
    exact hSm

set_option maxRecDepth 100000 in
theorem open_store {H : Type} {enc : TypeId × Value → H} {w : World} {base : Nat} {spare : Nat → Bool} {held : Bool} {fuel : Nat} {cs : List Value} {x : DataW H × List MemPlace} (hsp : ∀ b, spare b = true)
    (h : DataW.trod enc Try.prog w base spare held fuel 24 cs = some x) : ∃ a n c L, cs = [.slice a n c] ∧ ArgSt w a n L := by
  obtain ⟨y0, fu, _, hl, h0⟩ := trod_struct1 Try.underlying24 h
  have hc : Try.prog.cellsOf 24 = 1 := by kernel_rfl
  rw [hc] at hl
  match cs, hl with
  | [c0], _ =>
    have hp : Try.prog.cellsOf 22 = 1 := by kernel_rfl
    rw [show (List.take (Try.prog.cellsOf 22) (List.drop 0 [c0])) = [c0] by rw [hp]; rfl] at h0
    rcases open_slice Try.underlying22 h0 with ⟨he, _⟩ | ⟨a, len, cap, m, n, D, Pl, he, _, hle, hm, hmm, _, hx⟩
    · refine ⟨none, 0, 0, [], he, rfl, by omega, fun _ i hi => by omega⟩
    · rw [hsp] at hmm
      simp only [if_true] at hmm
      subst hmm
      unfold maxLen at hm
      have h3 : Try.prog.cellsOf 53 = 3 := by kernel_rfl
      have each : ∀ i, i < len → ∃ s : Sh, ∃ p c, w.cell? (a.add (i * 3)) = some (.string (strB s.nm)) ∧ w.cell? (a.add (i * 3 + 1)) = some (.int .i64 s.k) ∧ w.cell? (a.add (i * 3 + 2)) = some (.slice p s.n c) ∧ s.nm.length ≤ 9223372036854775807 ∧ s.n ≤ 9223372036854775807 ∧ (s.n ≤ 1048576 → Rd w p (s.n * 2) s.xs) := by
        intro i hi
        obtain ⟨cs', h1, h2⟩ := hx i (by omega)
        rw [h3] at h1
        obtain ⟨_, _, hcell⟩ := World.cells?_some h1
        obtain ⟨s, p, c, rfl, g1, g2, g3⟩ := open_named hsp h2
        have e0 := hcell 0 (by omega)
        have e1 := hcell 1 (by omega)
        have e2 := hcell 2 (by omega)
        rw [add_add] at e0 e1 e2
        exact ⟨s, p, c, by simpa using e0, by simpa using e1, by simpa using e2, g1, g2, g3⟩
      obtain ⟨f, hf⟩ := choose_lt each
      refine ⟨some a, len, m, (List.range len).map f, he, by simp, by omega, fun hlen i hi => ?_⟩
      obtain ⟨p, c, q0, q1, q2, q3, q4, q5⟩ := hf i hi
      have hg : ((List.range len).map f).getD i sh0 = f i := by simp [List.getD_eq_getElem?_getD, hi]
      rw [hg]
      obtain ⟨g, off, spot⟩ := a
      obtain ⟨_, _, z0, _⟩ := hf 0 (by omega)
      have hs : spot = none := by simpa [Addr.add] using World.cell?_spot z0
      subst hs
      rw [Addr.add_lit] at q0 q1 q2
      exact ⟨g, off, p, c, rfl, q0, by rw [← Nat.add_assoc] at q1; exact q1, by rw [← Nat.add_assoc] at q2; exact q2, q3, q4, q5⟩

end Go.Proofs.Ytbljpeefekhoead
