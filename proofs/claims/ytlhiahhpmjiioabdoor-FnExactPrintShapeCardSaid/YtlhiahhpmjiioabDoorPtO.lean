/-
  An argument that is a slice of points, read as a list of numbers, two a point. No condition.
-/
import Derived.Test.YtlhiahhpmjiioabDoorJ1
import Derived.Deep.SlicePairs
import Derived.ChangeOld
import Derived.Lib.SmallJoins
namespace Go.Proofs.YtlhiahhpmjiioabDoor
open Go.RowKit Go.ChangeShapes Go.WideShapes Go.Deep

theorem open_pts {H : Type} {enc : TypeId × Value → H} {w : World} {base : Nat} {spare : Nat → Bool} {held : Bool} {fuel : Nat} {cs : List Value} {x : DataW H × List MemPlace} (hsp : ∀ b, spare b = true)
    (h : DataW.trod enc Tryd.prog w base spare held fuel 22 cs = some x) : ∃ a len cap zs, cs = [.slice a len cap] ∧ len ≤ 9223372036854775807 ∧ (len ≤ 1048576 → Rd w a (len * 2) zs) := by
  rcases open_slice_pairs Tryd.underlying22 Tryd.underlying53 (by kernel_rfl) rfl rfl (by kernel_rfl) (by kernel_rfl) h with ⟨rfl, _⟩ | ⟨a, len, cap, m, n, V0, V1, D0, D1, P0, P1, rfl, _, hl, hm, hmm, _, hx⟩
  · exact ⟨none, 0, 0, [], rfl, by omega, fun _ => ⟨rfl, by omega, fun k hk => by omega⟩⟩
  · rw [hsp] at hmm
    simp only [if_true] at hmm
    subst hmm
    have each : ∀ k, k < len * 2 → ∃ u : Int, w.cell? (a.add k) = some (.int .i64 u) := by
      intro k hk
      obtain ⟨h0, h1, t0, t1⟩ := hx (k / 2) (by omega)
      obtain ⟨u0, e0, _, _⟩ := DataW.trod_int Tryd.underlying2 t0
      obtain ⟨u1, e1, _, _⟩ := DataW.trod_int Tryd.underlying2 t1
      simp at e0 e1
      rcases (by omega : k % 2 = 0 ∨ k % 2 = 1) with hp | hp
      · exact ⟨u0, by rw [← e0, ← h0]; congr 2; omega⟩
      · exact ⟨u1, by rw [← e1, ← h1]; congr 2; omega⟩
    obtain ⟨f, hf⟩ := choose_lt each
    unfold maxLen at hm
    refine ⟨some a, len, m, (List.range (len * 2)).map f, rfl, by omega, fun hlen => ⟨by simp, by omega, fun k hk => ?_⟩⟩
    obtain ⟨g, off, spot⟩ := a
    have hs : spot = none := by simpa [Addr.add] using World.cell?_spot (hf 0 (by omega))
    subst hs
    refine ⟨g, off, rfl, ?_⟩
    have := hf k hk
    rw [Addr.add_lit] at this
    rw [this]
    simp [List.getD_eq_getElem?_getD, hk]

end Go.Proofs.YtlhiahhpmjiioabDoor
