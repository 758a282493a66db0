/-
  The draws of bigs that are compared and divided: contracts of DrawCompareBigs, DrawFloorDiv. Condition: the bytes are at most 1048576.
-/
import Derived.Deep.RegionHeld3
import Derived.Deep.DrawnRows
import Derived.Deep.DeepCutAuto
import Derived.Test.YthahkicpkohfkaaDrwD
namespace Go.Proofs.Ythahkicpkohfkaa
open Go.RowKit

theorem mkC {L : List Nat} {wX w' : World} {α : Nat} {v0 v1 : Value} (c0 : wX.cell? ⟨α, 0, none⟩ = some v0) (c1 : wX.cell? ⟨α, 1, none⟩ = some v1) (hα : α ∉ L) (k : Hid (Kept L wX w')) :
    Hid (Kept L wX w') ∧ w'.cell? ⟨α, 0, none⟩ = some v0 ∧ w'.cell? ⟨α, 1, none⟩ = some v1 :=
  ⟨k, k.out.cell c0 hα, k.out.cell c1 hα⟩
theorem kgD {L : List Nat} {w : World} : Hid (Kept L w w.drew) := (Kept.refl _ _).drew
theorem kg0 {L : List Nat} {w u v : World} (h : Hid (Kept L w u)) (k : Kept [] u v) : Hid (Kept L w v) := h.out.trans0 k
theorem kg1 {g : Nat} {L : List Nat} {w u v : World} (hg : g ∈ L) (h : Hid (Kept L w u)) (k : Kept [g] u v) : Hid (Kept L w v) := h.out.trans k (fun x hx _ => by simp at hx; subst hx; exact hg)
theorem kgA {L : List Nat} {w u : World} (h : Hid (Kept L w u)) (o : Obj) : Hid (Kept L w (u.alloc o)) := h.out.alloc o
theorem kgS {L : List Nat} {w u : World} {g i : Nat} {v : Value} (h : Hid (Kept L w u)) (hg : g ∈ L) : Hid (Kept L w (u.setCell ⟨g, i, none⟩ v)) := h.out.setCell _ _ (fun _ => hg)

set_option maxHeartbeats 8000000 in
theorem DrawCompareBigs_any (a : Option Addr) (n c : Nat) (bs : List Int) (w : World) (h : Rd8 w a n bs) :
    Calls Try.prog 32 #[.slice a n c] w (Draw2B w) := by
  have HR := Lib.hid h
  clear h
  go_enter Try.func32, Try.ntmps32
  go_wp2_with fail
  refine (l1Source_any _ _ _ _ _ (HR.out.kept (((Kept.refl [] w).alloc _).alloc _) (by simp))).mono ?_
  rintro e w1 ⟨g, rfl, hg, hS, hK⟩
  simp only [World.size_alloc] at hg
  have K1 := Lib.hid (hK.mono (M := [g]) (by simp))
  have hz1 := hK.size
  simp only [World.size_alloc] at hz1
  clear hK
  go_wp2_with fail
  refine (l2Bent_any g a n c bs 0 _ hS (by omega)).mono ?_
  rintro e w2 ⟨p, av, cv, xs, at2, rfl, hs2, hf2, hn2, hl2, hS2, hat2, hK2⟩
  have K2 := Lib.hid (K1.out.trans hK2 (fun _ h _ => h))
  have hg1 : g < w1.heap.size := hS.lt
  have hz2 := hK2.size
  obtain ⟨w3, h3⟩ : ∃ w3, w3 = w2.alloc (.cells #[.bool p, .slice av xs.length cv] 26) := ⟨_, rfl⟩
  have H3 := Lib.hid h3
  have hk3 : Kept [] w2 w3 := by rw [h3]; exact (Kept.refl [] w2).alloc _
  have B0 := Lib.hid (show w3.cell? ⟨w2.heap.size, 0, none⟩ = some (.bool p) by rw [h3]; simp)
  have B1 := Lib.hid (show w3.cell? ⟨w2.heap.size, 1, none⟩ = some (.slice av xs.length cv) by rw [h3]; simp)
  clear h3
  have K3 := Lib.hid (K2.out.trans0 hk3)
  have hs3 := Lib.hid (hs2.kept0 hk3)
  have hS3 := hS2.kept0 hk3
  clear hs2 hS2 hK2 hS hk3 K2 K1
  go_wp2_with fail
  rw [← H3.out]
  go_wp2_with fail
  refine (l1Chance_any g a n c bs at2 3 _ hS3 (by omega) (by omega)).mono ?_
  rintro e w4 ⟨b, rfl, hS4, hK4⟩
  have K4 := Lib.hid (K3.out.trans hK4 (fun _ h _ => h))
  have hs4 := Lib.hid (hs3.out.kept hK4 (fun hn x hx => by have := hf2 hn x hx; simp; omega))
  have b0 := hK4.cell B0.out (by simp; omega)
  have b1 := hK4.cell B1.out (by simp; omega)
  obtain ⟨⟨c0, c1, d0, d1⟩, ⟨f0, f1, k0, k1⟩, z4⟩ := boxes2 K4.out (by simp; omega)
  have HC := Lib.hid (And.intro c0 (And.intro c1 (And.intro d0 d1)))
  have HB := Lib.hid (And.intro b0 b1)
  have hg4 : g < w4.heap.size := hS4.lt
  have HF := Lib.hid hf2
  have HN := Lib.hid hn2
  clear hS3 hK4 B0 B1 hs3 K3 c0 c1 d0 d1 hf2 hn2
  have HZ := Lib.hid (And.intro f0 (And.intro f1 (And.intro k0 k1)))
  clear f0 f1 k0 k1
  have HNE := Lib.hid (show w2.heap.size ∉ [g, w.heap.size, w.heap.size + 1] by simp; omega)
  have HGL := Lib.hid (show g ∈ [g, w.heap.size, w.heap.size + 1] by simp)
  have hRg : ∀ x, x ∈ [g] → w.heap.size + 2 ≤ x := by simp; omega
  have HRG := Lib.hid hRg
  clear hRg
  cases b
  · go_upto_region 5 with fail
    go_region_held3 (fun w' => Hid (Kept [g, w.heap.size, w.heap.size + 1] w4 w') ∧ w'.cell? ⟨w2.heap.size, 0, none⟩ = some (.bool p) ∧ w'.cell? ⟨w2.heap.size, 1, none⟩ = some (.slice av xs.length cv))
      ((go_split_ands; with_reducible first | assumption | exact mkC HB.out.1 HB.out.2 HNE.out (by with_reducible first | assumption | exact kgD | exact kgS (by assumption) (by simp) | exact kgS (kgS (by assumption) (by simp)) (by simp) | exact kgS (kgS (kgS (by assumption) (by simp)) (by simp)) (by simp) | exact kgS (kgS (kgS (kgS (by assumption) (by simp)) (by simp)) (by simp)) (by simp) | exact kgA (by assumption) _ | exact kg0 (by assumption) (by assumption) | exact kg1 HGL.out (by assumption) (by assumption))))
      (first
        | (go_at_call 39; go_split_ands; refine (l2Bent_any g a n c bs (at2 + 1) _ (hS4.kept0 ((Kept.refl [] _).drew)) (by omega)).mono ?_; rintro e w5 ⟨q, a5, c5, ys, at5, rfl, hs5, hf5, hn5, hl5, hS5, hat5, hK5⟩; have hk45 := ((Kept.refl [g] w4).drew).trans hK5 (fun _ h _ => h); obtain ⟨⟨c0, c1, d0, d1⟩, ⟨f0, f1, k0, k1⟩, z5⟩ := boxes2 (K4.out.trans hk45 (fun _ h _ => h)) HRG.out))
    go_wp2_with fail
    have HE := Lib.hid (duo_end (u0 := .bool p) (u1 := .slice av xs.length cv) (u2 := .bool q) (u3 := .slice a5 ys.length c5) (K4.out.trans hk45 (fun _ h _ => h)) HRG.out (hs4.out.kept hk45 (fun hn x hx => by have := HF.out hn x hx; simp; omega)) (HF.out.mono (by omega)) ⟨HN.out, by omega⟩ hs5 (hf5.mono (by simp; omega)) ⟨hn5, by omega⟩)
    obtain ⟨s0, s1, s2, s3⟩ := cells22 (R := w.heap.size) (S := w.heap.size + 1) (by omega) (.bool p) (.slice av xs.length cv) (.bool q) (.slice a5 ys.length c5) c0 c1 d0 d1
    refine bodyPost_ret (v := .tuple #[.agg #[.bool p, .slice av xs.length cv], .agg #[.bool q, .slice a5 ys.length c5]]) (by simp [results, Try.results32, go_sem, s0, s1, s2, s3]) rfl ?_
    exact ⟨p, av, cv, xs, q, a5, c5, ys, rfl, HE.out.1, HE.out.2.1, HE.out.2.2⟩
  · go_upto_region 4 with fail
    go_region_held3 (fun w' => Hid (Kept [g, w.heap.size, w.heap.size + 1] w4 w') ∧ w'.cell? ⟨w2.heap.size, 0, none⟩ = some (.bool p) ∧ w'.cell? ⟨w2.heap.size, 1, none⟩ = some (.slice av xs.length cv))
      ((go_split_ands; with_reducible first | assumption | exact mkC HB.out.1 HB.out.2 HNE.out (by with_reducible first | assumption | exact kgD | exact kgS (by assumption) (by simp) | exact kgS (kgS (by assumption) (by simp)) (by simp) | exact kgS (kgS (kgS (by assumption) (by simp)) (by simp)) (by simp) | exact kgS (kgS (kgS (kgS (by assumption) (by simp)) (by simp)) (by simp)) (by simp) | exact kgA (by assumption) _ | exact kg0 (by assumption) (by assumption) | exact kg1 HGL.out (by assumption) (by assumption))))
      (first
        | (go_at_call 66; go_split_ands; refine (l1Ints_any _ _ _ _ _ (hs4.out.kept0 ((Kept.refl [] _).drew)) (by omega)).mono ?_; rintro e w5 ⟨v5, rfl, hO5, hK5⟩; obtain ⟨a5, c5, rfl, hs5, hf5⟩ := hO5.sl; have hk45 := ((Kept.refl [g] w4).drew).trans0 hK5; obtain ⟨⟨c0, c1, d0, d1⟩, ⟨f0, f1, k0, k1⟩, z5⟩ := boxes2 (K4.out.trans hk45 (fun _ h _ => h)) HRG.out))
    clear hO5
    go_wp2_with fail
    have HE := Lib.hid (duo_end (u0 := .bool p) (u1 := .slice av xs.length cv) (u2 := .bool p) (u3 := .slice a5 xs.length c5) (K4.out.trans hk45 (fun _ h _ => h)) HRG.out (hs4.out.kept hk45 (fun hn x hx => by have := HF.out hn x hx; simp; omega)) (HF.out.mono (by omega)) ⟨HN.out, by omega⟩ hs5 (hf5.mono (by simp; omega)) ⟨HN.out, by omega⟩)
    obtain ⟨s0, s1, s2, s3⟩ := cells22 (R := w.heap.size) (S := w.heap.size + 1) (by omega) (.bool p) (.slice av xs.length cv) (.bool p) (.slice a5 xs.length c5) c0 c1 d0 d1
    refine bodyPost_ret (v := .tuple #[.agg #[.bool p, .slice av xs.length cv], .agg #[.bool p, .slice a5 xs.length c5]]) (by simp [results, Try.results32, go_sem, s0, s1, s2, s3]) rfl ?_
    exact ⟨p, av, cv, xs, p, a5, c5, xs, rfl, HE.out.1, HE.out.2.1, HE.out.2.2⟩

end Go.Proofs.Ythahkicpkohfkaa
