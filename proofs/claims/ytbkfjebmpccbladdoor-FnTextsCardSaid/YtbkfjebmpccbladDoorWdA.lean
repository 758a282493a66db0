/-
  Contract of the model's WordsOf. Condition: the text is no longer than a million and a half.
-/
import Derived.Test.YtbkfjebmpccbladDoorPmC
namespace Go.Proofs.YtbkfjebmpccbladDoor
open Go.RowKit

/-- The code of a line, and its words. -/
def wordsC (l : List UInt8) : Int := if 3000 < l.length then 2 else 0
def wordsS (l : List UInt8) : List (List UInt8) := if 3000 < l.length then [] else wordsM l
theorem wordsS_len (l : List UInt8) : (wordsS l).length ≤ 3001 := by
  unfold wordsS
  split
  · simp
  · have h1 := wordsTo_len l (cutL 32 l).length
    rw [wordsTo_all] at h1
    omega
/-- What WordsOf answers. -/
def WordP (l : List UInt8) (w : World) (e : Ending) (w' : World) : Prop := ∃ v, e = .returned (.agg #[.int .i64 (wordsC l), v]) ∧ OwS w.heap.size w' v (wordsS l) ∧ Kept [] w w'
theorem wordBox {w w1 : World} {T : TypeId} (hk : Kept [] (w.alloc (.cells #[.int .i64 0, .slice none 0 0] T)) w1) :
    (w1.cell? ⟨w.heap.size, 0, none⟩ = some (.int .i64 0) ∧ w1.cell? ⟨w.heap.size, 1, none⟩ = some (.slice none 0 0)) ∧ w1.frozen? ⟨w.heap.size, 0, none⟩ = false ∧ w1.frozen? ⟨w.heap.size, 1, none⟩ = false :=
  ⟨⟨(hk.top rfl (by simp) 0 (v := .int .i64 0) rfl).1, (hk.top rfl (by simp) 1 (v := .slice none 0 0) rfl).1⟩, (hk.top rfl (by simp) 0 (v := .int .i64 0) rfl).2.1, (hk.top rfl (by simp) 1 (v := .slice none 0 0) rfl).2.1⟩

theorem OwS.isSl {B : Nat} {w : World} {v : Value} {xs : List (List UInt8)} (h : OwS B w v xs) : ∃ a n c, v = .slice a n c := by
  rcases h.2 with ⟨rfl, _⟩ | ⟨g, cap, cur, rfl, _⟩
  · exact ⟨_, _, _, rfl⟩
  · exact ⟨_, _, _, rfl⟩

set_option maxHeartbeats 1000000 in
theorem sWordsOf_any (l : List UInt8) (w : World) (hl : l.length ≤ 1500000) :
    Calls Tryd.prog 13 #[.string (strB l)] w (WordP l w) := by
  obtain ⟨S, hS⟩ : ∃ S, strB l = S := ⟨_, rfl⟩
  have hsz : S.size = l.length := by rw [← hS, strB_size]
  have HS := Lib.hid hS
  rw [hS]
  by_cases hbig : 3000 < l.length
  · have hc : Hid (wordsC l = 2 ∧ wordsS l = []) := by show _ ∧ _; unfold wordsC wordsS; rw [if_pos hbig, if_pos hbig]; exact ⟨rfl, rfl⟩
    have hb : (3000 : Int) < S.size := by omega
    clear hS hsz hbig
    go_enter Tryd.func13, Tryd.ntmps13
    go_wp2_with fail
    refine bodyPost_ret (v := .agg #[.int .i64 2, .slice none 0 0]) (by simp [results, Tryd.results13, go_sem]) rfl ⟨.slice none 0 0, by rw [hc.out.1], by rw [hc.out.2]; exact OwS.nil _ _, (Kept.refl [] w).alloc _⟩
  · have hc : Hid (wordsC l = 0 ∧ wordsS l = wordsM l) := by show _ ∧ _; unfold wordsC wordsS; rw [if_neg hbig, if_neg hbig]; exact ⟨rfl, rfl⟩
    have hb : ¬ (3000 : Int) < S.size := by omega
    clear hS hsz hbig
    go_enter Tryd.func13, Tryd.ntmps13
    go_wp2_with fail
    rw [← HS.out]
    refine (l8Words_any l _ hl).mono ?_
    rintro e w1 ⟨v, rfl, o1, k1⟩
    obtain ⟨va, vn, vc, rfl⟩ := o1.isSl
    obtain ⟨⟨c0, c1⟩, f0, f1⟩ := wordBox k1
    have hlt := World.ownsRow.lt o1
    have K1 := Lib.hid k1
    have O1 := Lib.hid (o1.mono (B' := w.heap.size) (by simp))
    have hg : Hid (∀ g, (Value.slice va vn vc).ownBlock = some g → g ≠ w.heap.size) := fun g hg => by have := (hlt g hg).1; simp at this; omega
    clear k1 o1 hlt
    go_wp2_with fail
    obtain ⟨_, s0, s1⟩ := cells2 (.int .i64 0) (.slice va vn vc) c0 c1
    have kk : Kept [w.heap.size] w1 ((w1.setCell ⟨w.heap.size, 0, none⟩ (.int .i64 0)).setCell ⟨w.heap.size, 1, none⟩ (.slice va vn vc)) := ((Kept.refl _ _).setCell _ _ (by simp)).setCell _ _ (by simp)
    refine bodyPost_ret (v := .agg #[.int .i64 0, .slice va vn vc]) (by simp [results, Tryd.results13, go_sem, s0, s1]) rfl ⟨.slice va vn vc, by rw [hc.out.1], by rw [hc.out.2]; exact O1.out.kept kk (by intro g h1 h2; simp at h2; exact hg.out g h1 h2), ?_⟩
    exact (K1.out.peel.setCell _ _ (by simp)).setCell _ _ (by simp)

end Go.Proofs.YtbkfjebmpccbladDoor
