/-
  Contract of the program's WordsOf. Condition: the text is no longer than a million and a half.
-/
import Derived.Test.YtbkfjebmpccbladDoorWdA
import Derived.Test.YtbkfjebmpccbladDoorWdP
import Derived.Test.YtbkfjebmpccbladDoorShf
namespace Go.Proofs.YtbkfjebmpccbladDoor
open Go.RowKit

set_option maxHeartbeats 1000000 in
theorem isBlank_any (x : Nat) (w : World) (hx : x ≤ 1114111) :
    Calls Tryd.prog 24 #[.int .i32 (x : Int)] w (fun e w' => e = .returned (.bool (x == 32)) ∧ w' = w) := by
  by_cases h : x = 32
  · subst h
    go_enter Tryd.func24, Tryd.ntmps24
    go_wp2_with fail
    go_ret
    exact ⟨rfl, rfl⟩
  · have h1 : ((x : Int) == 32) = false := by rw [beq_eq_false_iff_ne]; omega
    have h2 : (x == 32) = false := by rw [beq_eq_false_iff_ne]; exact h
    have h3 : ¬ (x : Int) = 32 := by omega
    rw [h2]
    go_enter Tryd.func24, Tryd.ntmps24
    go_wp2_with fail
    go_ret
    exact ⟨rfl, rfl⟩

theorem FieldsFunc_blank (l : List UInt8) (w : World) (hl : l.length ≤ 3000) :
    Calls Tryd.prog 23 #[.string (strB l), .func (.func 24) #[] #[]] w (fun e w' => ∃ v, e = .returned v ∧ OwS w.heap.size w' v (wordsM l) ∧ Kept [] w w') := by
  refine (Tryd.strings_FieldsFunc_runes _ #[] (by intro args w; kernel_rfl) (fun r => r == 32) (strB l) w (by rw [strB_size]; omega) (fun W x hx _ => (isBlank_any x W hx).mono (by rintro e w' ⟨rfl, rfl⟩; exact ⟨rfl, 0, rfl⟩))).mono ?_
  rintro e w' ⟨A, rfl, hA, hO, hB⟩
  have hfw := fields_words l
  rw [hfw] at hO
  rw [hfw]
  have hlen : ((wordsM l).map strB).length = (wordsM l).length := by simp
  rw [hlen] at hO ⊢
  refine ⟨_, rfl, ?_, Kept.ofBelow hB⟩
  unfold OwS
  rw [show (wordsM l).map strV = ((wordsM l).map strB).map Value.string by rw [List.map_map]; rfl]
  exact hO

set_option maxHeartbeats 1000000 in
theorem WordsOf_any (l : List UInt8) (w : World) (hl : l.length ≤ 1500000) :
    Calls Tryd.prog 10 #[.string (strB l)] w (WordP l w) := by
  obtain ⟨S, hS⟩ : ∃ S, strB l = S := ⟨_, rfl⟩
  have hsz : S.size = l.length := by rw [← hS, strB_size]
  have HS := Lib.hid hS
  rw [hS]
  by_cases hbig : 3000 < l.length
  · have hc : Hid (wordsC l = 2 ∧ wordsS l = []) := by show _ ∧ _; unfold wordsC wordsS; rw [if_pos hbig, if_pos hbig]; exact ⟨rfl, rfl⟩
    have hb : (3000 : Int) < S.size := by omega
    clear hS hsz hbig
    go_enter Tryd.func10, Tryd.ntmps10
    go_wp2_with fail
    refine bodyPost_ret (v := .agg #[.int .i64 2, .slice none 0 0]) (by simp [results, Tryd.results10, go_sem]) rfl ⟨.slice none 0 0, by rw [hc.out.1], by rw [hc.out.2]; exact OwS.nil _ _, (Kept.refl [] w).alloc _⟩
  · have hc : Hid (wordsC l = 0 ∧ wordsS l = wordsM l) := by show _ ∧ _; unfold wordsC wordsS; rw [if_neg hbig, if_neg hbig]; exact ⟨rfl, rfl⟩
    have hb : ¬ (3000 : Int) < S.size := by omega
    have hl3 : l.length ≤ 3000 := by omega
    clear hS hsz hbig
    go_enter Tryd.func10, Tryd.ntmps10
    go_wp2_with fail
    rw [← HS.out]
    refine (FieldsFunc_blank l _ hl3).mono ?_
    rintro e w1 ⟨v, rfl, o1, k1⟩
    obtain ⟨va, vn, vc, rfl⟩ := o1.isSl
    obtain ⟨⟨c0, c1⟩, f0, f1⟩ := wordBox k1
    have hlt := World.ownsRow.lt o1
    have K1 := Lib.hid k1
    have O1 := Lib.hid (o1.mono (B' := w.heap.size) (by simp))
    have hg : Hid (∀ g, (Value.slice va vn vc).ownBlock = some g → g ≠ w.heap.size) := fun g hg => by have := (hlt g hg).1; simp at this; omega
    clear k1 o1 hlt
    go_wp2_with fail
    obtain ⟨_, s0, s1⟩ := cells2 (.int .i64 0) (.slice va vn vc) c0 c1
    have kk : Kept [w.heap.size] w1 ((w1.setCell ⟨w.heap.size, 0, none⟩ (.int .i64 0)).setCell ⟨w.heap.size, 1, none⟩ (.slice va vn vc)) := ((Kept.refl _ _).setCell _ _ (by simp)).setCell _ _ (by simp)
    refine bodyPost_ret (v := .agg #[.int .i64 0, .slice va vn vc]) (by simp [results, Tryd.results10, go_sem, s0, s1]) rfl ⟨.slice va vn vc, by rw [hc.out.1], by rw [hc.out.2]; exact O1.out.kept kk (by intro g h1 h2; simp at h2; exact hg.out g h1 h2), ?_⟩
    exact (K1.out.peel.setCell _ _ (by simp)).setCell _ _ (by simp)

end Go.Proofs.YtbkfjebmpccbladDoor
