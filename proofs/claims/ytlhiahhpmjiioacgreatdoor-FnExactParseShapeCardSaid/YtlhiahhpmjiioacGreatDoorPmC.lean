/-
  Contract of the model's l8Words. Condition: the text is no longer than a million and a half.
-/
import Derived.ArgAppend
import Derived.Test.YtlhiahhpmjiioacGreatDoorPmA
namespace Go.Proofs.YtlhiahhpmjiioacGreatDoor
open Go.RowKit

def wordsTo (l : List UInt8) (k : Nat) : List (List UInt8) := ((cutL 32 l).take k).filter fun x => !x.isEmpty
theorem wordsTo_next {l : List UInt8} {k : Nat} (h : k < (cutL 32 l).length) : wordsTo l (k + 1) = if (cutL 32 l).getD k [] = [] then wordsTo l k else wordsTo l k ++ [(cutL 32 l).getD k []] := by
  unfold wordsTo
  rw [List.take_succ_eq_append_getElem h, List.filter_append, List.getD_eq_getElem?_getD, List.getElem?_eq_getElem h, Option.getD_some]
  cases hx : (cutL 32 l)[k] with
  | nil => simp
  | cons b m => simp
theorem wordsTo_all (l : List UInt8) : wordsTo l (cutL 32 l).length = wordsM l := by unfold wordsTo wordsM; rw [List.take_length]
theorem wordsTo_len (l : List UInt8) (k : Nat) : (wordsTo l k).length ≤ l.length + 1 := by
  unfold wordsTo
  refine Nat.le_trans (List.length_filter_le _ _) ?_
  rw [List.length_take]
  have := cutL_len 32 l
  omega

/-- A string more at the end of an empty slice without room: in memory made now. -/
theorem appStr0 {w : World} {ops : Array Oper} {rest : List Oper} {o : Oper} {a : Act} {Q : Exit → Act → World → Prop} (hgd : o.guard = none) (s x : Operand)
    (ho : o.op = .call { callee := .builtin .append, args := #[s, x], argTypes := #[64, 64] })
    (b0 : Nat) (hs : a.eval s = .slice (some ⟨b0, 0, none⟩) 0 0)
    (g0 : Nat) (y : List UInt8) (hx : a.eval x = .slice (some ⟨g0, 0, none⟩) 1 1) (hc : w.cell? ⟨g0, 0, none⟩ = some (strV y))
    (h : ∀ v' w', OwS w.heap.size w' v' [y] → Kept [] w w' → wpList Tryz.prog ops Q rest (a.put o.dst v') w') :
    wpList Tryz.prog ops Q (o :: rest) a w := by
  obtain ⟨i0, hi, hz0, hz1, hz2⟩ := info_parts Tryz.infoStr
  refine wpList_append_grows w hgd s x 64 ho 9 i0 (.string ⟨#[]⟩) 1 16 Tryz.underlying64 hi hz0 hz1 hz2 rfl (by decide) (some ⟨b0, 0, none⟩) 0 0 [] hs (by simp) rfl (by intro b _ j u hj; simp at hj) ⟨g0, 0, none⟩ 1 1 [strV y] hx rfl ?_ ?_ (by decide) (by decide) (by decide) ?_
  · intro j u hj
    have hj0 : j = 0 := by
      have := (List.getElem?_eq_some_iff.1 hj).1
      simp at this; exact this
    subst hj0
    simp at hj
    subst hj
    rw [Addr.add_lit]; exact hc
  · intro u hu; simp at hu; subst hu; rfl
  · intro v' w' h1 h2
    exact h v' w' h1 ((Kept.refl [] w).grown h2 (fun k hk _ => by cases hk))

theorem OwS.mono {B B' : Nat} {w : World} {v : Value} {xs : List (List UInt8)} (h : OwS B w v xs) (hB : B' ≤ B) : OwS B' w v xs := by
  obtain ⟨h1, h2⟩ := h
  refine ⟨h1, ?_⟩
  rcases h2 with h2 | ⟨g, cap, cur, hv, hg, r⟩
  · exact Or.inl h2
  · exact Or.inr ⟨g, cap, cur, hv, Nat.le_trans hB hg, r⟩

set_option maxHeartbeats 1000000 in
theorem l8Words_any (l : List UInt8) (w : World) (hl : l.length ≤ 1500000) :
    Calls Tryz.prog 38 #[.string (strB l)] w (fun e w' => ∃ v, e = .returned v ∧ OwS w.heap.size w' v (wordsM l) ∧ Kept [] w w') := by
  obtain ⟨B, hB⟩ : ∃ B, B = w.heap.size := ⟨_, rfl⟩
  have HB := Lib.hid hB
  rw [← hB]
  clear hB
  go_enter Tryz.func38, Tryz.ntmps38
  go_wp2_with fail
  refine (l1Cut_any l 32 _ hl).mono ?_
  rintro e w1 ⟨v, rfl, ho, k1⟩
  have hpos : 0 < (cutL 32 l).length := List.length_pos_iff.2 (cutL_ne 32 l)
  obtain ⟨g, c, rfl, hc1, hc2, hgB, hgl, hcell⟩ := ho.form hpos
  obtain ⟨N, hN⟩ : ∃ N, (cutL 32 l).length = N := ⟨_, rfl⟩
  have hNl := cutL_len 32 l
  rw [hN] at hc1 hcell hpos hNl ⊢
  have HN := Lib.hid hN
  have HC := Lib.hid hcell
  have K1 := Lib.hid k1
  clear ho k1 hN hcell
  go_wp2_with fail
  obtain ⟨M, hM⟩ : ∃ M, M = w1.heap.size := ⟨_, rfl⟩
  have HM := Lib.hid hM
  have hgM : g < M := by omega
  have hwM : w.heap.size < M := by have := K1.out.size; simp at this; omega
  clear hM
  go_loopw [3, 5] (fun o i wr => ∃ k : Nat, i = .int .i64 k ∧ k ≤ N ∧ Hid (OwS B wr o (wordsTo l k)) ∧ Hid ((o = .slice (some ⟨w.heap.size, 0, none⟩) 0 0 ∧ wordsTo l k = []) ∨ OwS M wr o (wordsTo l k)) ∧ Hid (M ≤ wr.heap.size) ∧ Hid (Kept [] w wr) ∧ Hid (∀ (i : Nat), i < N → wr.cell? ⟨g, i, none⟩ = some (strV ((cutL 32 l).getD i [])))) (fun _ i _ => N - (intOf i).toNat)
  case atStart => exact ⟨0, rfl, Nat.zero_le _, (OwS.empty rfl (by have := HB.out; omega)).kept0 K1.out, .inl ⟨rfl, rfl⟩, Nat.le_of_eq HM.out, K1.out.peel, HC.out⟩
  case round =>
    obtain ⟨k, rfl, hk, hO, hO2, hMw, hK, hCc⟩ := hrel
    by_cases hlt : k < N
    · have hlt' : (k : Int) < N := by omega
      have hk0 : (0 : Int) ≤ k := by omega
      have hcell := hCc.out k hlt
      have hnx := wordsTo_next (l := l) (k := k) (by have := HN.out; omega)
      have hlen := wordsTo_len l k
      generalize (cutL 32 l).getD k [] = p at *
      have HP := Lib.hid hnx
      clear hnx
      have hcs : wr.cell? ⟨g, k, none⟩ = some (.string (strB p)) := hcell
      clear hcell
      cases p with
      | nil =>
        have hn : Hid (wordsTo l (k + 1) = wordsTo l k) := by have := HP.out; rwa [if_pos rfl] at this
        have hsz : strB [] = ⟨#[]⟩ := rfl
        rw [hsz] at hcs
        go_wp2_with fail
        go_roundw
        case rel => exact ⟨k + 1, by go_num, by omega, by rw [hn.out]; exact hO, by rw [hn.out]; exact hO2, hMw.out, hK.out, hCc.out⟩
        case measure => simp [intOf] <;> omega
      | cons b p =>
        have hn : Hid (wordsTo l (k + 1) = wordsTo l k ++ [b :: p]) := by have := HP.out; rwa [if_neg (by simp)] at this
        have hne : (strB (b :: p)).toList = b :: p := ByteArray.toList_eq _
        obtain ⟨P, hP⟩ : ∃ P, strB (b :: p) = P := ⟨_, rfl⟩
        rw [hP] at hcs hne
        have HPP := Lib.hid hP
        clear hP
        have hcl : Hid (strV (b :: p) = .string P) := by show Value.string _ = _; rw [HPP.out]
        rcases hO2.out with ⟨rfl, h0⟩ | hO3
        · clear hO2 hO
          go_wp2_with (at_builtin; refine appStr0 rfl _ _ rfl w.heap.size rfl wr.heap.size (b :: p) rfl (by rw [hcl.out]; first | exact World.cell?_alloc_new _ _ _ | (simp; done)) ?_)
          rintro v' w' h1 h2
          have ka : Kept [] wr (wr.alloc (.cells #[.string P] 9)) := (Kept.refl [] wr).alloc _
          have K2 := Lib.hid (ka.trans0 h2)
          have H1 := Lib.hid h1
          clear h1 h2 ka
          go_wp2_with fail
          go_roundw
          case rel =>
            have hO4 : OwS M w' v' (wordsTo l (k + 1)) := by
              rw [hn.out, h0]; exact H1.out.mono (by have := hMw.out; simp; omega)
            exact ⟨k + 1, by go_num, by omega, hO4.mono (by have := HB.out; omega), .inr hO4, by have h1 := hMw.out; have h2 := K2.out.size; show _ ≤ _; omega, hK.out.trans0 K2.out, fun i hi => K2.out.cell (hCc.out i hi) (by simp)⟩
          case measure => simp [intOf] <;> omega
        · have HO3 := Lib.hid hO3
          clear hO3 hO2
          go_wp2_with (at_builtin; refine appStr rfl _ _ rfl M _ (wordsTo l k) rfl (HO3.out.alloc _) wr.heap.size (b :: p) rfl (by rw [hcl.out]; first | exact World.cell?_alloc_new _ _ _ | (simp; done)) (by omega) (by have := hMw.out; simp; omega) ?_)
          rintro v' w' h1 h2
          have ka : Kept [] wr (wr.alloc (.cells #[.string P] 9)) := (Kept.refl [] wr).alloc _
          have hgn : ∀ q, u3.ownBlock = some q → q ≠ g := fun q hq => by have := HO3.out.lt hq; omega
          have kk := kept_ownS h2
          have K2 := Lib.hid (OwS.grown (hK.out.alloc (.cells #[.string P] 9)) (HO3.out.alloc (.cells #[.string P] 9)) (by omega) h2)
          have C2 : Hid (∀ (i : Nat), i < N → w'.cell? ⟨g, i, none⟩ = some (strV ((cutL 32 l).getD i []))) := fun i hi => kk.cell (ka.cell (hCc.out i hi) (by simp)) (by
            intro hm
            have hm : u3.ownBlock = some g := by simpa using hm
            exact hgn g hm rfl)
          have hs2 := kk.size
          simp only [World.size_alloc] at hs2
          have HS2 := Lib.hid hs2
          have H1 := Lib.hid h1
          clear h1 h2 ka kk hs2
          go_wp2_with fail
          go_roundw
          case rel =>
            have hO4 : OwS M w' v' (wordsTo l (k + 1)) := by rw [hn.out]; exact H1.out
            exact ⟨k + 1, by go_num, by omega, hO4.mono (by have := HB.out; omega), .inr hO4, by have h1 := hMw.out; have h2 := HS2.out; show _ ≤ _; omega, K2.out, C2.out⟩
          case measure => simp [intOf] <;> omega
    · obtain rfl : k = N := by omega
      have hv : Hid (wordsTo l k = wordsM l) := by show _ = _; rw [← HN.out]; exact wordsTo_all l
      have hO5 := hO.out
      rw [hv.out] at hO5
      have HO5 := Lib.hid hO5
      clear hO5 hO hO2
      go_wp2_with fail
      go_ret
      exact ⟨_, rfl, HO5.out, hK.out⟩

end Go.Proofs.YtlhiahhpmjiioacGreatDoor
