/-
  Contract of the model's l8Points. Condition: the text is no longer than a million and a half.
-/
import Derived.Test.YtlhiahhpmjiioadGreatDoorPmC
import Derived.Test.YtlhiahhpmjiioadGreatDoorPsF
namespace Go.Proofs.YtlhiahhpmjiioadGreatDoor
open Go.RowKit

theorem cutL_mem {c : UInt8} : ∀ (l x : List UInt8), x ∈ cutL c l → x.length ≤ l.length
  | [], x, h => by simp [cutL] at h; simp [h]
  | b :: l, x, h => by
    simp only [cutL] at h
    split at h
    · rcases List.mem_cons.1 h with rfl | h
      · simp
      · have := cutL_mem l x h; simp; omega
    · cases hc : cutL c l with
      | nil => exact absurd hc (cutL_ne c l)
      | cons y ys =>
        rw [hc] at h
        rcases List.mem_cons.1 h with rfl | h
        · have := cutL_mem (c := c) l y (by rw [hc]; simp); simp; omega
        · have := cutL_mem (c := c) l x (by rw [hc]; simp [h]); simp; omega
theorem words_mem {l x : List UInt8} (h : x ∈ wordsM l) : x.length ≤ l.length := cutL_mem l x (List.mem_filter.1 h).1
theorem partsM_app : ∀ a b : List (List UInt8), partsM (a ++ b) = (partsM a).bind fun x => (partsM b).map fun y => x ++ y
  | [], b => by cases h : partsM b <;> simp [partsM, h]
  | x :: a, b => by
    simp only [List.cons_append, partsM, partsM_app a b]
    cases partM x with
    | none => rfl
    | some p =>
      cases partsM a with
      | none => rfl
      | some q => cases partsM b <;> rfl
theorem parts_next {xs : List (List UInt8)} {k : Nat} {ps : List (Int × Int)} {q : Int × Int} (hk : k < xs.length) (h : partsM (xs.take k) = some ps) (hq : partM (xs.getD k []) = some q) : partsM (xs.take (k + 1)) = some (ps ++ [q]) := by
  rw [List.getD_eq_getElem?_getD, List.getElem?_eq_getElem hk, Option.getD_some] at hq
  rw [List.take_succ_eq_append_getElem hk, partsM_app, h]
  simp [partsM, hq]
theorem parts_no {xs : List (List UInt8)} {k : Nat} {ps : List (Int × Int)} (hk : k < xs.length) (h : partsM (xs.take k) = some ps) (hq : partM (xs.getD k []) = none) : partsM xs = none := by
  rw [List.getD_eq_getElem?_getD, List.getElem?_eq_getElem hk, Option.getD_some] at hq
  have e : xs = xs.take k ++ (xs[k] :: xs.drop (k + 1)) := by rw [← List.drop_eq_getElem_cons hk, List.take_append_drop]
  rw [e, partsM_app, h]
  simp [partsM, hq]
theorem partsM_len : ∀ (xs : List (List UInt8)) (ps : List (Int × Int)), partsM xs = some ps → ps.length = xs.length
  | [], ps, h => by simp [partsM] at h; simp [← h]
  | x :: xs, ps, h => by
    simp only [partsM] at h
    cases hx : partM x with
    | none => rw [hx] at h; cases h
    | some p =>
      cases hq : partsM xs with
      | none => rw [hx, hq] at h; cases h
      | some q =>
        rw [hx, hq] at h
        simp only [Option.bind_some, Option.map_some, Option.some.injEq] at h
        rw [← h, List.length_cons, List.length_cons, partsM_len xs q hq]
theorem part_few {p : List UInt8} (h : (wordsM p).length ≠ 2) : partM p = none := by
  unfold partM
  split
  · rename_i a b e; rw [e] at h; exact absurd rfl h
  · rfl
theorem part_two {p a b : List UInt8} (h : wordsM p = [a, b]) : partM p = (fullC a).bind fun x => (fullC b).map fun y => (x, y) := by unfold partM; rw [h]
/-- What l8Points answers. -/
def PtsP (l : List UInt8) (w : World) (e : Ending) (w' : World) : Prop :=
  (pointsM l = none ∧ e = .returned (.tuple #[.slice none 0 0, .bool false]) ∧ Kept [] w w') ∨
  ∃ ps v, pointsM l = some ps ∧ ps.length ≤ 2000000 ∧ e = .returned (.tuple #[v, .bool true]) ∧ OwP w.heap.size w' v ps ∧ Kept [] w w'
/-- A point more at the end of an empty slice without room: in memory made now. -/
theorem appP0 {w : World} {ops : Array Oper} {rest : List Oper} {o : Oper} {a : Act} {Q : Exit → Act → World → Prop} (hgd : o.guard = none) (s x : Operand)
    (ho : o.op = .call { callee := .builtin .append, args := #[s, x], argTypes := #[24, 24] })
    (b0 : Nat) (hs : a.eval s = .slice (some ⟨b0, 0, none⟩) 0 0)
    (g0 : Nat) (u y : Int) (hx : a.eval x = .slice (some ⟨g0, 0, none⟩) 1 1) (hc : w.cell? ⟨g0, 0, none⟩ = some (.int .i64 u)) (hd : w.cell? ⟨g0, 1, none⟩ = some (.int .i64 y))
    (h : ∀ v' w', OwP w.heap.size w' v' [(u, y)] → Kept [] w w' → wpList Tryz.prog ops Q rest (a.put o.dst v') w') :
    wpList Tryz.prog ops Q (o :: rest) a w := by
  obtain ⟨i0, hi, hz0, hz1, hz2⟩ := info_parts Tryz.infoPt
  refine wpList_append_grows w hgd s x 24 ho 44 i0 (.agg #[.int .i64 0, .int .i64 0]) 2 16 Tryz.underlying24 hi hz0 hz1 hz2 rfl (by decide) (some ⟨b0, 0, none⟩) 0 0 [] hs (by simp) rfl (by intro b _ j u hj; simp at hj) ⟨g0, 0, none⟩ 1 1 [.int .i64 u, .int .i64 y] hx rfl ?_ ?_ (by decide) (by decide) (by decide) ?_
  · intro j z hj
    have hj0 : j < 2 := by
      have := (List.getElem?_eq_some_iff.1 hj).1
      simpa using this
    rcases (by omega : j = 0 ∨ j = 1) with rfl | rfl
    · simp at hj
      subst hj
      rw [Addr.add_lit]; exact hc
    · simp at hj
      subst hj
      rw [Addr.add_lit]; exact hd
  · intro z hz
    simp at hz
    rcases hz with rfl | rfl <;> rfl
  · intro v' w' h1 h2
    exact h v' w' h1 ((Kept.refl [] w).grown h2 (fun k hk _ => by cases hk))

theorem part_case {p a b : List UInt8} (h : partM p = (fullC a).bind fun x => (fullC b).map fun y => (x, y)) : (rcC a = 0 ∧ rcC b = 0 ∧ partM p = some (rcV a, rcV b)) ∨ (rcC a ≠ 0 ∧ partM p = none) ∨ (rcC a = 0 ∧ rcC b ≠ 0 ∧ partM p = none) := by
  cases ha : fullC a with
  | none => exact .inr (.inl ⟨by rw [(rc_no ha).1]; decide, by rw [h, ha]; rfl⟩)
  | some x =>
    cases hb : fullC b with
    | none => exact .inr (.inr ⟨(rc_yes ha).1, by rw [(rc_no hb).1]; decide, by rw [h, ha, hb]; rfl⟩)
    | some y => exact .inl ⟨(rc_yes ha).1, (rc_yes hb).1, by rw [h, ha, hb, (rc_yes ha).2, (rc_yes hb).2]; rfl⟩

set_option maxHeartbeats 1000000 in
theorem l8Points_any (l : List UInt8) (w : World) (hl : l.length ≤ 1500000) :
    Calls Tryz.prog 61 #[.string (strB l)] w (PtsP l w) := by
  obtain ⟨B, hB⟩ : ∃ B, B = w.heap.size := ⟨_, rfl⟩
  have HB := Lib.hid hB
  clear hB
  go_enter Tryz.func61, Tryz.ntmps61
  go_wp2_with fail
  refine (l1Cut_any l 44 _ hl).mono ?_
  rintro e w1 ⟨v, rfl, ho, k1⟩
  have hpos : 0 < (cutL 44 l).length := List.length_pos_iff.2 (cutL_ne 44 l)
  obtain ⟨g, c, rfl, hc1, hc2, hgB, hgl, hcell⟩ := ho.form hpos
  have hml := Lib.hid (fun k (hk : k < (cutL 44 l).length) => cutL_mem (c := 44) l ((cutL 44 l).getD k []) (by rw [List.getD_eq_getElem?_getD, List.getElem?_eq_getElem hk, Option.getD_some]; exact List.getElem_mem hk))
  obtain ⟨N, hN⟩ : ∃ N, (cutL 44 l).length = N := ⟨_, rfl⟩
  have hNl := cutL_len 44 l
  rw [hN] at hc1 hcell hpos hNl hml ⊢
  have HN := Lib.hid hN
  have HC := Lib.hid hcell
  have K1 := Lib.hid k1
  clear ho k1 hN hcell
  obtain ⟨M, hM⟩ : ∃ M, M = w1.heap.size := ⟨_, rfl⟩
  have HM := Lib.hid hM
  have hgM : g < M := by omega
  have hwM : w.heap.size < M := by have := K1.out.size; simp at this; omega
  clear hM
  go_wp2_with fail
  go_loopw [4, 6] (fun o i wr => ∃ (k : Nat) (ps : List (Int × Int)), i = .int .i64 k ∧ k ≤ N ∧ Hid (partsM ((cutL 44 l).take k) = some ps) ∧ ps.length = k ∧ Hid (OwP B wr o ps) ∧ Hid ((o = .slice (some ⟨w.heap.size, 0, none⟩) 0 0 ∧ ps = []) ∨ OwP M wr o ps) ∧ Hid (M ≤ wr.heap.size) ∧ Hid (Kept [] w wr) ∧ Hid (∀ (i : Nat), i < N → wr.cell? ⟨g, i, none⟩ = some (strV ((cutL 44 l).getD i [])))) (fun _ i _ => N - (intOf i).toNat)
  case atStart => exact ⟨0, [], rfl, Nat.zero_le _, rfl, rfl, (OwP.empty rfl (by have := HB.out; omega)).kept0 K1.out, .inl ⟨rfl, rfl⟩, Nat.le_of_eq HM.out, K1.out.peel, HC.out⟩
  case round =>
    obtain ⟨k, ps, rfl, hk, hP, hpk, hO, hO2, hMw, hK, hCc⟩ := hrel
    by_cases hlt : k < N
    · have hlt' : (k : Int) < N := by omega
      have hk0 : (0 : Int) ≤ k := by omega
      have hkl : k < (cutL 44 l).length := by have := HN.out; omega
      have hcell := hCc.out k hlt
      have hpl := hml.out k hlt
      have hyes := Lib.hid (fun q => parts_next (q := q) hkl hP.out)
      have hno := Lib.hid (parts_no hkl hP.out)
      generalize (cutL 44 l).getD k [] = p at *
      have hcs : wr.cell? ⟨g, k, none⟩ = some (.string (strB p)) := hcell
      clear hcell hkl
      go_wp2_with fail
      refine (l8Words_any p _ (by omega)).mono ?_
      rintro e w2 ⟨v2, rfl, ho2, k2⟩
      have K2 := Lib.hid k2
      clear k2
      by_cases h2 : (wordsM p).length = 2
      · obtain ⟨a, b, hab⟩ : ∃ a b, wordsM p = [a, b] := by
          rcases hw : wordsM p with _ | ⟨a, _ | ⟨b, _ | ⟨c, d⟩⟩⟩
          · rw [hw] at h2; simp at h2
          · rw [hw] at h2; simp at h2
          · exact ⟨a, b, rfl⟩
          · rw [hw] at h2; simp at h2
        have hla := words_mem (l := p) (x := a) (by rw [hab]; simp)
        have hlb := words_mem (l := p) (x := b) (by rw [hab]; simp)
        have hpm := Lib.hid (part_two hab)
        rw [hab] at ho2
        obtain ⟨g2, c2, hv2, hd1, hd2, _, _, hcell2⟩ := ho2.form (by simp)
        have d0 := hcell2 0 (by simp)
        have d1 := hcell2 1 (by simp)
        have d0 : w2.cell? ⟨g2, 0, none⟩ = some (.string (strB a)) := d0
        have d1 : w2.cell? ⟨g2, 1, none⟩ = some (.string (strB b)) := d1
        have hv2 : v2 = .slice (some ⟨g2, 0, none⟩) 2 c2 := hv2
        subst hv2
        clear hcell2 ho2 hab h2
        go_wp2_with fail
        refine (sReadCoord_any a _ (by omega)).mono ?_
        rintro e w3 ⟨rfl, k3⟩
        have kb : Kept [] w3 (w3.alloc (.cells #[.int .i64 (rcC a), .int .i64 (rcV a)] 123)) := (Kept.refl [] w3).alloc _
        have KB := Lib.hid kb
        have d1 := (k3.trans0 kb).cell d1 (by simp)
        have x0 := ((Kept.refl [] (w3.alloc (.cells #[.int .i64 (rcC a), .int .i64 (rcV a)] 123))).top (g := w3.heap.size) rfl (by simp) 0 (v := .int .i64 (rcC a)) rfl).1
        have x1 := ((Kept.refl [] (w3.alloc (.cells #[.int .i64 (rcC a), .int .i64 (rcV a)] 123))).top (g := w3.heap.size) rfl (by simp) 1 (v := .int .i64 (rcV a)) rfl).1
        have K3 := Lib.hid ((K2.out.trans0 k3).trans0 kb)
        clear k3 kb
        go_wp2_with fail
        refine (sReadCoord_any b _ (by omega)).mono ?_
        rintro e w4 ⟨rfl, k4⟩
        have kb4 : Kept [] w4 (w4.alloc (.cells #[.int .i64 (rcC b), .int .i64 (rcV b)] 123)) := (Kept.refl [] w4).alloc _
        have x0 := (k4.trans0 kb4).cell x0 (by simp)
        have x1 := (k4.trans0 kb4).cell x1 (by simp)
        have y0 := ((Kept.refl [] (w4.alloc (.cells #[.int .i64 (rcC b), .int .i64 (rcV b)] 123))).top (g := w4.heap.size) rfl (by simp) 0 (v := .int .i64 (rcC b)) rfl).1
        have y1 := ((Kept.refl [] (w4.alloc (.cells #[.int .i64 (rcC b), .int .i64 (rcV b)] 123))).top (g := w4.heap.size) rfl (by simp) 1 (v := .int .i64 (rcV b)) rfl).1
        have K4 := Lib.hid ((K3.out.trans0 k4).trans0 kb4)
        have hcase := part_case hpm.out
        clear k4 kb4 KB d1
        generalize rcC a = ca at *
        generalize rcC b = cb at *
        generalize rcV a = va at *
        generalize rcV b = vb at *
        rcases hcase with ⟨rfl, rfl, hq⟩ | ⟨hne, hq⟩ | ⟨rfl, hne, hq⟩
        · have HY := Lib.hid (hyes.out _ hq)
          clear hq hpm hyes hno
          have O4 := Lib.hid (hO.out.kept0 K4.out)
          have M4 : Hid (M ≤ w4.heap.size + 1) := by have h1 := hMw.out; have h2 := K4.out.size; simp at h2; show _ ≤ _; omega
          have C4 : Hid (∀ (i : Nat), i < N → (w4.alloc (.cells #[.int .i64 0, .int .i64 vb] 123)).cell? ⟨g, i, none⟩ = some (strV ((cutL 44 l).getD i []))) := fun i hi => K4.out.cell (hCc.out i hi) (by simp)
          have KK := Lib.hid (hK.out.trans0 K4.out)
          have ka : Kept [] (w4.alloc (.cells #[.int .i64 0, .int .i64 vb] 123)) ((w4.alloc (.cells #[.int .i64 0, .int .i64 vb] 123)).alloc (.cells #[.int .i64 va, .int .i64 vb] 44)) := (Kept.refl [] (w4.alloc (.cells #[.int .i64 0, .int .i64 vb] 123))).alloc _
          have KA := Lib.hid ka
          clear ka
          rcases hO2.out with ⟨rfl, h0⟩ | hO3
          · clear hO2 hO hP
            go_wp2_with (at_builtin; refine appP0 rfl _ _ rfl w.heap.size rfl (w4.heap.size + 1) va vb rfl (by first | exact World.cell?_alloc_new _ _ _ | (simp; done)) (by simp; done) ?_)
            rintro v' w' h1 h2
            have K5 := Lib.hid (KA.out.trans0 h2)
            have H1 := Lib.hid h1
            clear h1 h2
            go_wp2_with fail
            go_roundw
            case rel =>
              have hO5 : OwP M w' v' (ps ++ [(va, vb)]) := by
                rw [h0]; exact H1.out.mono (by have := M4.out; simp; omega)
              exact ⟨k + 1, ps ++ [(va, vb)], by go_num, by omega, HY.out, by simp [hpk], hO5.mono (by have := HB.out; omega), .inr hO5, by have h1 := M4.out; have h2 := K5.out.size; simp only [World.size_alloc] at h2; show _ ≤ _; omega, KK.out.trans0 K5.out, fun i hi => K5.out.cell (C4.out i hi) (by simp)⟩
            case measure => simp [intOf] <;> omega
          · have HO3 := Lib.hid (hO3.kept0 K4.out)
            clear hO3 hO2 hO hP
            go_wp2_with (at_builtin; refine appP rfl _ _ rfl M _ ps rfl (HO3.out.alloc _) (w4.heap.size + 1) va vb rfl (by first | exact World.cell?_alloc_new _ _ _ | (simp; done)) (by simp; done) (by omega) (by have := M4.out; simp; omega) ?_)
            rintro v' w' h1 h2
            have hgn : ∀ q, u4.ownBlock = some q → q ≠ g := fun q hq => by have := HO3.out.lt hq; omega
            have kk := kept_ownP h2
            have K5 := Lib.hid (OwP.grown (KK.out.alloc (.cells #[.int .i64 va, .int .i64 vb] 44)) (HO3.out.alloc (.cells #[.int .i64 va, .int .i64 vb] 44)) (by omega) h2)
            have C5 : Hid (∀ (i : Nat), i < N → w'.cell? ⟨g, i, none⟩ = some (strV ((cutL 44 l).getD i []))) := fun i hi => kk.cell (KA.out.cell (C4.out i hi) (by simp)) (by
              intro hm
              have hm : u4.ownBlock = some g := by simpa using hm
              exact hgn g hm rfl)
            have hs2 := kk.size
            simp only [World.size_alloc] at hs2
            have HS2 := Lib.hid hs2
            have H1 := Lib.hid h1
            clear h1 h2 kk hs2
            go_wp2_with fail
            go_roundw
            case rel =>
              exact ⟨k + 1, ps ++ [(va, vb)], by go_num, by omega, HY.out, by simp [hpk], H1.out.mono (by have := HB.out; omega), .inr H1.out, by have h1 := M4.out; have h2 := HS2.out; show _ ≤ _; omega, K5.out, C5.out⟩
            case measure => simp [intOf] <;> omega
        · have HNO := Lib.hid (hno.out hq)
          have hn1 : (ca == 0) = false := by rw [beq_eq_false_iff_ne]; exact hne
          clear hq hpm hyes hno
          go_wp2_with fail
          go_ret2
          exact .inl ⟨HNO.out, rfl, hK.out.trans0 K4.out⟩
        · have HNO := Lib.hid (hno.out hq)
          have hn1 : (cb == 0) = false := by rw [beq_eq_false_iff_ne]; exact hne
          clear hq hpm hyes hno
          go_wp2_with fail
          go_ret2
          exact .inl ⟨HNO.out, rfl, hK.out.trans0 K4.out⟩
      · have HNO := Lib.hid (hno.out (part_few h2))
        obtain ⟨v2', c2', hv2⟩ : ∃ a c, v2 = .slice a (wordsM p).length c := by
          rcases ho2.2 with ⟨e1, e2⟩ | ⟨g', cap, cur, e1, _⟩
          · exact ⟨none, 0, by rw [e2]; exact e1⟩
          · exact ⟨_, _, e1⟩
        subst hv2
        obtain ⟨L, hL⟩ : ∃ L, (wordsM p).length = L := ⟨_, rfl⟩
        rw [hL] at h2 ⊢
        have h2' : ¬ (L : Int) = 2 := by omega
        have h2'' : ((L : Int) == 2) = false := by rw [beq_eq_false_iff_ne]; exact h2'
        clear hL ho2
        go_wp2_with fail
        go_ret2
        exact .inl ⟨HNO.out, rfl, hK.out.trans0 K2.out⟩
    · obtain rfl : k = N := by omega
      have hv : Hid (pointsM l = some ps) := by
        have := hP.out
        rw [← HN.out, List.take_length] at this; exact this
      have hpl : ps.length ≤ 2000000 := by omega
      have HO5 := Lib.hid (hO.out.mono (Nat.le_of_eq HB.out.symm))
      obtain ⟨a5, c5, hu4⟩ := hO.out.sl
      subst hu4
      clear hO hO2
      go_wp2_with fail
      go_ret2
      exact .inr ⟨ps, _, hv.out, hpl, rfl, HO5.out, hK.out⟩

end Go.Proofs.YtlhiahhpmjiioadGreatDoor
