/-
  Contracts of the model's l1Cut and l8Number. Condition: the text is no longer than a million and a half.
-/
import Derived.Test.YtlhiahhpmjiioadGreatDoorStrS
import Derived.Test.YtlhiahhpmjiioadGreatDoorRdP
namespace Go.Proofs.YtlhiahhpmjiioadGreatDoor
open Go.RowKit

theorem strB_mid (l : List UInt8) {S : ByteArray} (h : S.data.toList = l) (k j : Nat) : S.extract k j = strB ((l.drop k).take (j - k)) := by
  subst h
  have := Lib.extract_mk S.data.toList k j
  exact this

/-- What l1Cut holds when it is at place j, the last piece begun at k. -/
def CutAt (c : UInt8) (l : List UInt8) (ts : List (List UInt8)) (k j : Nat) : Prop :=
  (j ≤ l.length ∧ k ≤ j ∧ cutL c l = ts ++ preL ((l.drop k).take (j - k)) (cutL c (l.drop j))) ∨ (j = l.length + 1 ∧ ts = cutL c l)
theorem cutAt_start (c : UInt8) (l : List UInt8) : CutAt c l [] 0 0 := .inl ⟨by omega, by omega, by simp [preL_nil _ (cutL_ne c l)]⟩
theorem drop_at {l : List UInt8} {j : Nat} {b : UInt8} (h : l[j]? = some b) : l.drop j = b :: l.drop (j + 1) := by
  obtain ⟨hj, he⟩ := List.getElem?_eq_some_iff.1 h
  rw [List.drop_eq_getElem_cons hj, he]
theorem cutAt_end {c : UInt8} {l : List UInt8} {ts : List (List UInt8)} {k : Nat} (h : CutAt c l ts k l.length) : CutAt c l (ts ++ [(l.drop k).take (l.length - k)]) (l.length + 1) (l.length + 1) := by
  rcases h with ⟨_, _, h⟩ | ⟨h, _⟩
  · refine .inr ⟨rfl, ?_⟩
    rw [h, List.drop_length]; simp [cutL, preL]
  · omega
theorem cutAt_cut {c : UInt8} {l : List UInt8} {ts : List (List UInt8)} {k j : Nat} (h : CutAt c l ts k j) (hb : l[j]? = some c) : CutAt c l (ts ++ [(l.drop k).take (j - k)]) (j + 1) (j + 1) := by
  have hj := (List.getElem?_eq_some_iff.1 hb).1
  rcases h with ⟨_, _, h⟩ | ⟨h, _⟩
  · refine .inl ⟨by omega, by omega, ?_⟩
    rw [h, drop_at hb, Nat.sub_self, List.take_zero, preL_nil _ (cutL_ne c _)]
    simp [cutL, preL]
  · omega
theorem cutAt_on {c b : UInt8} {l : List UInt8} {ts : List (List UInt8)} {k j : Nat} (h : CutAt c l ts k j) (hb : l[j]? = some b) (hn : b ≠ c) : CutAt c l ts k (j + 1) := by
  have hj := (List.getElem?_eq_some_iff.1 hb).1
  rcases h with ⟨_, hk, h⟩ | ⟨h, _⟩
  · refine .inl ⟨by omega, by omega, ?_⟩
    rw [h, drop_at hb, cutL_cons c b _ hn, preL_pre _ _ _ (cutL_ne c _)]
    congr 2
    rw [show j + 1 - k = (j - k) + 1 by omega]
    have hb2 : (l.drop k)[j - k]? = some b := by rw [List.getElem?_drop, show k + (j - k) = j by omega]; exact hb
    obtain ⟨h1, h2⟩ := List.getElem?_eq_some_iff.1 hb2
    rw [List.take_succ_eq_append_getElem h1, h2]
  · omega
theorem cutAt_in {c : UInt8} {l : List UInt8} {ts : List (List UInt8)} {k j : Nat} (h : CutAt c l ts k j) (hj : j ≤ l.length) : k ≤ j := by
  rcases h with ⟨_, hk, _⟩ | ⟨h, _⟩
  · exact hk
  · omega
theorem cutAt_done {c : UInt8} {l : List UInt8} {ts : List (List UInt8)} {k j : Nat} (h : CutAt c l ts k j) (hj : ¬ j ≤ l.length) : ts = cutL c l := by
  rcases h with ⟨h, _, _⟩ | ⟨_, h⟩
  · exact absurd h hj
  · exact h
theorem preL_len (p : List UInt8) (x : List (List UInt8)) : x.length ≤ (preL p x).length := by
  cases x with
  | nil => simp [preL]
  | cons y ys => simp [preL]
theorem cutL_len (c : UInt8) : ∀ l, (cutL c l).length ≤ l.length + 1
  | [] => by simp [cutL]
  | b :: l => by
    have := cutL_len c l
    simp only [cutL]
    split
    · simp; omega
    · split
      · simp
      · rename_i h; rw [h] at this; simp at this ⊢; omega
theorem cutAt_len {c : UInt8} {l : List UInt8} {ts : List (List UInt8)} {k j : Nat} (h : CutAt c l ts k j) : ts.length ≤ l.length + 1 := by
  have h1 := cutL_len c l
  rcases h with ⟨_, _, h⟩ | ⟨_, h⟩
  · rw [h, List.length_append] at h1; omega
  · rw [h]; exact h1

set_option maxHeartbeats 1000000 in
theorem l1Cut_any (l : List UInt8) (c : UInt8) (w : World) (hl : l.length ≤ 1500000) :
    Calls Tryz.prog 80 #[.string (strB l), .int .u8 (c.toNat : Int)] w (fun e w' => ∃ v, e = .returned v ∧ OwS w.heap.size w' v (cutL c l) ∧ Kept [] w w') := by
  obtain ⟨S, hS⟩ : ∃ S, strB l = S := ⟨_, rfl⟩
  have hsz : S.size = l.length := by rw [← hS, strB_size]
  have hbs : Hid (S.data.toList = l) := by show _ = _; rw [← hS]; rfl
  have hSz : S.size ≤ 1500000 := by omega
  have HSZ := Lib.hid hsz
  obtain ⟨B, hB⟩ : ∃ B, B = w.heap.size := ⟨_, rfl⟩
  have HB := Lib.hid hB
  rw [hS, ← hB]
  clear hsz hS hB
  go_enter Tryz.func80, Tryz.ntmps80
  go_wp2_with fail
  go_loopw [5, 6, 7] (fun o f i wr => ∃ (ts : List (List UInt8)) (k j : Nat), f = .int .i64 k ∧ i = .int .i64 j ∧ Hid (j ≤ l.length + 1) ∧ Hid (CutAt c l ts k j) ∧ Hid (OwS B wr o ts) ∧ Hid (Kept [] w wr)) (fun _ _ i _ => S.size + 1 - (intOf i).toNat)
  case atStart => exact ⟨[], 0, 0, rfl, rfl, Nat.zero_le _, cutAt_start c l, OwS.empty rfl (by have := HB.out; omega), (Kept.refl _ _).alloc _⟩
  case round =>
    obtain ⟨ts, k, j, rfl, rfl, hj, hC, hO, hK⟩ := hrel
    by_cases hjl : j ≤ S.size
    · have hk := cutAt_in hC.out (by have := HSZ.out; omega)
      have hjl' : (j : Int) ≤ S.size := by omega
      have hk' : (k : Int) ≤ j := by omega
      have hk0 : (0 : Int) ≤ k := by omega
      have e1 : IntKind.i64.wrap ((j : Int) + 1) = (j : Int) + 1 := IntWalk.i64_in _ (by omega)
      have hP := strB_mid l hbs.out k j
      have hts := cutAt_len hC.out
      by_cases hje : j = S.size
      · have hN := Lib.hid (cutAt_end (by have := hC.out; rw [show j = l.length by have := HSZ.out; omega] at this; exact this))
        obtain ⟨p, hp⟩ : ∃ p, (l.drop k).take (j - k) = p := ⟨_, rfl⟩
        have hN2 : Hid (CutAt c l (ts ++ [p]) (j + 1) (j + 1)) := by
          have := hN.out
          rw [← show j = l.length by have := HSZ.out; omega, hp] at this; exact this
        rw [hp] at hP
        have hlen := Lib.hid hts
        clear hN hp hts hj hC hjl hjl'
        subst hje
        go_wp2_with (at_builtin; refine appStr rfl _ _ rfl B _ ts rfl (hO.out.alloc _) wr.heap.size p rfl (by first | exact World.cell?_alloc_new _ _ _ | (simp; rfl)) (by have := hlen.out; omega) (by have := HB.out; have := hK.out.size; simp; omega) ?_)
        rintro v' w' h1 h2
        have K2 := Lib.hid (OwS.grown (hK.out.alloc (.cells #[strV p] 9)) (hO.out.alloc (.cells #[strV p] 9)) (by have := HB.out; omega) h2)
        have H1 := Lib.hid h1
        clear h1 h2
        go_wp2_with fail
        go_roundw
        case rel => exact ⟨ts ++ [p], S.size + 1, S.size + 1, by go_num, by go_num, by have := HSZ.out; show _ ≤ _; omega, hN2.out, H1.out, K2.out⟩
        case measure => simp [intOf] <;> omega
      · have hjlt : j < S.size := by omega
        have hjlt' : (j : Int) < S.size := by omega
        have hjn : ¬ (j : Int) = S.size := by omega
        have hjn2 : ((j : Int) == (S.size : Int)) = false := by rw [beq_eq_false_iff_ne]; exact hjn
        have hb := byte_at hbs.out hjlt
        generalize hBy : S[j] = b at hb
        have HBy := Lib.hid hb
        clear hb
        by_cases hbc : b = c
        · subst hbc
          have hN := Lib.hid (cutAt_cut hC.out HBy.out)
          obtain ⟨p, hp⟩ : ∃ p, (l.drop k).take (j - k) = p := ⟨_, rfl⟩
          rw [hp] at hP hN
          have hlen := Lib.hid hts
          have hJ := Lib.hid hj
          clear hp hts hC hje
          go_wp2_with (at_builtin; refine appStr rfl _ _ rfl B _ ts rfl (hO.out.alloc _) wr.heap.size p rfl (by first | exact World.cell?_alloc_new _ _ _ | (simp; rfl)) (by have := hlen.out; omega) (by have := HB.out; have := hK.out.size; simp; omega) ?_)
          rintro v' w' h1 h2
          have K2 := Lib.hid (OwS.grown (hK.out.alloc (.cells #[strV p] 9)) (hO.out.alloc (.cells #[strV p] 9)) (by have := HB.out; omega) h2)
          have H1 := Lib.hid h1
          clear h1 h2
          go_wp2_with fail
          go_roundw
          case rel => exact ⟨ts ++ [p], j + 1, j + 1, by go_num, by go_num, by have := HSZ.out; show _ ≤ _; omega, hN.out, H1.out, K2.out⟩
          case measure => simp [intOf] <;> omega
        · have hN := Lib.hid (cutAt_on hC.out HBy.out hbc)
          have hbn : ((b.toNat : Int) == (c.toNat : Int)) = false := by
            rw [beq_eq_false_iff_ne]; intro e
            exact hbc (UInt8.toNat_inj.1 (by omega))
          have hbn2 : ¬ (b.toNat : Int) = (c.toNat : Int) := by
            intro e
            exact hbc (UInt8.toNat_inj.1 (by omega))
          clear hts hC hje hbc hP
          go_wp2_with fail
          go_roundw
          case rel => exact ⟨ts, k, j + 1, by go_num, by go_num, by have := HSZ.out; show _ ≤ _; omega, hN.out, hO.out, hK.out⟩
          case measure => simp [intOf] <;> omega
    · have hd := cutAt_done hC.out (by have := HSZ.out; omega)
      have hjl' : ¬ (j : Int) ≤ S.size := by omega
      subst hd
      go_wp2_with fail
      go_ret
      exact ⟨_, rfl, hO.out, hK.out⟩

/-- What l8Number answers. -/
def numM (m : Nat) (l : List UInt8) : Int := if okNum m l = true then (numL l : Int) else -1
theorem numM_no {m : Nat} {l : List UInt8} (h : okNum m l = false) : numM m l = -1 := by unfold numM; rw [h]; rfl
theorem numM_yes {m : Nat} {l : List UInt8} (h : okNum m l = true) : numM m l = numL l := by unfold numM; rw [h]; rfl
theorem okNum_len {m : Nat} {l : List UInt8} (h : l.length < 1 ∨ m < l.length) : okNum m l = false := by
  cases ho : okNum m l with
  | false => rfl
  | true => have := okNum_iff.1 ho; omega
theorem okNum_bad {m k : Nat} {l : List UInt8} {b : UInt8} (hb : l[k]? = some b) (hd : isD b = false) : okNum m l = false := by
  cases ho : okNum m l with
  | false => rfl
  | true =>
    have := (okNum_iff.1 ho).2.2 b (List.mem_of_getElem? hb)
    rw [hd] at this; cases this
/-- The digits up to place k are digits; their number. -/
def NumAt (l : List UInt8) (k : Nat) (n : Nat) : Prop := k ≤ l.length ∧ (∀ b ∈ l.take k, isD b = true) ∧ n = numL (l.take k)
theorem numAt_step {l : List UInt8} {k n : Nat} {b : UInt8} (h : NumAt l k n) (hb : l[k]? = some b) (hd : isD b = true) : NumAt l (k + 1) (n * 10 + (b.toNat - 48)) := by
  obtain ⟨h1, h2⟩ := List.getElem?_eq_some_iff.1 hb
  have e : l.take (k + 1) = l.take k ++ [b] := by rw [List.take_succ_eq_append_getElem h1, h2]
  refine ⟨by omega, ?_, ?_⟩
  · intro x hx
    rw [e] at hx
    rcases List.mem_append.1 hx with hx | hx
    · exact h.2.1 x hx
    · simp at hx; subst hx; exact hd
  · rw [e, h.2.2]
    show _ = numA 0 _
    rw [numA_app]; rfl
theorem numAt_lt {l : List UInt8} {k n m : Nat} (h : NumAt l k n) (hk : k ≤ m) : n < 10 ^ m := by
  rw [h.2.2]
  exact numL_lt h.2.1 (by rw [List.length_take]; omega)
theorem numAt_all {l : List UInt8} {k n m : Nat} (h : NumAt l k n) (hk : k = l.length) (h1 : 1 ≤ l.length) (hm : l.length ≤ m) : okNum m l = true ∧ numL l = n := by
  subst hk
  have e : l.take l.length = l := List.take_of_length_le (Nat.le_refl _)
  have h2 := h.2.1
  have h3 := h.2.2
  rw [e] at h2 h3
  exact ⟨okNum_iff.2 ⟨h1, hm, h2⟩, h3.symm⟩

set_option maxHeartbeats 1000000 in
theorem l8Number_any (l : List UInt8) (m : Nat) (w : World) (hl : l.length ≤ 1500000) (hm : m ≤ 16) :
    Calls Tryz.prog 106 #[.string (strB l), .int .i64 (m : Int)] w (Ans w (.int .i64 (numM m l))) := by
  obtain ⟨S, hS⟩ : ∃ S, strB l = S := ⟨_, rfl⟩
  have hsz : S.size = l.length := by rw [← hS, strB_size]
  have hbs : Hid (S.data.toList = l) := by show _ = _; rw [← hS]; rfl
  have hSz : S.size ≤ 1500000 := by omega
  rw [hS]
  by_cases hb0 : S.size < 1
  · have hv := Lib.hid (numM_no (okNum_len (m := m) (l := l) (by omega)))
    have hb1 : decide ((S.size : Int) < 1) = true := decide_eq_true (by omega)
    have hb2 : (S.size : Int) < 1 := by omega
    clear hsz hS
    go_enter Tryz.func106, Tryz.ntmps106
    go_wp2_with fail
    go_ret
    exact ⟨by rw [hv.out]; rfl, Kept.refl _ _⟩
  by_cases hbm : m < S.size
  · have hv := Lib.hid (numM_no (okNum_len (m := m) (l := l) (by omega)))
    have hb2 : ¬ (S.size : Int) < 1 := by omega
    have hb3 : (m : Int) < S.size := by omega
    clear hsz hS
    go_enter Tryz.func106, Tryz.ntmps106
    go_wp2_with fail
    go_ret
    exact ⟨by rw [hv.out]; rfl, Kept.refl _ _⟩
  have hb2 : ¬ (S.size : Int) < 1 := by omega
  have hb3 : ¬ (m : Int) < S.size := by omega
  have hs16 : S.size ≤ 16 := by omega
  have HSZ := Lib.hid (And.intro hsz (And.intro (show 1 ≤ S.size by omega) (show S.size ≤ m by omega)))
  clear hsz hS
  go_enter Tryz.func106, Tryz.ntmps106
  go_wp2_with fail
  go_loopw [5, 6] (fun n i wr => ∃ (u k : Nat), n = .int .i64 u ∧ i = .int .i64 k ∧ Hid (NumAt l k u) ∧ wr = w) (fun _ i _ => S.size - (intOf i).toNat)
  case atStart => exact ⟨0, 0, rfl, rfl, ⟨Nat.zero_le _, by simp, rfl⟩, rfl⟩
  case round =>
    obtain ⟨u, k, rfl, rfl, hN, rfl⟩ := hrel
    by_cases hk : k < S.size
    · have hk' : (k : Int) < S.size := by omega
      have hk0 : (0 : Int) ≤ k := by omega
      have hb := byte_at hbs.out hk
      generalize hBy : S[k] = b at hb
      have HBy := Lib.hid hb
      have hb256 := b.toNat_lt
      clear hb
      by_cases hd : isD b = true
      · have hd2 := isD_iff.1 hd
        have hN2 := Lib.hid (numAt_step hN.out HBy.out hd)
        have hu : u < 10 ^ 16 := numAt_lt hN.out (by omega)
        obtain ⟨x, hx⟩ : ∃ x : Nat, x = b.toNat := ⟨_, rfl⟩
        rw [← hx] at hb256 hd2 hN2
        have d1 : ¬ ((x : Int) < 48) := by omega
        have d2 : ¬ (57 : Int) < x := by omega
        have e1 : IntKind.u8.wrap ((x : Int) - 48) = (x : Int) - 48 := IntWalk.u8_in _ (by omega)
        have e2 : IntKind.i64.wrap ((x : Int) - 48) = (x : Int) - 48 := IntWalk.i64_in _ (by omega)
        have e3 : IntKind.i64.wrap ((u : Int) * 10) = (u : Int) * 10 := IntWalk.i64_in _ (by omega)
        have e4 : IntKind.i64.wrap ((u : Int) * 10 + ((x : Int) - 48)) = ((u * 10 + (x - 48) : Nat) : Int) := by rw [IntWalk.i64_in _ (by omega)]; omega
        have e5 : (u : Int) * 10 + ((x : Int) - 48) = ((u * 10 + (x - 48) : Nat) : Int) := by omega
        have HX := Lib.hid hx
        have hbx : b.toNat = x := hx.symm
        clear hN hd hx
        go_wp2_with fail
        go_roundw
        case rel => exact ⟨u * 10 + (x - 48), k + 1, congrArg (Value.int .i64) (by omega), by go_num, hN2.out, trivial⟩
        case measure => simp [intOf] <;> omega
      · have hd' : isD b = false := by simpa using hd
        have hv := Lib.hid (numM_no (okNum_bad (m := m) HBy.out hd'))
        have hd2 : ¬ (48 ≤ b.toNat ∧ b.toNat ≤ 57) := fun x => hd (isD_iff.2 x)
        obtain ⟨x, hx⟩ : ∃ x : Nat, x = b.toNat := ⟨_, rfl⟩
        have hbx : b.toNat = x := hx.symm
        rw [← hx] at hb256 hd2
        by_cases h48 : x < 48
        · have d1 : (x : Int) < 48 := by omega
          clear hN hd hx hd2
          go_wp2_with fail
          go_ret
          exact ⟨by rw [hv.out]; rfl, Kept.refl _ _⟩
        · have d1 : ¬ (x : Int) < 48 := by omega
          have d2 : (57 : Int) < x := by omega
          clear hN hd hx hd2
          go_wp2_with fail
          go_ret
          exact ⟨by rw [hv.out]; rfl, Kept.refl _ _⟩
    · have hk' : ¬ (k : Int) < S.size := by omega
      have ha := numAt_all (m := m) hN.out (by have h1 := HSZ.out; have h2 := hN.out.1; omega) (by have := HSZ.out; omega) (by have := HSZ.out; omega)
      have hv := Lib.hid (show numM m l = (u : Int) by rw [numM_yes ha.1, ha.2])
      clear ha
      go_wp2_with fail
      go_ret
      exact ⟨by rw [hv.out]; rfl, Kept.refl _ _⟩

end Go.Proofs.YtlhiahhpmjiioadGreatDoor
