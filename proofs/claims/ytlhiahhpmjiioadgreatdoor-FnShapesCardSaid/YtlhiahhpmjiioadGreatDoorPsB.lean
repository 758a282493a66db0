/-
  Several of my texts joined: the contracts of the functions that they name, each with the conditions that it states.
-/
import Derived.Test.YtlhiahhpmjiioadGreatDoorRdB
import Derived.Test.YtlhiahhpmjiioadGreatDoorPshR
import Derived.Test.YtlhiahhpmjiioadGreatDoorPrtB
namespace Go.Proofs.YtlhiahhpmjiioadGreatDoor
open Go.RowKit

theorem trimB_blk (l : List UInt8) : Lib.trimLeftB l 32 = blk l := by
  induction l with
  | nil => rfl
  | cons b l ih =>
    unfold Lib.trimLeftB at ih ⊢
    by_cases hb : b = 32
    · subst hb
      rw [List.dropWhile_cons_of_pos (by simp), ih, blk, if_pos rfl]
    · rw [List.dropWhile_cons_of_neg (by simpa using hb), blk, if_neg hb]
def hasBl (l : List UInt8) : Bool := decide (l.head? = some 32)
theorem blk_eq_iff (l : List UInt8) : (blk l = l) ↔ l.head? ≠ some 32 := by
  constructor
  · intro h
    obtain ⟨_, _, _, h3⟩ := blk_split l
    rw [h] at h3; exact h3
  · exact blk_id

set_option maxHeartbeats 1000000 in
theorem blanks_any (R : Nat) (l : List UInt8) (w : World) (h : Rdr w R l) :
    Calls Tryz.prog 55 #[.pointer (some ⟨R, 0, none⟩)] w (fun e w' => e = .returned (.bool (hasBl l)) ∧ Rdr w' R (blk l) ∧ Kept [R] w w') := by
  have hc := h.cell
  have hf := h.free
  have H := Lib.hid h
  clear h
  go_enter Tryz.func55, Tryz.ntmps55
  go_wp2_with fail
  refine (Tryz.strings_TrimLeft_one _ 32 (by decide) _).mono ?_
  rintro e w1 ⟨rfl, rfl⟩
  rw [strB_list, trimB_blk]
  have hs : (⟨(blk l).toArray⟩ : ByteArray) = strB (blk l) := rfl
  rw [hs]
  clear hs
  go_wp2_with fail
  have he : (!(strB (blk l)).toList == (strB l).toList) = hasBl l := by
    have e1 : (strB (blk l)).toList = blk l := ByteArray.toList_eq _
    have e2 : (strB l).toList = l := ByteArray.toList_eq _
    rw [e1, e2]
    unfold hasBl
    by_cases hb : l.head? = some 32
    · have hn : ¬ blk l = l := fun e => (blk_eq_iff l).1 e hb
      rw [decide_eq_true hb, Bool.not_eq_true', beq_eq_false_iff_ne]; exact hn
    · rw [(blk_eq_iff l).2 hb, decide_eq_false hb]; simp
  rw [he]
  go_ret
  exact ⟨rfl, H.out.set _, (Kept.refl _ _).setCell _ _ (by simp)⟩

def markB (c : UInt8) (l : List UInt8) : Bool := decide ((blk l).head? = some c)
theorem takeR_fst (c : UInt8) (l : List UInt8) : (takeR c (blk l)).1 = markB c l := by
  unfold markB
  by_cases h : (blk l).head? = some c
  · rw [takeR_yes h, decide_eq_true h]
  · rw [takeR_no h, decide_eq_false h]
/-- What is left when a mark was looked for. -/
def markL (c : UInt8) (l : List UInt8) : List UInt8 := (takeR c (blk l)).2
theorem markL_yes {c : UInt8} {l : List UInt8} (h : (blk l).head? = some c) : markL c l = (blk l).drop 1 := by unfold markL; rw [takeR_yes h]
theorem markL_no {c : UInt8} {l : List UInt8} (h : ¬ (blk l).head? = some c) : markL c l = blk l := by unfold markL; rw [takeR_no h]
theorem markL_len (c : UInt8) (l : List UInt8) : (markL c l).length ≤ l.length := Nat.le_trans (takeR_len c (blk l)) (blk_len l)

set_option maxHeartbeats 1000000 in
theorem mark_any (R : Nat) (l : List UInt8) (c : UInt8) (w : World) (h : Rdr w R l) :
    Calls Tryz.prog 57 #[.pointer (some ⟨R, 0, none⟩), .string ⟨#[c]⟩] w (fun e w' => e = .returned (.bool (markB c l)) ∧ Rdr w' R (markL c l) ∧ Kept [R] w w') := by
  have H := Lib.hid h
  clear h
  go_enter Tryz.func57, Tryz.ntmps57
  go_wp2_with fail
  refine (blanks_any R l _ H.out).mono ?_
  rintro e w1 ⟨rfl, r1, k1⟩
  have R1 := Lib.hid r1
  have K1 := Lib.hid k1
  clear r1 k1
  go_wp2_with fail
  refine (takesC_any R (blk l) c _ R1.out).mono ?_
  rintro e w2 ⟨rfl, r2, k2⟩
  rw [takeR_fst]
  have R2 := Lib.hid r2
  have K2 := Lib.hid (K1.out.trans k2 (fun _ hx _ => hx))
  clear r2 k2
  go_wp2_with fail
  go_ret
  exact ⟨rfl, R2.out, K2.out⟩

/-- What point answers. -/
def PointP (R : Nat) (l : List UInt8) (w : World) (e : Ending) (w' : World) : Prop :=
  (pointR l = none ∧ Bang [R] w e w') ∨ ∃ p r, pointR l = some (p, r) ∧ e = .returned (.agg #[.int .i64 p.1, .int .i64 p.2]) ∧ Rdr w' R r ∧ Kept [R] w w'
theorem pointR_no1 {l : List UInt8} (h : coordR (blk l) = none) : pointR l = none := by unfold pointR; rw [h]; rfl
theorem pointR_no2 {l r : List UInt8} {x : Int} (h : coordR (blk l) = some (x, r)) (hb : hasBl r = false) : pointR l = none := by
  unfold pointR; rw [h]; simp only [Option.bind_some]; rw [if_neg (of_decide_eq_false hb)]
theorem pointR_no3 {l r : List UInt8} {x : Int} (h : coordR (blk l) = some (x, r)) (hc : coordR (blk r) = none) : pointR l = none := by
  unfold pointR; rw [h]; simp only [Option.bind_some, hc]; split <;> rfl
theorem pointR_yes {l r s : List UInt8} {x y : Int} (h : coordR (blk l) = some (x, r)) (hb : hasBl r = true) (hc : coordR (blk r) = some (y, s)) : pointR l = some ((x, y), s) := by
  unfold pointR; rw [h]; simp only [Option.bind_some]; rw [if_pos (of_decide_eq_true hb), hc]; rfl
theorem coordR_len {l r : List UInt8} {v : Int} (h : coordR l = some (v, r)) : r.length ≤ l.length := by
  obtain ⟨c, h1, _⟩ := coordR_some h
  rw [h1, List.length_append]; omega

set_option maxHeartbeats 1000000 in
theorem point_any (R : Nat) (l : List UInt8) (w : World) (h : Rdr w R l) (hl : l.length ≤ 1500000) :
    Calls Tryz.prog 58 #[.pointer (some ⟨R, 0, none⟩)] w (PointP R l w) := by
  have H := Lib.hid h
  have hl1 := blk_len l
  have hRw := h.lt
  have hRn : Hid (w.heap.size ≠ R) := by show _ ≠ _; omega
  clear h
  go_enter Tryz.func58, Tryz.ntmps58
  go_wp2_with fail
  refine (blanks_any R l _ (H.out.kept ((Kept.refl [] w).alloc _) (by simp))).mono ?_
  rintro e w1 ⟨rfl, r1, k1⟩
  have R1 := Lib.hid r1
  have K1 := Lib.hid k1
  clear r1 k1
  go_wp2_with fail
  refine (coord_any R (blk l) _ R1.out (by omega)).mono ?_
  rintro e w2 hd
  rcases hd with ⟨hn, ⟨u, x, rfl⟩, k2⟩ | ⟨x, t, hs, rfl, r2, k2⟩
  · have K2 := Lib.hid (K1.out.trans k2 (fun _ hx _ => hx))
    have HV := Lib.hid (pointR_no1 hn)
    clear k2 hn
    go_wp2_with fail
    exact ⟨rfl, .inl ⟨HV.out, ⟨_, _, rfl⟩, K2.out.peel⟩⟩
  have hl2 := coordR_len hs
  have hl3 := blk_len t
  have HS := Lib.hid hs
  have R2 := Lib.hid r2
  have K2 := Lib.hid (K1.out.trans k2 (fun _ hx _ => hx))
  clear r2 k2 hs
  go_wp2_with fail
  refine (blanks_any R t _ R2.out).mono ?_
  rintro e w3 ⟨rfl, r3, k3⟩
  have R3 := Lib.hid r3
  have K3 := Lib.hid (K2.out.trans k3 (fun _ hx _ => hx))
  clear r3 k3
  go_wp2_with fail
  cases hb : hasBl t
  · refine (must_no _ _).mono ?_
    rintro e w4 ⟨⟨u, y, rfl⟩, k4⟩
    have K4 := Lib.hid (K3.out.trans0 k4)
    have HV := Lib.hid (pointR_no2 HS.out hb)
    clear k4
    go_wp2_with fail
    exact ⟨rfl, .inl ⟨HV.out, ⟨_, _, rfl⟩, K4.out.peel⟩⟩
  · have HB := Lib.hid hb
    refine (must_yes _ _).mono ?_
    rintro e w4 ⟨rfl, rfl⟩
    go_wp2_with fail
    refine (coord_any R (blk t) _ R3.out (by omega)).mono ?_
    rintro e w5 hd
    rcases hd with ⟨hn, ⟨u, y, rfl⟩, k5⟩ | ⟨y, s, hs, rfl, r5, k5⟩
    · have K5 := Lib.hid (K3.out.trans k5 (fun _ hx _ => hx))
      have HV := Lib.hid (pointR_no3 HS.out hn)
      clear k5 hn
      go_wp2_with fail
      exact ⟨rfl, .inl ⟨HV.out, ⟨_, _, rfl⟩, K5.out.peel⟩⟩
    · have HV := Lib.hid (pointR_yes HS.out HB.out hs)
      have R5 := Lib.hid r5
      have K5 := Lib.hid (K3.out.trans k5 (fun _ hx _ => hx))
      clear r5 k5 hs
      obtain ⟨c0, f0, z0⟩ := K5.out.top (g := w.heap.size) rfl (by simpa using hRn.out) 0 (v := .int .i64 0) rfl
      obtain ⟨c1, f1, z1⟩ := K5.out.top (g := w.heap.size) rfl (by simpa using hRn.out) 1 (v := .int .i64 0) rfl
      go_wp2_with fail
      obtain ⟨_, s0, s1⟩ := cells2 (.int .i64 x) (.int .i64 y) c0 c1
      refine bodyPost_ret (v := .agg #[.int .i64 x, .int .i64 y]) (by simp [results, Tryz.results58, go_sem, s0, s1]) rfl (.inr ⟨_, _, HV.out, rfl, ?_, ?_⟩)
      · exact (R5.out.kept ((Kept.refl [w.heap.size] w5).setCell _ _ (by simp)) (by simpa using hRn.out.symm)).kept ((Kept.refl [w.heap.size] _).setCell _ _ (by simp)) (by simpa using hRn.out.symm)
      · exact (K5.out.peel.setCell _ _ (by simp)).setCell _ _ (by simp)

end Go.Proofs.YtlhiahhpmjiioadGreatDoor

namespace Go.Proofs.YtlhiahhpmjiioadGreatDoor
open Go.RowKit

theorem hasP_iff {l p : List UInt8} : Lib.hasPrefix l p = true ↔ ∃ t, l = p ++ t := by
  unfold Lib.hasPrefix
  rw [List.isPrefixOf_iff_prefix]
  constructor
  · rintro ⟨t, h⟩; exact ⟨t, h.symm⟩
  · rintro ⟨t, h⟩; exact ⟨t, h.symm⟩
theorem trimP_yes {l p t : List UInt8} (h : l = p ++ t) : Lib.trimPrefix l p = t := by
  have hp := hasP_iff.2 ⟨t, h⟩
  subst h
  unfold Lib.trimPrefix
  rw [if_pos hp]; simp
theorem trimP_no {l p : List UInt8} (h : Lib.hasPrefix l p = false) : Lib.trimPrefix l p = l := by
  unfold Lib.trimPrefix
  rw [if_neg (by rw [h]; decide)]
theorem nameT_eq {k : Int} (h1 : 1 ≤ k) (h4 : k ≤ 4) : nameT k = nmK k := by
  rcases (by omega : k = 1 ∨ k = 2 ∨ k = 3 ∨ k = 4) with rfl | rfl | rfl | rfl <;> rfl
theorem kindR_none {l : List UInt8} (h : ∀ k : Int, 1 ≤ k → k ≤ 4 → Lib.hasPrefix l (nmK k) = false) : kindR l = none := by
  cases hk : kindR l with
  | none => rfl
  | some x =>
    obtain ⟨k, t⟩ := x
    obtain ⟨h1, h4, e⟩ := kindR_some hk
    have := hasP_iff.2 ⟨t, e⟩
    rw [h k h1 h4] at this; cases this
/-- What kind answers. -/
def KindP (R : Nat) (l : List UInt8) (w : World) (e : Ending) (w' : World) : Prop :=
  (kindR l = none ∧ Bang [R] w e w') ∨ ∃ k t, kindR l = some (k, t) ∧ e = .returned (.int .i64 k) ∧ Rdr w' R t ∧ Kept [R] w w'

set_option maxHeartbeats 1000000 in
theorem kind_any (R : Nat) (l : List UInt8) (w : World) (h : Rdr w R l) :
    Calls Tryz.prog 56 #[.pointer (some ⟨R, 0, none⟩)] w (KindP R l w) := by
  have H := Lib.hid h
  clear h
  go_enter Tryz.func56, Tryz.ntmps56
  go_wp2_with fail
  go_loopw [3] (fun i wr => ∃ k : Int, i = .int .i64 k ∧ 1 ≤ k ∧ k ≤ 5 ∧ Hid (∀ j : Int, 1 ≤ j → j < k → Lib.hasPrefix l (nmK j) = false) ∧ Hid (Rdr wr R l) ∧ Hid (Kept [R] w wr)) (fun i _ => 5 - (intOf i).toNat)
  case atStart => exact ⟨1, rfl, by omega, by omega, fun j h1 h2 => by omega, H.out, Kept.refl _ _⟩
  case round =>
    obtain ⟨k, rfl, hk1, hk5, hF, hR, hK⟩ := hrel
    by_cases h4 : k ≤ 4
    · have hin : inK k = true := decide_eq_true ⟨hk1, h4⟩
      obtain ⟨b, hb⟩ : ∃ b, Lib.hasPrefix l (nmK k) = b := ⟨_, rfl⟩
      go_wp2_with fail
      refine (nameOf_any k _ hin).mono ?_
      rintro e w1 ⟨rfl, k1⟩
      rw [nameT_eq hk1 h4]
      have R1 := Lib.hid (hR.out.kept k1 (by simp))
      have K1 := Lib.hid (hK.out.trans0 k1)
      clear k1 hin
      go_wp2_with fail
      refine (takes_any R l (nmK k) _ R1.out).mono ?_
      rintro e w2 ⟨rfl, r2, k2⟩
      rw [hb]
      have K2 := Lib.hid (K1.out.trans k2 (fun _ hx _ => hx))
      clear k2
      cases b
      · rw [trimP_no hb] at r2
        have R2 := Lib.hid r2
        have hF2 : Hid (∀ j : Int, 1 ≤ j → j < k + 1 → Lib.hasPrefix l (nmK j) = false) := by
          intro j h1 h2
          by_cases hj : j = k
          · subst hj; exact hb
          · exact hF.out j h1 (by omega)
        clear r2 hb
        go_wp2_with fail
        go_roundw
        case rel => exact ⟨k + 1, by go_num, by omega, by omega, hF2.out, R2.out, K2.out⟩
        case measure => simp [intOf] <;> omega
      · obtain ⟨t, ht⟩ := hasP_iff.1 hb
        rw [trimP_yes ht] at r2
        have R2 := Lib.hid r2
        have HV : Hid (kindR l = some (k, t)) := by rw [ht]; exact kindR_at k hk1 h4 t
        clear r2 hb ht
        go_wp2_with fail
        go_ret
        exact .inr ⟨k, t, HV.out, rfl, R2.out, K2.out⟩
    · go_wp2_with fail
      exact ⟨rfl, .inl ⟨kindR_none (fun j h1 h2 => hF.out j h1 (by omega)), ⟨_, _, rfl⟩, hK.out⟩⟩

end Go.Proofs.YtlhiahhpmjiioadGreatDoor
