/-
  Several of my texts joined: the contracts of the functions that they name, each with the conditions that it states.
-/
import Derived.Test.YtlhiahhpmjiioadGreatDoorRdM
namespace Go.Proofs.YtlhiahhpmjiioadGreatDoor
open Go.RowKit

def decV (m p : Nat) (l : List UInt8) : Int := match decM m p l with | some v => v | none => 0
def decB (m p : Nat) (l : List UInt8) : Bool := (decM m p l).isSome
theorem dec_none {m p : Nat} {l : List UInt8} (h : decM m p l = none) : decV m p l = 0 ∧ decB m p l = false := by unfold decV decB; rw [h]; exact ⟨rfl, rfl⟩
theorem dec_some {m p v : Nat} {l : List UInt8} (h : decM m p l = some v) : decV m p l = v ∧ decB m p l = true := by unfold decV decB; rw [h]; exact ⟨rfl, rfl⟩
theorem decM_many {m p : Nat} {l : List UInt8} (h : 2 < (cutL 46 l).length) : decM m p l = none := by
  unfold decM
  split
  · rename_i x he; rw [he] at h; simp at h
  · rename_i x y he; rw [he] at h; simp at h
  · rfl
theorem decM_first {m p : Nat} {l : List UInt8} (h : okNum m ((cutL 46 l).getD 0 []) = false) : decM m p l = none := by
  unfold decM
  split
  · rename_i x he; rw [he] at h; simp at h; rw [h]; rfl
  · rename_i x y he; rw [he] at h; simp at h; rw [h]; rfl
  · rfl
theorem decM_second {m p : Nat} {l : List UInt8} (h2 : (cutL 46 l).length = 2) (h : okNum p ((cutL 46 l).getD 1 []) = false) : decM m p l = none := by
  unfold decM
  split
  · rename_i x he; rw [he] at h2; simp at h2
  · rename_i x y he; rw [he] at h; simp at h; rw [h]; simp
  · rfl
/-- The text behind the point. -/
def restL (l : List UInt8) : List UInt8 := if (cutL 46 l).length = 2 then (cutL 46 l).getD 1 [] else []
theorem numL_zeros (k : Nat) : numL (List.replicate k 48) = 0 := by
  show numA 0 _ = _
  rw [numA_zeros]; omega
theorem decM_ok {m p : Nat} {l : List UInt8} (hc : ¬ 2 < (cutL 46 l).length) (h : okNum m ((cutL 46 l).getD 0 []) = true) (h2 : (cutL 46 l).length = 2 → okNum p ((cutL 46 l).getD 1 []) = true) :
    decM m p l = some (numL ((cutL 46 l).getD 0 []) * 10 ^ p + numL (restL l ++ List.replicate (p - (restL l).length) 48)) := by
  unfold decM restL
  have hne := cutL_ne 46 l
  cases hx : cutL 46 l with
  | nil => exact absurd hx hne
  | cons x xs =>
    rw [hx] at hc h h2
    cases xs with
    | nil =>
      simp at h
      simp only [h, if_true]
      simp [numL_zeros]
    | cons y ys =>
      cases ys with
      | nil =>
        simp at h
        have hy := h2 rfl
        simp at hy
        simp [h, hy]
      | cons z zs => simp at hc
theorem restL_len {p : Nat} {l : List UInt8} (h2 : (cutL 46 l).length = 2 → okNum p ((cutL 46 l).getD 1 []) = true) : (restL l).length ≤ p ∧ ∀ b ∈ restL l, isD b = true := by
  unfold restL
  split
  · rename_i h
    have := okNum_iff.1 (h2 h)
    exact ⟨this.2.1, this.2.2⟩
  · simp
theorem ok_filled {p : Nat} {y : List UInt8} (hp : 1 ≤ p) (h : y.length ≤ p) (hd : ∀ b ∈ y, isD b = true) : okNum p (y ++ List.replicate (p - y.length) 48) = true := by
  refine okNum_iff.2 ⟨?_, ?_, ?_⟩
  · rw [List.length_append, List.length_replicate]; omega
  · rw [List.length_append, List.length_replicate]; omega
  · intro b hb
    rcases List.mem_append.1 hb with hb | hb
    · exact hd b hb
    · rw [List.eq_of_mem_replicate hb]; decide

theorem cutL_piece (c : UInt8) : ∀ (l : List UInt8), ∀ x ∈ cutL c l, x.length ≤ l.length
  | [], x, hx => by simp [cutL] at hx; subst hx; simp
  | b :: l, x, hx => by
    have ih := cutL_piece c l
    simp only [cutL] at hx
    split at hx
    · rcases List.mem_cons.1 hx with rfl | hx
      · simp
      · have := ih x hx; simp; omega
    · split at hx
      · simp at hx; subst hx; simp
      · rename_i y ys he
        rcases List.mem_cons.1 hx with rfl | hx
        · have := ih y (by rw [he]; simp); simp; omega
        · have := ih x (by rw [he]; simp [hx]); simp; omega
theorem getD_mem {α : Type} {l : List α} {i : Nat} {d : α} (h : i < l.length) : l.getD i d ∈ l := by
  rw [List.getD_eq_getElem?_getD, List.getElem?_eq_getElem h]; simp
theorem zeros_more (R : List UInt8) (j : Nat) : strB (R ++ List.replicate j 48) ++ ⟨#[48]⟩ = strB (R ++ List.replicate (j + 1) 48) := by
  show strB _ ++ strB [48] = _
  rw [strB_append, List.append_assoc, List.replicate_succ']

set_option maxHeartbeats 1000000 in
theorem l8Decimal_any (l : List UInt8) (m p : Nat) (w : World) (hl : l.length ≤ 1500000) (hm : 1 ≤ m ∧ m ≤ 10) (hp : 1 ≤ p ∧ p ≤ 9) (hmp : m + p ≤ 16) :
    Calls Tryz.prog 95 #[.string (strB l), .int .i64 (m : Int), .int .i64 (p : Int)] w (Ans w (.tuple #[.int .i64 (decV m p l), .bool (decB m p l)])) := by
  obtain ⟨T, hT⟩ : ∃ T, cutL 46 l = T := ⟨_, rfl⟩
  have HT := Lib.hid hT
  have hTn : 0 < T.length := by rw [← hT]; exact List.length_pos_iff.2 (cutL_ne 46 l)
  clear hT
  by_cases h2 : 2 < T.length
  · have hv := Lib.hid (dec_none (decM_many (m := m) (p := p) (l := l) (by rw [HT.out]; exact h2)))
    have h2' : (2 : Int) < T.length := by omega
    go_enter Tryz.func95, Tryz.ntmps95
    go_wp2_with fail
    refine (l1Cut_any l 46 _ hl).mono ?_
    rintro e w1 ⟨v, rfl, hO, hk⟩
    rw [HT.out] at hO
    obtain ⟨g, c, rfl, hc1, hc2, hg, hgl, hcell⟩ := hO.form hTn
    have K1 := Lib.hid hk
    clear hO hcell hk
    go_wp2_with fail
    go_ret2
    exact ⟨by rw [hv.out.1, hv.out.2]; rfl, K1.out⟩
  have hT12 : T.length = 1 ∨ T.length = 2 := by omega
  obtain ⟨x, hx⟩ : ∃ x, T.getD 0 [] = x := ⟨_, rfl⟩
  have hxl : x.length ≤ 1500000 := by
    have h1 := cutL_piece 46 l x (by rw [HT.out, ← hx]; exact getD_mem hTn)
    omega
  have HX := Lib.hid hx
  clear hx
  have h2' : ¬ (2 : Int) < T.length := by omega
  have hT0' : (0 : Int) < T.length := by omega
  by_cases hox : okNum m x = true
  · obtain ⟨N, hN⟩ : ∃ N, numL x = N := ⟨_, rfl⟩
    have hN10 : N < 10 ^ m := by rw [← hN]; have := okNum_iff.1 hox; exact numL_lt this.2.2 this.2.1
    have HN10 := Lib.hid hN10
    have hNb : N < 10 ^ 10 := Nat.lt_of_lt_of_le hN10 (Nat.pow_le_pow_right (by decide) (by omega))
    have hNb' : N < 10000000000 := hNb
    have hn := Lib.hid (show numM m x = (N : Int) by rw [numM_yes hox, hN])
    have HNN := Lib.hid hN
    have HOX := Lib.hid hox
    clear hN hN10 hNb hox
    by_cases h1 : T.length = 1
    · have hTl : T.length = 1 := h1
      have h1' : ¬ (T.length : Int) = 2 := by omega
      have h1b : ((T.length : Int) == 2) = false := by rw [beq_eq_false_iff_ne]; exact h1'
      have hR : restL l = [] := by unfold restL; rw [HT.out, if_neg (by omega)]
      obtain ⟨R0, hR0⟩ : ∃ R0 : List UInt8, R0 = [] := ⟨_, rfl⟩
      have HRl : Hid (R0.length ≤ p) := by rw [hR0]; exact Nat.zero_le _
      have HRd : Hid (∀ b ∈ R0, isD b = true) := by rw [hR0]; intro b hb; cases hb
      have HSOME : Hid (decV m p l = ((N * 10 ^ p + numL (R0 ++ List.replicate (p - R0.length) 48) : Nat) : Int) ∧ decB m p l = true) := by
        have h3 := decM_ok (m := m) (p := p) (l := l) (by rw [HT.out]; omega) (by rw [HT.out, HX.out]; exact HOX.out) (by rw [HT.out]; intro h; omega)
        rw [HT.out, HX.out, HNN.out, hR] at h3
        rw [hR0]
        exact dec_some h3
      have HR0 := Lib.hid hR0
      clear hR hR0
      go_enter Tryz.func95, Tryz.ntmps95
      go_wp2_with fail
      refine (l1Cut_any l 46 _ hl).mono ?_
      rintro e w1 ⟨v, rfl, hO, hk⟩
      rw [HT.out] at hO
      obtain ⟨g, c, rfl, hc1, hc2, hg, hgl, hcell⟩ := hO.form hTn
      have c0 := hcell 0 hTn
      rw [HX.out] at c0
      unfold strV at c0
      have K1 := Lib.hid hk
      have HC := Lib.hid hcell
      clear hO hcell hk
      go_wp2_with fail
      refine (l8Number_any x m _ hxl (by omega)).mono ?_
      rintro e w2 ⟨rfl, k2⟩
      rw [hn.out]
      have K2 := Lib.hid (K1.out.trans0 k2)
      clear k2
      go_wp2_with fail
      go_loopw [10] (fun s wr => ∃ j : Nat, s = .string (strB (R0 ++ List.replicate j 48)) ∧ Hid (R0.length + j ≤ p) ∧ Hid (Kept [] w wr)) (fun s _ => p - Lib.strSize s)
      case atStart => exact ⟨0, by rw [HR0.out]; rfl, by have := HRl.out; show _ ≤ _; omega, K2.out⟩
      case round =>
        obtain ⟨j, rfl, hj, hK⟩ := hrel
        have hz := strB_size (R0 ++ List.replicate j 48)
        rw [List.length_append, List.length_replicate] at hz
        have hmore := Lib.hid (zeros_more R0 j)
        obtain ⟨D, hD⟩ : ∃ D, strB (R0 ++ List.replicate j 48) = D := ⟨_, rfl⟩
        rw [hD] at hz hmore
        have HD := Lib.hid hD
        have HZ := Lib.hid hz
        have hDp : D.size ≤ p := by have := hj.out; omega
        rw [hD]
        clear hz hD
        by_cases hlt : D.size < p
        · have hlt' : (D.size : Int) < p := by omega
          have z1 : ¬ 9223372036854775807 < D.size + 1 := by omega
          have hms : Hid ((D ++ ⟨#[48]⟩ : ByteArray).size = D.size + 1) := by show _ = _; rw [ByteArray.size_append]; rfl
          go_wp2_with fail
          go_roundw
          case rel => exact ⟨j + 1, by rw [hmore.out], by have h1 := HZ.out; show _ ≤ _; omega, hK.out⟩
          case measure => (show p - (D ++ ⟨#[48]⟩ : ByteArray).size < p - D.size); have := hms.out; omega
        · have hlt' : ¬ (D.size : Int) < p := by omega
          have hfill : Hid (R0 ++ List.replicate (p - R0.length) 48 = R0 ++ List.replicate j 48) := by
            show _ = _
            have h1 := HZ.out
            rw [show p - R0.length = j by omega]
          go_wp2_with fail
          go_loopw [11, 12] (fun u i wr => ∃ (U k : Nat), u = .int .i64 U ∧ i = .int .i64 k ∧ Hid (k ≤ p ∧ U = 10 ^ k) ∧ Hid (Kept [] w wr)) (fun _ i _ => p - (intOf i).toNat)
          case atStart => exact ⟨1, 0, rfl, rfl, ⟨Nat.zero_le _, rfl⟩, hK.out⟩
          case round =>
            obtain ⟨U, k, rfl, rfl, hU, hK⟩ := hrel
            have hU9 : U ≤ 10 ^ 9 := by rw [hU.out.2]; exact Nat.pow_le_pow_right (by decide) (by have := hU.out.1; omega)
            have hU9' : U ≤ 1000000000 := hU9
            clear hU9
            by_cases hkp : k < p
            · have hkp' : (k : Int) < p := by omega
              have e1 : IntKind.i64.wrap ((U : Int) * 10) = (U : Int) * 10 := IntWalk.i64_in _ (by omega)
              have e2 : IntKind.i64.wrap ((k : Int) + 1) = (k : Int) + 1 := IntWalk.i64_in _ (by omega)
              have hU2 : Hid (k + 1 ≤ p ∧ U * 10 = 10 ^ (k + 1)) := by have h1 := hU.out; exact ⟨by omega, by rw [h1.2, Nat.pow_succ]⟩
              go_wp2_with fail
              go_roundw
              case rel => exact ⟨U * 10, k + 1, congrArg (Value.int .i64) (by omega), by go_num, hU2, hK⟩
              case measure => simp [intOf] <;> omega
            · have hkp' : ¬ (k : Int) < p := by omega
              have hUp : U = 10 ^ p := by have h1 := hU.out; rw [h1.2, show k = p by omega]
              have hnm : numM p (R0 ++ List.replicate j 48) = (numL (R0 ++ List.replicate j 48) : Int) := numM_yes (by rw [← hfill.out]; exact ok_filled hp.1 HRl.out HRd.out)
              have hlast : numL (R0 ++ List.replicate j 48) < 10 ^ 9 := by
                refine Nat.lt_of_lt_of_le (numL_lt (k := p) ?_ ?_) (Nat.pow_le_pow_right (by decide) hp.2)
                · intro b hb
                  rcases List.mem_append.1 hb with hb | hb
                  · exact HRd.out b hb
                  · rw [List.eq_of_mem_replicate hb]; decide
                · have h1 := HZ.out
                  rw [List.length_append, List.length_replicate]; omega
              have hprod : N * U < 10 ^ 16 := by
                refine Nat.lt_of_lt_of_le (Nat.mul_lt_mul_of_pos_right HN10.out (by rw [hUp]; exact Nat.pow_pos (by decide))) ?_
                rw [hUp, ← Nat.pow_add]; exact Nat.pow_le_pow_right (by decide) hmp
              have hv := Lib.hid (HSOME.out)
              rw [hfill.out, ← hUp] at hv
              obtain ⟨V, hV⟩ : ∃ V, numL (R0 ++ List.replicate j 48) = V := ⟨_, rfl⟩
              rw [hV] at hnm hlast hv
              have hV9 : V < 1000000000 := hlast
              have hp16 : N * U < 10000000000000000 := hprod
              obtain ⟨Y, hY⟩ : ∃ Y, Y = N * U := ⟨_, rfl⟩
              rw [← hY] at hv hp16
              have e1 : IntKind.i64.wrap ((N : Int) * (U : Int)) = (Y : Int) := by rw [← Int.natCast_mul, ← hY]; exact IntWalk.i64_in _ (by omega)
              have e11 : (N : Int) * (U : Int) = (Y : Int) := by rw [← Int.natCast_mul, ← hY]
              have e2 : IntKind.i64.wrap ((Y : Int) + (V : Int)) = (Y : Int) + V := IntWalk.i64_in _ (by omega)
              have HNM := Lib.hid hnm
              have hp9 : p ≤ 16 := by omega
              clear hnm hlast hprod hUp hU hV hY
              go_wp2_with fail
              rw [← HD.out]
              refine (l8Number_any _ p _ (by rw [List.length_append, List.length_replicate]; have := HZ.out; omega) hp9).mono ?_
              rintro e w9 ⟨rfl, k9⟩
              rw [HNM.out]
              have K9 := Lib.hid (hK.out.trans0 k9)
              clear k9
              go_wp2_with fail
              go_ret2
              exact ⟨by rw [hv.out.1, hv.out.2]; rfl, K9.out⟩
    · have hTl : T.length = 2 := by omega
      have h1' : (T.length : Int) = 2 := by omega
      have h1b : ((T.length : Int) == 2) = true := by rw [beq_iff_eq]; exact h1'
      obtain ⟨y, hy⟩ : ∃ y, T.getD 1 [] = y := ⟨_, rfl⟩
      have hyl : y.length ≤ 1500000 := by
        have h1 := cutL_piece 46 l y (by rw [HT.out, ← hy]; exact getD_mem (by omega))
        omega
      have HY := Lib.hid hy
      have h1T : (1 : Int) < T.length := by omega
      have h1Tn : 1 < T.length := by omega
      clear hy hTl
      by_cases hoy : okNum p y = true
      · obtain ⟨M, hM⟩ : ∃ M, numL y = M := ⟨_, rfl⟩
        have hny := Lib.hid (show numM p y = (M : Int) by rw [numM_yes hoy, hM])
        have hR : restL l = y := by unfold restL; rw [HT.out, if_pos (by omega), HY.out]
        obtain ⟨R0, hR0⟩ : ∃ R0 : List UInt8, R0 = y := ⟨_, rfl⟩
        have HRl : Hid (R0.length ≤ p) := by rw [hR0]; exact (okNum_iff.1 hoy).2.1
        have HRd : Hid (∀ b ∈ R0, isD b = true) := by rw [hR0]; exact (okNum_iff.1 hoy).2.2
        have HSOME : Hid (decV m p l = ((N * 10 ^ p + numL (R0 ++ List.replicate (p - R0.length) 48) : Nat) : Int) ∧ decB m p l = true) := by
          have h3 := decM_ok (m := m) (p := p) (l := l) (by rw [HT.out]; omega) (by rw [HT.out, HX.out]; exact HOX.out) (by rw [HT.out, HY.out]; intro h; exact hoy)
          rw [HT.out, HX.out, HNN.out, hR, ← hR0] at h3
          exact dec_some h3
        have HR0 := Lib.hid hR0
        clear hR hR0 hM hoy h1
        go_enter Tryz.func95, Tryz.ntmps95
        go_wp2_with fail
        refine (l1Cut_any l 46 _ hl).mono ?_
        rintro e w1 ⟨v, rfl, hO, hk⟩
        rw [HT.out] at hO
        obtain ⟨g, c, rfl, hc1, hc2, hg, hgl, hcell⟩ := hO.form hTn
        have c0 := hcell 0 hTn
        rw [HX.out] at c0
        unfold strV at c0
        have K1 := Lib.hid hk
        have HC := Lib.hid hcell
        clear hO hcell hk
        go_wp2_with fail
        refine (l8Number_any x m _ hxl (by omega)).mono ?_
        rintro e w2 ⟨rfl, k2⟩
        rw [hn.out]
        have K2 := Lib.hid (K1.out.trans0 k2)
        have c1 := (HC.out 1 h1Tn)
        rw [HY.out] at c1
        unfold strV at c1
        have c1 := k2.cell c1 (by simp)
        clear k2
        go_wp2_with fail
        refine (l8Number_any y p _ hyl (by omega)).mono ?_
        rintro e w3 ⟨rfl, k3⟩
        have K3 := Lib.hid (K2.out.trans0 k3)
        clear k3
        rw [hny.out]
        go_wp2_with fail
        go_loopw [10] (fun s wr => ∃ j : Nat, s = .string (strB (R0 ++ List.replicate j 48)) ∧ Hid (R0.length + j ≤ p) ∧ Hid (Kept [] w wr)) (fun s _ => p - Lib.strSize s)
        case atStart => exact ⟨0, by rw [HR0.out, List.replicate_zero, List.append_nil], by have := HRl.out; show _ ≤ _; omega, K3.out⟩
        case round =>
          obtain ⟨j, rfl, hj, hK⟩ := hrel
          have hz := strB_size (R0 ++ List.replicate j 48)
          rw [List.length_append, List.length_replicate] at hz
          have hmore := Lib.hid (zeros_more R0 j)
          obtain ⟨D, hD⟩ : ∃ D, strB (R0 ++ List.replicate j 48) = D := ⟨_, rfl⟩
          rw [hD] at hz hmore
          have HD := Lib.hid hD
          have HZ := Lib.hid hz
          have hDp : D.size ≤ p := by have := hj.out; omega
          rw [hD]
          clear hz hD
          by_cases hlt : D.size < p
          · have hlt' : (D.size : Int) < p := by omega
            have z1 : ¬ 9223372036854775807 < D.size + 1 := by omega
            have hms : Hid ((D ++ ⟨#[48]⟩ : ByteArray).size = D.size + 1) := by show _ = _; rw [ByteArray.size_append]; rfl
            go_wp2_with fail
            go_roundw
            case rel => exact ⟨j + 1, by rw [hmore.out], by have h1 := HZ.out; show _ ≤ _; omega, hK.out⟩
            case measure => (show p - (D ++ ⟨#[48]⟩ : ByteArray).size < p - D.size); have := hms.out; omega
          · have hlt' : ¬ (D.size : Int) < p := by omega
            have hfill : Hid (R0 ++ List.replicate (p - R0.length) 48 = R0 ++ List.replicate j 48) := by
              show _ = _
              have h1 := HZ.out
              rw [show p - R0.length = j by omega]
            go_wp2_with fail
            go_loopw [11, 12] (fun u i wr => ∃ (U k : Nat), u = .int .i64 U ∧ i = .int .i64 k ∧ Hid (k ≤ p ∧ U = 10 ^ k) ∧ Hid (Kept [] w wr)) (fun _ i _ => p - (intOf i).toNat)
            case atStart => exact ⟨1, 0, rfl, rfl, ⟨Nat.zero_le _, rfl⟩, hK.out⟩
            case round =>
              obtain ⟨U, k, rfl, rfl, hU, hK⟩ := hrel
              have hU9 : U ≤ 10 ^ 9 := by rw [hU.out.2]; exact Nat.pow_le_pow_right (by decide) (by have := hU.out.1; omega)
              have hU9' : U ≤ 1000000000 := hU9
              clear hU9
              by_cases hkp : k < p
              · have hkp' : (k : Int) < p := by omega
                have e1 : IntKind.i64.wrap ((U : Int) * 10) = (U : Int) * 10 := IntWalk.i64_in _ (by omega)
                have e2 : IntKind.i64.wrap ((k : Int) + 1) = (k : Int) + 1 := IntWalk.i64_in _ (by omega)
                have hU2 : Hid (k + 1 ≤ p ∧ U * 10 = 10 ^ (k + 1)) := by have h1 := hU.out; exact ⟨by omega, by rw [h1.2, Nat.pow_succ]⟩
                go_wp2_with fail
                go_roundw
                case rel => exact ⟨U * 10, k + 1, congrArg (Value.int .i64) (by omega), by go_num, hU2, hK⟩
                case measure => simp [intOf] <;> omega
              · have hkp' : ¬ (k : Int) < p := by omega
                have hUp : U = 10 ^ p := by have h1 := hU.out; rw [h1.2, show k = p by omega]
                have hnm : numM p (R0 ++ List.replicate j 48) = (numL (R0 ++ List.replicate j 48) : Int) := numM_yes (by rw [← hfill.out]; exact ok_filled hp.1 HRl.out HRd.out)
                have hlast : numL (R0 ++ List.replicate j 48) < 10 ^ 9 := by
                  refine Nat.lt_of_lt_of_le (numL_lt (k := p) ?_ ?_) (Nat.pow_le_pow_right (by decide) hp.2)
                  · intro b hb
                    rcases List.mem_append.1 hb with hb | hb
                    · exact HRd.out b hb
                    · rw [List.eq_of_mem_replicate hb]; decide
                  · have h1 := HZ.out
                    rw [List.length_append, List.length_replicate]; omega
                have hprod : N * U < 10 ^ 16 := by
                  refine Nat.lt_of_lt_of_le (Nat.mul_lt_mul_of_pos_right HN10.out (by rw [hUp]; exact Nat.pow_pos (by decide))) ?_
                  rw [hUp, ← Nat.pow_add]; exact Nat.pow_le_pow_right (by decide) hmp
                have hv := Lib.hid (HSOME.out)
                rw [hfill.out, ← hUp] at hv
                obtain ⟨V, hV⟩ : ∃ V, numL (R0 ++ List.replicate j 48) = V := ⟨_, rfl⟩
                rw [hV] at hnm hlast hv
                have hV9 : V < 1000000000 := hlast
                have hp16 : N * U < 10000000000000000 := hprod
                obtain ⟨Y, hY⟩ : ∃ Y, Y = N * U := ⟨_, rfl⟩
                rw [← hY] at hv hp16
                have e1 : IntKind.i64.wrap ((N : Int) * (U : Int)) = (Y : Int) := by rw [← Int.natCast_mul, ← hY]; exact IntWalk.i64_in _ (by omega)
                have e11 : (N : Int) * (U : Int) = (Y : Int) := by rw [← Int.natCast_mul, ← hY]
                have e2 : IntKind.i64.wrap ((Y : Int) + (V : Int)) = (Y : Int) + V := IntWalk.i64_in _ (by omega)
                have HNM := Lib.hid hnm
                have hp9 : p ≤ 16 := by omega
                clear hnm hlast hprod hUp hU hV hY
                go_wp2_with fail
                rw [← HD.out]
                refine (l8Number_any _ p _ (by rw [List.length_append, List.length_replicate]; have := HZ.out; omega) hp9).mono ?_
                rintro e w9 ⟨rfl, k9⟩
                rw [HNM.out]
                have K9 := Lib.hid (hK.out.trans0 k9)
                clear k9
                go_wp2_with fail
                go_ret2
                exact ⟨by rw [hv.out.1, hv.out.2]; rfl, K9.out⟩
      · have hoy' : okNum p y = false := by simpa using hoy
        have hv := Lib.hid (dec_none (decM_second (m := m) (p := p) (l := l) (by rw [HT.out]; omega) (by rw [HT.out, HY.out]; exact hoy')))
        have hny := Lib.hid (numM_no hoy')
        clear hoy hoy' h1
        go_enter Tryz.func95, Tryz.ntmps95
        go_wp2_with fail
        refine (l1Cut_any l 46 _ hl).mono ?_
        rintro e w1 ⟨v, rfl, hO, hk⟩
        rw [HT.out] at hO
        obtain ⟨g, c, rfl, hc1, hc2, hg, hgl, hcell⟩ := hO.form hTn
        have c0 := hcell 0 hTn
        rw [HX.out] at c0
        unfold strV at c0
        have K1 := Lib.hid hk
        have HC := Lib.hid hcell
        clear hO hcell hk
        go_wp2_with fail
        refine (l8Number_any x m _ hxl (by omega)).mono ?_
        rintro e w2 ⟨rfl, k2⟩
        rw [hn.out]
        have K2 := Lib.hid (K1.out.trans0 k2)
        have c1 := (HC.out 1 h1Tn)
        rw [HY.out] at c1
        unfold strV at c1
        have c1 := k2.cell c1 (by simp)
        clear k2
        go_wp2_with fail
        refine (l8Number_any y p _ hyl (by omega)).mono ?_
        rintro e w3 ⟨rfl, k3⟩
        have K3 := Lib.hid (K2.out.trans0 k3)
        clear k3
        rw [hny.out]
        go_wp2_with fail
        go_ret2
        exact ⟨by rw [hv.out.1, hv.out.2]; rfl, K3.out⟩
  · have hox' : okNum m x = false := by simpa using hox
    have hv := Lib.hid (dec_none (decM_first (m := m) (p := p) (l := l) (by rw [HT.out, HX.out]; exact hox')))
    have hn := Lib.hid (numM_no hox')
    go_enter Tryz.func95, Tryz.ntmps95
    go_wp2_with fail
    refine (l1Cut_any l 46 _ hl).mono ?_
    rintro e w1 ⟨v, rfl, hO, hk⟩
    rw [HT.out] at hO
    obtain ⟨g, c, rfl, hc1, hc2, hg, hgl, hcell⟩ := hO.form hTn
    have c0 := hcell 0 hTn
    rw [HX.out] at c0
    unfold strV at c0
    have K1 := Lib.hid hk
    clear hO hcell hk
    go_wp2_with fail
    refine (l8Number_any x m _ hxl (by omega)).mono ?_
    rintro e w2 ⟨rfl, k2⟩
    rw [hn.out]
    have K2 := Lib.hid (K1.out.trans0 k2)
    clear k2
    go_wp2_with fail
    go_ret2
    exact ⟨by rw [hv.out.1, hv.out.2]; rfl, K2.out⟩

end Go.Proofs.YtlhiahhpmjiioadGreatDoor

namespace Go.Proofs.YtlhiahhpmjiioadGreatDoor
open Go.RowKit

theorem intBoxM {w w1 : World} {T : TypeId} (hk : Kept [] (w.alloc (.cells #[.int .i64 0, .int .i64 0] T)) w1) :
    (w1.cell? ⟨w.heap.size, 0, none⟩ = some (.int .i64 0) ∧ w1.cell? ⟨w.heap.size, 1, none⟩ = some (.int .i64 0)) ∧ w1.frozen? ⟨w.heap.size, 0, none⟩ = false ∧ w1.frozen? ⟨w.heap.size, 1, none⟩ = false :=
  ⟨⟨(hk.top rfl (by simp) 0 (v := .int .i64 0) rfl).1, (hk.top rfl (by simp) 1 (v := .int .i64 0) rfl).1⟩, (hk.top rfl (by simp) 0 (v := .int .i64 0) rfl).2.1, (hk.top rfl (by simp) 1 (v := .int .i64 0) rfl).2.1⟩

theorem strB_from {l : List UInt8} {S : ByteArray} (h : S.data.toList = l) (n : Nat) : S.extract n S.size = strB (l.drop n) := by subst h; exact Lib.extract_from _ _
theorem rc_dec {l r : List UInt8} {b : Bool} (h : takeR 45 l = (b, r)) : (decB 6 9 r = true ∧ rcC l = 0 ∧ rcV l = (if b = true then -decV 6 9 r else decV 6 9 r)) ∨ (decB 6 9 r = false ∧ rcC l = 5 ∧ rcV l = 0) := by
  have hf := fullC_eq l
  rw [h] at hf
  cases hd : decM 6 9 r with
  | none =>
    rw [hd] at hf
    exact .inr ⟨(dec_none hd).2, rc_no hf⟩
  | some v =>
    rw [hd] at hf
    obtain ⟨h1, h2⟩ := dec_some hd
    refine .inl ⟨h2, ?_⟩
    rw [h1]
    exact rc_yes hf
theorem decV_lt (r : List UInt8) : 0 ≤ decV 6 9 r ∧ decV 6 9 r < 1000000000000000 := by
  cases hd : decM 6 9 r with
  | none => rw [(dec_none hd).1]; omega
  | some v =>
    rw [(dec_some hd).1]
    unfold decM at hd
    split at hd
    · split at hd
      · rename_i x _ ho
        have ho := okNum_iff.1 ho
        have h1 := numL_lt ho.2.2 ho.2.1
        simp only [Option.some.injEq] at hd
        have : (10 : Nat) ^ 9 = 1000000000 := by decide
        have h6 : (10 : Nat) ^ 6 = 1000000 := by decide
        rw [this] at hd
        rw [h6] at h1
        omega
      · cases hd
    · split at hd
      · rename_i x y _ ho
        obtain ⟨hx, hy⟩ := Bool.and_eq_true .. ▸ ho
        have ho := okNum_iff.1 hx
        have h1 := numL_lt ho.2.2 ho.2.1
        have hy2 := okNum_iff.1 hy
        have hz := okNum_iff.1 (ok_filled (p := 9) (by omega) hy2.2.1 hy2.2.2)
        have h2 := numL_lt hz.2.2 hz.2.1
        simp only [Option.some.injEq] at hd
        have : (10 : Nat) ^ 9 = 1000000000 := by decide
        have h6 : (10 : Nat) ^ 6 = 1000000 := by decide
        rw [this] at hd h2
        rw [h6] at h1
        omega
      · cases hd
    · cases hd

set_option maxHeartbeats 1000000 in
theorem sReadCoord_any (l : List UInt8) (w : World) (hl : l.length ≤ 1500000) :
    Calls Tryz.prog 82 #[.string (strB l)] w (Ans w (.agg #[.int .i64 (rcC l), .int .i64 (rcV l)])) := by
  obtain ⟨b, r, hr⟩ : ∃ b r, takeR 45 l = (b, r) := ⟨_, _, rfl⟩
  have hd := rc_dec hr
  obtain ⟨S, hS⟩ : ∃ S, strB l = S := ⟨_, rfl⟩
  have hsz : S.size = l.length := by rw [← hS, strB_size]
  have hSz : S.size ≤ 1500000 := by omega
  have hbs : S.data.toList = l := by rw [← hS]; rfl
  have hrl : r.length ≤ 1500000 := by
    have : (takeR 45 l).2.length ≤ l.length := by unfold takeR; split <;> simp
    rw [hr] at this; simp only at this; omega
  have hvb := decV_lt r
  cases b
  · have hrl2 : r = l := by
      have h1 := congrArg Prod.snd hr
      have h2 := congrArg Prod.fst hr
      unfold takeR at h1 h2
      split at h2
      · cases h2
      · rename_i hn; rw [if_neg hn] at h1; exact h1.symm
    have hn : ¬ l.head? = some 45 := by
      intro h; rw [takeR_yes h] at hr; cases hr
    subst hrl2
    have HS := Lib.hid hS
    by_cases h0 : S.size = 0
    · have hp0 : decide (0 < S.size) = false := decide_eq_false (by omega)
      rw [hS]
      clear hS hn hsz
      rcases hd with ⟨hb, hc, hv⟩ | ⟨hb, hc, hv⟩
      · obtain ⟨v, hv2⟩ : ∃ v, decV 6 9 r = v := ⟨_, rfl⟩
        rw [hv2] at hvb hv
        have e1 : IntKind.i64.wrap (-v) = -v := IntWalk.i64_in _ (by omega)
        have HB := Lib.hid hb
        have HV := Lib.hid hv2
        have HC := Lib.hid hc
        have HW := Lib.hid hv
        clear hb hv2 hc hv hr
        go_enter Tryz.func82, Tryz.ntmps82
        go_wp2_with fail
        rw [← HS.out]
        refine (l8Decimal_any _ 6 9 _ (by assumption) (by omega) (by omega) (by omega)).mono ?_
        rintro e w1 ⟨rfl, k1⟩
        rw [HB.out, HV.out]
        obtain ⟨⟨c0, c1⟩, f0, f1⟩ := intBoxM k1
        have K1 := Lib.hid k1
        clear k1
        go_wp2_with fail
        obtain ⟨_, s0, s1⟩ := cells2 (.int .i64 0) (.int .i64 (v)) c0 c1
        refine bodyPost_ret (v := .agg #[.int .i64 0, .int .i64 (v)]) (by simp [results, Tryz.results82, go_sem, s0, s1]) rfl ⟨by rw [HC.out, HW.out]; rfl, ?_⟩
        exact (K1.out.peel.setCell _ _ (by simp)).setCell _ _ (by simp)
      · have HB := Lib.hid hb
        have HC := Lib.hid hc
        have HW := Lib.hid hv
        obtain ⟨v, hv2⟩ : ∃ v, decV 6 9 r = v := ⟨_, rfl⟩
        have HV := Lib.hid hv2
        clear hb hc hv hv2 hr hvb
        go_enter Tryz.func82, Tryz.ntmps82
        go_wp2_with fail
        rw [← HS.out]
        refine (l8Decimal_any _ 6 9 _ (by assumption) (by omega) (by omega) (by omega)).mono ?_
        rintro e w1 ⟨rfl, k1⟩
        rw [HB.out, HV.out]
        obtain ⟨⟨c0, c1⟩, f0, f1⟩ := intBoxM k1
        have K1 := Lib.hid k1
        clear k1
        go_wp2_with fail
        obtain ⟨_, s0, s1⟩ := cells2 (.int .i64 5) (.int .i64 0) c0 c1
        refine bodyPost_ret (v := .agg #[.int .i64 5, .int .i64 0]) (by simp [results, Tryz.results82, go_sem, s0, s1]) rfl ⟨by rw [HC.out, HW.out], ?_⟩
        exact (K1.out.peel.setCell _ _ (by simp)).setCell _ _ (by simp)
    · have hp0 : 0 < S.size := by omega
      have hby := byte_at hbs hp0
      generalize hB0 : S[0] = b0 at hby
      have hb45 : ¬ (b0.toNat : Int) = 45 := by
        intro h
        have : b0 = 45 := UInt8.toNat_inj.1 (by show b0.toNat = 45; omega)
        subst this
        exact hn (by rw [List.head?_eq_getElem?]; exact hby)
      have hb45' : ((b0.toNat : Int) == 45) = false := by rw [beq_eq_false_iff_ne]; exact hb45
      have hp1 : (0 : Int) < S.size := by omega
      rw [hS]
      clear hS hn hsz hby h0
      rcases hd with ⟨hb, hc, hv⟩ | ⟨hb, hc, hv⟩
      · obtain ⟨v, hv2⟩ : ∃ v, decV 6 9 r = v := ⟨_, rfl⟩
        rw [hv2] at hvb hv
        have e1 : IntKind.i64.wrap (-v) = -v := IntWalk.i64_in _ (by omega)
        have HB := Lib.hid hb
        have HV := Lib.hid hv2
        have HC := Lib.hid hc
        have HW := Lib.hid hv
        clear hb hv2 hc hv hr
        go_enter Tryz.func82, Tryz.ntmps82
        go_wp2_with fail
        rw [← HS.out]
        refine (l8Decimal_any _ 6 9 _ (by assumption) (by omega) (by omega) (by omega)).mono ?_
        rintro e w1 ⟨rfl, k1⟩
        rw [HB.out, HV.out]
        obtain ⟨⟨c0, c1⟩, f0, f1⟩ := intBoxM k1
        have K1 := Lib.hid k1
        clear k1
        go_wp2_with fail
        obtain ⟨_, s0, s1⟩ := cells2 (.int .i64 0) (.int .i64 (v)) c0 c1
        refine bodyPost_ret (v := .agg #[.int .i64 0, .int .i64 (v)]) (by simp [results, Tryz.results82, go_sem, s0, s1]) rfl ⟨by rw [HC.out, HW.out]; rfl, ?_⟩
        exact (K1.out.peel.setCell _ _ (by simp)).setCell _ _ (by simp)
      · have HB := Lib.hid hb
        have HC := Lib.hid hc
        have HW := Lib.hid hv
        obtain ⟨v, hv2⟩ : ∃ v, decV 6 9 r = v := ⟨_, rfl⟩
        have HV := Lib.hid hv2
        clear hb hc hv hv2 hr hvb
        go_enter Tryz.func82, Tryz.ntmps82
        go_wp2_with fail
        rw [← HS.out]
        refine (l8Decimal_any _ 6 9 _ (by assumption) (by omega) (by omega) (by omega)).mono ?_
        rintro e w1 ⟨rfl, k1⟩
        rw [HB.out, HV.out]
        obtain ⟨⟨c0, c1⟩, f0, f1⟩ := intBoxM k1
        have K1 := Lib.hid k1
        clear k1
        go_wp2_with fail
        obtain ⟨_, s0, s1⟩ := cells2 (.int .i64 5) (.int .i64 0) c0 c1
        refine bodyPost_ret (v := .agg #[.int .i64 5, .int .i64 0]) (by simp [results, Tryz.results82, go_sem, s0, s1]) rfl ⟨by rw [HC.out, HW.out], ?_⟩
        exact (K1.out.peel.setCell _ _ (by simp)).setCell _ _ (by simp)
  · have hh : l.head? = some 45 ∧ r = l.drop 1 := by
      have h1 := congrArg Prod.snd hr
      have h2 := congrArg Prod.fst hr
      unfold takeR at h1 h2
      split at h2
      · rename_i hn; rw [if_pos hn] at h1; exact ⟨hn, h1.symm⟩
      · cases h2
    have hp0 : 0 < S.size := by
      cases l with
      | nil => cases hh.1
      | cons b l => rw [hsz]; simp
    have hby := byte_at hbs hp0
    generalize hB0 : S[0] = b0 at hby
    have hb45 : (b0.toNat : Int) = 45 := by
      have h1 := hh.1
      rw [List.head?_eq_getElem?, hby] at h1
      have := Option.some.inj h1
      subst this; rfl
    have hx : S.extract 1 S.size = strB r := by rw [hh.2]; exact strB_from hbs 1
    have hp1 : (0 : Int) < S.size := by omega
    have hp2 : (1 : Int) ≤ S.size := by omega
    rw [hS]
    clear hS hsz hby hh hbs
    rcases hd with ⟨hb, hc, hv⟩ | ⟨hb, hc, hv⟩
    · obtain ⟨v, hv2⟩ : ∃ v, decV 6 9 r = v := ⟨_, rfl⟩
      rw [hv2] at hvb hv
      have e1 : IntKind.i64.wrap (-v) = -v := IntWalk.i64_in _ (by omega)
      have HB := Lib.hid hb
      have HV := Lib.hid hv2
      have HC := Lib.hid hc
      have HW := Lib.hid hv
      clear hb hv2 hc hv hr
      go_enter Tryz.func82, Tryz.ntmps82
      go_wp2_with fail
      refine (l8Decimal_any _ 6 9 _ (by assumption) (by omega) (by omega) (by omega)).mono ?_
      rintro e w1 ⟨rfl, k1⟩
      rw [HB.out, HV.out]
      obtain ⟨⟨c0, c1⟩, f0, f1⟩ := intBoxM k1
      have K1 := Lib.hid k1
      clear k1
      go_wp2_with fail
      obtain ⟨_, s0, s1⟩ := cells2 (.int .i64 0) (.int .i64 (-v)) c0 c1
      refine bodyPost_ret (v := .agg #[.int .i64 0, .int .i64 (-v)]) (by simp [results, Tryz.results82, go_sem, s0, s1]) rfl ⟨by rw [HC.out, HW.out]; rfl, ?_⟩
      exact (K1.out.peel.setCell _ _ (by simp)).setCell _ _ (by simp)
    · have HB := Lib.hid hb
      have HC := Lib.hid hc
      have HW := Lib.hid hv
      obtain ⟨v, hv2⟩ : ∃ v, decV 6 9 r = v := ⟨_, rfl⟩
      have HV := Lib.hid hv2
      clear hb hc hv hv2 hr hvb
      go_enter Tryz.func82, Tryz.ntmps82
      go_wp2_with fail
      refine (l8Decimal_any _ 6 9 _ (by assumption) (by omega) (by omega) (by omega)).mono ?_
      rintro e w1 ⟨rfl, k1⟩
      rw [HB.out, HV.out]
      obtain ⟨⟨c0, c1⟩, f0, f1⟩ := intBoxM k1
      have K1 := Lib.hid k1
      clear k1
      go_wp2_with fail
      obtain ⟨_, s0, s1⟩ := cells2 (.int .i64 5) (.int .i64 0) c0 c1
      refine bodyPost_ret (v := .agg #[.int .i64 5, .int .i64 0]) (by simp [results, Tryz.results82, go_sem, s0, s1]) rfl ⟨by rw [HC.out, HW.out], ?_⟩
      exact (K1.out.peel.setCell _ _ (by simp)).setCell _ _ (by simp)

end Go.Proofs.YtlhiahhpmjiioadGreatDoor
