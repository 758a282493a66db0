/-
  Contracts of addTimes, trimLimbs, natResult. Conditions: the slices read as lists of limbs, the factor is small.
-/
import Derived.Test.YtjndjjdffifgcaaComp
import Derived.Test.YtjndjjdffifgcaaOwn
import Derived.Test.YtjndjjdffifgcaaPlain2
import Derived.Handy
namespace Go.Proofs.Ytjndjjdffifgcaa
open Go.RowKit

theorem mask_i64 (u : Int) (h : -4611686018427387904 ≤ u ∧ u ≤ 4611686018427387904) : bits BinOp.and IntKind.i64 u 65535 = u % 65536 := by
  show IntKind.i64.wrap ((BitVec.ofInt 64 u &&& BitVec.ofInt 64 65535).toNat : Int) = _
  have e : (BitVec.ofInt 64 u &&& BitVec.ofInt 64 65535).toNat = (u % 65536).toNat := by
    rw [BitVec.toNat_and, BitVec.toNat_ofInt, show (BitVec.ofInt 64 65535).toNat = 2 ^ 16 - 1 by decide, Nat.and_two_pow_sub_one_eq_mod]
    omega
  rw [e, Int.toNat_of_nonneg (by omega)]
  exact IntWalk.i64_in _ (by omega)

/-- What a pass of addTimes answers: the carry; the limbs in the block from off on are out. -/
def AddTR (w : World) (g off : Nat) (cs : List Int) (n : Nat) (T : Int) (e : Ending) (w' : World) : Prop :=
  ∃ (out ds : List Int) (cy : Int), e = .returned (.int .i64 cy) ∧ out.length = n ∧ AllLimbs out ∧ ap out cy = T ∧ Upd cs off out ds ∧ Blk w' g ds ∧ Kept [g] w w' ∧ -2097152 ≤ cy ∧ cy ≤ 2097152

set_option maxHeartbeats 1000000 in
theorem addTimes_any (g off n c : Nat) (cs ss : List Int) (b : Option Addr) (m d : Nat) (ys : List Int) (t : Int) (w : World)
    (hB : Blk w g cs) (hl : off + n ≤ cs.length) (hs : ss.length = n) (hss : ∀ i, i < n → cs.getD (off + i) 0 = ss.getD i 0) (hsl : AllLimbs ss)
    (hn : n ≤ 4000000) (_ho : off ≤ 4000000) (hy : Rd w b m ys) (hyl : AllLimbs ys) (hm : m ≤ n) (hap : 0 < m → ∀ x, b = some x → x.block ≠ g) (ht : -1048576 ≤ t ∧ t ≤ 1048576) :
    Calls Try.prog 135 #[.slice (some ⟨g, off, none⟩) n c, .slice b m d, .int .i64 t] w (AddTR w g off cs n (val ss + t * val ys)) := by
  have hT : val ss + t * val ys = rest ss (fun i => ys.getD i 0) t 0 := by
    rw [rest_start, vf_val ys ss.length (by rw [hy.1, hs]; exact hm)]
  rw [hT]
  have HB := Lib.hid hB
  have HLc := Lib.hid hl
  have HS := Lib.hid hs
  have HSS := Lib.hid hss
  have HSL := Lib.hid hsl
  have HY := Lib.hid hy
  have HYL := Lib.hid hyl
  have HA := Lib.hid hap
  have HT := Lib.hid ht
  obtain ⟨T, hTT⟩ : ∃ T, T = rest ss (fun i => ys.getD i 0) t 0 := ⟨_, rfl⟩
  rw [← hTT]
  have HTT := Lib.hid hTT
  clear hT hTT hB hl hs hss hsl hy hyl hap ht
  go_enter Try.func135, Try.ntmps135
  go_wp2
  go_loopw [7, 11] (fun q i wr => ∃ (k : Nat) (out ds : List Int) (cy : Int), k ≤ n ∧ q = .int .i64 cy ∧ i = .int .i64 k ∧ -2097152 ≤ cy ∧ cy ≤ 2097152 ∧ Hid (out.length = k) ∧ Hid (AllLimbs out) ∧ Hid (ap out (cy + rest ss (fun i => ys.getD i 0) t k) = T) ∧ Hid (Upd cs off out ds) ∧ Hid (Blk wr g ds) ∧ Hid (Kept [g] w wr)) (fun _ i _ => n - (intOf i).toNat)
  case atStart => exact ⟨0, [], cs, 0, Nat.zero_le _, rfl, rfl, by omega, by omega, rfl, fun i hi => by simp at hi, by show ap _ _ = T; rw [HTT.out]; simp [ap], Upd.refl _ _, HB.out, Kept.refl _ _⟩
  case round =>
    obtain ⟨k, out, ds, cy, hk, rfl, rfl, hc1, hc2, hOL, hO, hAp, hU, hBk, hK⟩ := hrel
    by_cases hlt : k < n
    · have hsk := HSL.out k (by rw [HS.out]; exact hlt)
      have hyk : 0 ≤ ys.getD k 0 ∧ ys.getD k 0 ≤ 65535 := by
        by_cases e : k < ys.length
        · exact HYL.out k e
        · rw [List.getD_eq_getElem?_getD, List.getElem?_eq_none (by omega)]; simp
      have hmb := mul_bd t _ HT.out hyk
      have hstep := rest_step ss (fun i => ys.getD i 0) t k (by rw [HS.out]; exact hlt)
      have hcell0 := hBk.out.cell (j := off + k) (by have := HLc.out; have := hU.out.len; omega)
      have hval : ds.getD (off + k) 0 = ss.getD k 0 := by
        rw [hU.out.old (off + k) (Or.inr (by rw [hOL.out]; exact Nat.le_refl _)), HSS.out k hlt]
      rw [hval] at hcell0
      have hatp : atP ys (k : Int) = ys.getD k 0 := atP_nat ys k
      have hrd : Rd wr b m ys := HY.out.kept hK.out (fun hm x hx => by have := HA.out hm x hx; simpa using this)
      have HRD := Lib.hid hrd
      have HATP := Lib.hid hatp
      obtain ⟨s, hs⟩ : ∃ s, s = ss.getD k 0 := ⟨_, rfl⟩
      obtain ⟨y, hy⟩ : ∃ y, y = ys.getD k 0 := ⟨_, rfl⟩
      simp only [← hs, ← hy] at hsk hyk hmb hstep hcell0
      rw [← hy] at HATP
      obtain ⟨p, hp⟩ : ∃ p, p = t * y := ⟨_, rfl⟩
      rw [← hp] at hmb hstep
      have HP := Lib.hid hp
      obtain ⟨u, hu⟩ : ∃ u, u = cy + (s + p) := ⟨_, rfl⟩
      obtain ⟨hs1, hs2⟩ := hsk
      obtain ⟨hy1, hy2⟩ := hyk
      obtain ⟨hm1, hm2⟩ := hmb
      have hu1 : -68721639425 ≤ u := by omega
      have hu2 : u ≤ 68721639425 := by omega
      have hO2 : Hid (AllLimbs (out ++ [u % 65536])) := hO.out.snoc (by omega)
      have hAp2 : Hid (ap (out ++ [u % 65536]) (u / 65536 + rest ss (fun i => ys.getD i 0) t (k + 1)) = T) := by
        show ap _ _ = T
        rw [ap_snoc, ← hAp.out, hstep]
        congr 1
        omega
      have hU2 : Hid (Upd cs off (out ++ [u % 65536]) (ds.set (off + k) (u % 65536))) := by
        have := hU.out.snoc (u % 65536) (by have := HLc.out; have := hOL.out; omega)
        rw [hOL.out] at this; exact this
      have hOL2 : Hid ((out ++ [u % 65536]).length = k + 1) := by show _ = _; rw [List.length_append, hOL.out]; rfl
      have hB2 : Hid (Blk (wr.setCell ⟨g, off + k, none⟩ (.int .i64 (u % 65536))) g (ds.set (off + k) (u % 65536))) := hBk.out.set _ _
      have hf := hBk.out.frozen (off + k)
      have HKc := Lib.hid hK.out
      have HU := Lib.hid hu
      have HC := Lib.hid hcell0
      have hf2 : Hid (wr.frozen? ⟨g, off + k, none⟩ = false) := hf
      clear hs hy hstep hval hU hO hAp hBk hK HS HLc HSS HSL HY HYL HA hrd hatp hf
      have hc0 : wr.cell? ⟨g, off + k, none⟩ = some (.int .i64 s) := HC.out
      have e1 : IntKind.i64.wrap (t * y) = p := by rw [← HP.out]; exact IntWalk.i64_in _ (by omega)
      have e2 : IntKind.i64.wrap (s + p) = s + p := IntWalk.i64_in _ (by omega)
      have e3 : IntKind.i64.wrap (cy + (s + p)) = u := by rw [← hu]; exact IntWalk.i64_in _ (by omega)
      have em : bits BinOp.and IntKind.i64 u 65535 = u % 65536 := mask_i64 u (by omega)
      have hkk : k ≤ 4000000 := by omega
      clear hu hp hcell0
      go_wp2
      go_quiet ((go_at_call 139; exact Calls.quiet_of_same (limbAt_at _ _ _ ys _ y _ (HRD.out.kept0 ((Kept.refl [] wr).drewN _)) (by omega) HATP.out)))
      clear e1 e2 e3
      have hfz : wr.frozen? ⟨g, off + k, none⟩ = false := hf2.out
      go_wp2
      go_roundw
      case rel => exact ⟨k + 1, _, _, u / 65536, by omega, rfl, by go_num, by omega, by omega, hOL2, hO2, hAp2, hU2, hB2, (HKc.out.drewN nq).setCell _ _ (by simp)⟩
      case measure => simp [intOf]; omega
    · obtain rfl : k = n := by omega
      have hend : ap out cy = T := by
        have := hAp.out
        rw [← HS.out, rest_end, Int.add_zero] at this; exact this
      have HE := Lib.hid hend
      clear hend
      go_wp2
      go_ret
      exact ⟨out, ds, cy, rfl, hOL.out, hO.out, HE.out, hU.out, hBk.out, hK.out, hc1, hc2⟩

set_option maxHeartbeats 400000 in
theorem trimLimbs_any (a : Option Addr) (n c : Nat) (xs : List Int) (w : World) (h : Rd w a n xs) (hc : n ≤ c) (hcm : c ≤ 9223372036854775807) (hl : AllLimbs xs) :
    Calls Try.prog 150 #[.slice a n c] w fun e w' => e = .returned (.slice a (digits (val xs)).length c) ∧ (digits (val xs) = xs.take (digits (val xs)).length) ∧ (digits (val xs)).length ≤ n ∧ w = w' := by
  have hmax := h.2.1
  have HR := Lib.hid h
  have HL := Lib.hid h.1
  have HLL := Lib.hid hl
  clear h hl
  go_enter Try.func150, Try.ntmps150
  go_wp2
  go_loopw [3] (fun i wr => ∃ k : Nat, k ≤ n ∧ i = .int .i64 k ∧ Hid (∀ j, k ≤ j → j < n → xs.getD j 0 = 0) ∧ wr = w) (fun i _ => (intOf i).toNat)
  case atStart => exact ⟨n, Nat.le_refl _, rfl, fun j h1 h2 => by omega, rfl⟩
  case round =>
    obtain ⟨k, hk, rfl, hZ, rfl⟩ := hrel
    by_cases hp : 0 < k
    · obtain ⟨g, off, rfl, hc0⟩ := HR.out.2.2 (k - 1) (by omega)
      have hp' : (0 : Int) < (k : Int) := by omega
      have h1 : (1 : Int) ≤ (k : Int) := by omega
      have h2 : (k : Int) - 1 < (n : Int) := by omega
      have h0 : (0 : Int) ≤ (k : Int) - 1 := by omega
      by_cases hz : xs.getD (k - 1) 0 = 0
      · have hZ2 : Hid (∀ j, k - 1 ≤ j → j < n → xs.getD j 0 = 0) := fun j h1 h2 => by
          by_cases e : j = k - 1
          · subst e; exact hz
          · exact hZ.out j (by omega) h2
        rw [hz] at hc0
        clear hz
        go_wp2
        go_roundw
        case rel => exact ⟨k - 1, by omega, by congr 1; omega, hZ2, by trivial⟩
        case measure => simp [intOf]; omega
      · have hd : Hid (xs.take k = digits (val xs)) := take_digits HLL.out k (by rw [HL.out]; exact hk) (fun j h1 h2 => hZ.out j h1 (by rw [← HL.out]; exact h2)) (fun _ => hz)
        have hdl : Hid ((digits (val xs)).length = k) := by show _ = _; rw [← hd.out, List.length_take, HL.out]; omega
        have hz' : (xs.getD (k - 1) 0 == 0) = false := by rw [beq_eq_false_iff_ne]; exact hz
        have hkc : k ≤ c := by omega
        clear hz
        generalize hy : xs.getD (k - 1) 0 = y at *
        clear hy
        go_wp2
        go_ret
        exact ⟨by rw [hdl.out]; rfl, by rw [hdl.out, hd.out], by rw [hdl.out]; exact hk, rfl⟩
    · obtain rfl : k = 0 := by omega
      have hd : Hid (xs.take 0 = digits (val xs)) := take_digits HLL.out 0 (by omega) (fun j h1 h2 => hZ.out j h1 (by rw [← HL.out]; exact h2)) (fun h => by omega)
      have hdl : Hid ((digits (val xs)).length = 0) := by show _ = _; rw [← hd.out]; rfl
      go_wp2
      go_ret
      exact ⟨by rw [hdl.out]; rfl, by rw [hdl.out, hd.out], by rw [hdl.out]; exact hk, rfl⟩

end Go.Proofs.Ytjndjjdffifgcaa
