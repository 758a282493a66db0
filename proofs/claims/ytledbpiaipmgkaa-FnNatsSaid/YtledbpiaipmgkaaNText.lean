/-
  Contract of the program's NatText. Condition: the slice is one of numbers in its own block.
-/
import Derived.Test.YtledbpiaipmgkaaTen
import Derived.Test.YtledbpiaipmgkaaRevB
namespace Go.Proofs.Ytledbpiaipmgkaa
open Go.RowKit

theorem Try.info8 : (Try.prog.info? 5).map (fun i => (i.zero, i.size, i.bytes)) = some (some (.int .u8 0), 1, 1) := by kernel_rfl

/-- The call owns, from block B on, a slice that holds the bytes xs. -/
def OwT (B : Nat) (w : World) (v : Value) (xs : List Int) : Prop := w.ownsRow B 5 1 v xs.length (xs.map (Value.int .u8))
theorem OwT.alloc {B : Nat} {w : World} {v : Value} {xs : List Int} (h : OwT B w v xs) (o : Obj) : OwT B (w.alloc o) v xs := World.ownsRow.alloc h o
theorem OwT.kept {B : Nat} {w w' : World} {v : Value} {xs : List Int} {L : List Nat} (h : OwT B w v xs) (k : Kept L w w') (hL : ∀ g, v.ownBlock = some g → g ∉ L) : OwT B w' v xs := by
  have hlt := World.ownsRow.lt h
  obtain ⟨h1, h2⟩ := h
  refine ⟨h1, ?_⟩
  rcases h2 with h2 | ⟨g, cap, cur, hv, hg, hh, r⟩
  · exact Or.inl h2
  · exact Or.inr ⟨g, cap, cur, hv, hg, by rw [k.block g (hlt g (by rw [hv]; rfl)).2 (hL g (by rw [hv]; rfl))]; exact hh, r⟩

/-- One byte more at the end of a slice that the call owns. -/
theorem appB {w : World} {ops : Array Oper} {rest : List Oper} {o : Oper} {a : Act} {Q : Exit → Act → World → Prop} (hgd : o.guard = none) (s x : Operand)
    (ho : o.op = .call { callee := .builtin .append, args := #[s, x], argTypes := #[22, 22] })
    (base : Nat) (v : Value) (xs : List Int) (hs : a.eval s = v) (hown : OwT base w v xs)
    (g0 : Nat) (y : Int) (hx : a.eval x = .slice (some ⟨g0, 0, none⟩) 1 1) (hc : w.cell? ⟨g0, 0, none⟩ = some (.int .u8 y))
    (hlen : xs.length ≤ 1099511627776) (hbase : base ≤ w.heap.size)
    (h : ∀ v' w', OwT base w' v' (xs ++ [y]) → w.grownBy w' v.ownBlock → wpList Try.prog ops Q rest (a.put o.dst v') w') :
    wpList Try.prog ops Q (o :: rest) a w := by
  obtain ⟨i0, hi, hz0, hz1, hz2⟩ := info_parts Try.info8
  refine wpList_append_own w hgd s x 22 ho base 5 i0 (.int .u8 0) 1 1 Try.underlying22 hi hz0 hz1 hz2 rfl (by decide) v xs.length _ hs hown ⟨g0, 0, none⟩ 1 1 [.int .u8 y] hx rfl ?_ ?_ ?_ ?_ hbase ?_
  · intro j u hj
    have hj0 : j = 0 := by
      have := (List.getElem?_eq_some_iff.1 hj).1
      simp at this; exact this
    subst hj0
    simp at hj
    subst hj
    rw [Addr.add_lit]; exact hc
  · intro u hu; simp at hu; subst hu; rfl
  · unfold maxLen; omega
  · omega
  · intro v' w' h1 h2 _
    refine h v' w' ?_ h2
    have e : (xs ++ [y]).length = xs.length + 1 := by simp
    unfold OwT
    rw [e, List.map_append]
    exact h1

def ownL (v : Value) : List Nat := match v.ownBlock with | some g => [g] | none => []
theorem kept_ownL {w w' : World} {v : Value} (hG : w.grownBy w' v.ownBlock) : Kept (ownL v) w w' :=
  (Kept.refl _ w).grown hG (fun k hk _ => by unfold ownL; rw [hk]; simp)
theorem ownL_ge {B : Nat} {w : World} {v : Value} {xs : List Int} (h : OwT B w v xs) : ∀ x, x ∈ ownL v → B ≤ x := by
  intro x hx
  unfold ownL at hx
  cases hv : v.ownBlock with
  | none => rw [hv] at hx; simp at hx
  | some g => rw [hv] at hx; simp at hx; subst hx; exact (World.ownsRow.lt h x hv).1

/-- How many digits may yet come. -/
def bytesLeft : Value → Nat
  | .slice _ n _ => 16001 - n
  | _ => 0
theorem OwT.left {B : Nat} {w : World} {v : Value} {xs : List Int} (h : OwT B w v xs) : bytesLeft v = 16001 - xs.length := by
  obtain ⟨_, h2⟩ := h
  rcases h2 with ⟨rfl, h3⟩ | ⟨g, cap, cur, rfl, _⟩
  · rw [h3]; rfl
  · rfl

theorem OwT.holds {B : Nat} {w : World} {v : Value} {xs : List Int} (h : OwT B w v xs) (hp : 0 < xs.length) :
    ∃ g c, v = .slice (some ⟨g, 0, none⟩) xs.length c ∧ B ≤ g ∧ g < w.heap.size ∧ Sort.Holds (Value.int .u8) w g 0 xs.toArray := by
  have hlt := World.ownsRow.lt h
  obtain ⟨h1, h2⟩ := h
  rcases h2 with ⟨_, h3⟩ | ⟨g, cap, cur, hv, hg, hh, hc, hm, hs, ht⟩
  · omega
  · refine ⟨g, cap, hv, hg, (hlt g (by rw [hv]; rfl)).2, fun j hj => ?_⟩
    have hj' : j < xs.length := by simpa using hj
    rw [Nat.zero_add]
    refine ⟨?_, frozen_of_row w g j _ _ hh⟩
    have h5 : cur[j]? = some (.int .u8 (xs[j])) := by
      have h6 := congrArg (fun l => l[j]?) ht
      simp only [List.getElem?_map] at h6
      rw [List.getElem?_take_of_lt (by omega)] at h6
      rw [List.getElem?_eq_getElem hj'] at h6
      simpa using h6
    rw [cell_of_row w g j cur _ _ hh, h5]
    simp [hj']

theorem kept_putRow {L : List Nat} {w wr : World} (h : Kept L w wr) (n g : Nat) (d : Array Int) (hg : w.heap.size ≤ g) : Kept L w (Sort.putRow (Value.int .u8) (Sort.ahead wr n) g 0 d) := by
  refine ⟨h.os, h.tape, h.output, by rw [Sort.size_putRow]; exact h.size, fun k hk hL => ?_⟩
  have h1 := h.block k hk hL
  rw [← h1]
  simp only [Sort.putRow, Sort.mapBlock, Sort.ahead]
  rw [Array.getElem?_modify, if_neg (by omega)]

set_option maxHeartbeats 2000000 in
theorem NatText_any (a : Option Addr) (n c : Nat) (xs : List Int) (w : World) (h : Sl w a n c xs) :
    Calls Try.prog 27 #[.slice a n c] w (Ans w (.agg #[.int .i64 (natFault xs), .string (textVal xs)])) := by
  have k0 : Kept [] w (w.alloc (.cells #[.int .i64 0, .string ⟨#[]⟩] 42)) := (Kept.refl [] w).alloc _
  have HK0 := Lib.hid k0
  have HS := Lib.hid h
  have HL := Lib.hid h.1
  clear h k0
  by_cases hz : natFault xs = 0
  · have hz' := Lib.hid hz
    have hx := Lib.hid (natFault_zero hz)
    have hn : Hid (n ≤ 1000) := by show _ ≤ _; have h1 := hx.out.1; have h2 := HL.out; omega
    have e2 : textVal xs = strOfNums (decText (val xs)) := by unfold textVal; rw [if_pos hz]
    rw [hz, e2]
    obtain ⟨T, hT⟩ : ∃ T, T = strOfNums (decText (val xs)) := ⟨_, rfl⟩
    rw [← hT]
    have HT := Lib.hid hT
    clear e2 hz hT
    by_cases h0 : n = 0
    · subst h0
      have e1 : Hid (T = ⟨#[48]⟩) := by
        show _ = _
        rw [HT.out, List.eq_nil_of_length_eq_zero HL.out]; rfl
      go_enter Try.func27, Try.ntmps27
      go_wp2_with fail
      refine (NatFault_any _ _ _ _ _ (HS.out.rd.kept0 HK0.out)).mono ?_
      rintro e w1 ⟨rfl, hq⟩
      rw [hz'.out]
      have HQ1 := Lib.hid hq
      obtain ⟨hc0, hc1, hf0, hf1, hsz⟩ := resCellsT HQ1.out (by simp)
      obtain ⟨ea, eb, ec⟩ := cells2 (.int .i64 0) (.string ⟨#[48]⟩) hc0 hc1
      clear hq
      go_wp2_with fail
      exact bodyPost_ret (v := .agg #[.int .i64 0, .string T]) (by rw [e1.out]; simp [results, Try.results27, go_sem, eb, ec]) rfl (by rw [e1.out]; exact textR_fin _ _ HQ1.out)
    · have hv0 : 0 < val xs := (canon_nonneg hx.out.canon).2 (fun e => h0 (by rw [← HL.out, e]; rfl))
      have hvw : 0 ≤ val xs ∧ val xs < pw 1000 := by
        have hll : AllLimbs xs := hx.out.limb
        have h1 := hll.val
        have h2 := pw_mono xs.length 1000 (by rw [HL.out]; exact hn.out)
        omega
      have hlim : (dec (val xs)).length ≤ 16 * 1000 := dec_len hvw.2
      have HD0 : Hid (digits (val xs) = xs) := digits_val hx.out.canon
      have hnz : ((n : Int) == 0) = false := by rw [beq_eq_false_iff_ne]; omega
      have hTr : Hid (T = strOfNums (dec (val xs)).reverse) := by show _ = _; rw [HT.out]; unfold decText; rw [if_neg (by omega)]
      have HVW := Lib.hid hvw
      have HLIM := Lib.hid hlim
      obtain ⟨V, hV⟩ : ∃ V, V = val xs := ⟨_, rfl⟩
      rw [← hV] at HD0 HVW HLIM hTr hv0
      have HVP := Lib.hid hv0
      clear hvw hlim hV h0 hv0
      go_enter Try.func27, Try.ntmps27
      go_wp2_with fail
      refine (NatFault_any _ _ _ _ _ (HS.out.rd.kept0 HK0.out)).mono ?_
      rintro e w1 ⟨rfl, hq⟩
      rw [hz'.out]
      have HQ := Lib.hid (HK0.out.trans0 hq)
      have HQ1 := Lib.hid hq
      clear hq
      go_wp2_with fail
      refine (Clone_any _ _ _ _ _ (HS.out.kept0 HQ.out) (by have := hn.out; omega)).mono ?_
      rintro e w2 ⟨v, rfl, hO, hq⟩
      obtain ⟨la, lc, rfl, hS2, hF2⟩ := hO.sl
      have HQ2 := Lib.hid (HQ1.out.trans0 hq)
      have hlt2 := Lib.hid (show 0 < xs.length → ∀ x, la = some x → x.block < w2.heap.size from fun hp x hx => hS2.lt hp x hx)
      have HS2 := Lib.hid hS2
      have HF2 := Lib.hid (hF2.mono HQ1.out.size)
      obtain ⟨w0, hw0⟩ : ∃ w0, w0 = w.alloc (.cells #[.int .i64 0, .string ⟨#[]⟩] 42) := ⟨_, rfl⟩
      rw [← hw0] at HQ2 HF2
      have HW0 := Lib.hid hw0
      clear hO hq hS2 hF2 hw0
      obtain ⟨B, hB⟩ : ∃ B, B = w2.heap.size := ⟨_, rfl⟩
      rw [← hB] at hlt2
      have HB0 : Hid (w0.heap.size ≤ B) := by show _ ≤ _; rw [hB]; exact HQ2.out.size
      have HB2 : Hid (B ≤ w2.heap.size) := by show _ ≤ _; omega
      clear hB
      go_wp2_with fail
      go_loopw [4, 5] (fun s4 s5 wr => ∃ (a' : Option Addr) (c' : Nat) (m : Int) (bs : List Int), s4 = .slice a' (digits m).length c' ∧ 0 ≤ m ∧ Hid (m ≤ V) ∧ Hid (bs ++ dec m = dec V) ∧ Hid (Sl wr a' (digits m).length c' (digits m)) ∧ Hid (0 < (digits m).length → ∀ x, a' = some x → w0.heap.size ≤ x.block ∧ x.block < B) ∧ Hid (OwT B wr s5 bs) ∧ Hid (B ≤ wr.heap.size) ∧ Hid (Kept [] w0 wr)) (fun _ s5 _ => bytesLeft s5)
      case atStart => exact ⟨la, lc, V, [], by rw [HD0.out], by have := HVP.out; omega, Int.le_refl _, by simp [Hid], by rw [HD0.out]; exact HS2.out, fun hp x hx => by rw [HD0.out] at hp; exact ⟨HF2.out hp x hx, hlt2.out hp x hx⟩, World.ownsRow_nil _ _ _ _, HB2.out, HQ2.out⟩
      case round =>
        obtain ⟨a', c', m, bs, rfl, hm0, hmV, hE, hSl, hSep, hOw, hBs, hK⟩ := hrel
        by_cases hm : 0 < m
        · have hpos : 0 < (digits m).length := by rw [digits_pos hm]; simp
          have hdl : (digits m).length ≤ 1000 := digits_len 1000 m (by have h1 := hmV.out; have h2 := HVW.out; omega)
          have hbl : bs.length < 16000 := by
            have h1 := congrArg List.length hE.out
            rw [dec_pos hm] at h1
            simp at h1
            have h2 := HLIM.out
            omega
          have hE2 : Hid ((bs ++ [48 + m % 10]) ++ dec (m / 10) = dec V) := by
            show _ = _
            rw [← hE.out, dec_pos hm]; simp
          have HVAL : Hid (val (digits m) = m) := val_digits' hm0
          have HDL := Lib.hid hdl
          have HBL := Lib.hid hbl
          go_wp2_with fail
          refine (takeTenth_any _ _ _ _ _ hSl.out (canon_limbs (canon_digits' _)) (by omega)).mono ?_
          rintro e w3 ⟨Q, rfl, hQl, hQa, hQv, hS3, hk3⟩
          rw [HVAL.out] at hQv ⊢
          obtain ⟨r, hr⟩ : ∃ r, r = m % 10 := ⟨_, rfl⟩
          rw [← hr] at hE2 ⊢
          have hr1 : 0 ≤ r := by omega
          have hr2 : r ≤ 9 := by omega
          have e3 : IntKind.i64.wrap (48 + r) = 48 + r := IntWalk.i64_in _ (by omega)
          have e4 : IntKind.u8.wrap (48 + r) = 48 + r := IntWalk.u8_in _ (by omega)
          have HK3 : Hid (Kept [] w0 w3) := hK.out.trans hk3 (fun x hx hlt => by
            obtain ⟨hp, y, hy, he⟩ := blkOf_mem hx
            have h1 := (hSep.out hp y hy).1
            omega)
          have HO3 : Hid (OwT B w3 u5 bs) := hOw.out.kept hk3 (fun g hg hm => by
            obtain ⟨hp, y, hy, he⟩ := blkOf_mem hm
            have h1 := (hSep.out hp y hy).2
            have h2 := (World.ownsRow.lt hOw.out g hg).1
            omega)
          have HB3 : Hid (B ≤ w3.heap.size) := Nat.le_trans hBs.out hk3.size
          have HS3 := Lib.hid hS3
          have HQA := Lib.hid hQa
          have HQV := Lib.hid hQv
          clear hQl hQa hQv hS3 hk3 hr
          go_wp2_with (at_builtin; refine appB rfl _ _ rfl B u5 bs rfl (HO3.out.alloc _) w3.heap.size (48 + r) rfl (by simp) (by omega) (by have := HB3.out; simp; omega) ?_)
          intro v' w4 hW hG
          have HW4 := Lib.hid hW
          have HK4 : Hid (Kept [] w0 w4) := (HK3.out.alloc _).trans (kept_ownL hG) (fun x hx hlt => by
            have h1 := ownL_ge HO3.out x hx
            have h2 := HB0.out
            omega)
          have hkG := kept_ownL hG
          have HS4 : Hid (Sl w4 a' (digits m).length c' Q) := (HS3.out.kept0 ((Kept.refl [] w3).alloc _)).kept hkG (fun hp x hx hm => by
            have h1 := ownL_ge HO3.out _ hm
            have h2 := (hSep.out hp x hx).2
            omega)
          have HB4 : Hid (B ≤ w4.heap.size) := by
            have h1 := hkG.size
            have h2 := HB3.out
            simp at h1
            show _ ≤ _; omega
          clear hW hG hkG
          go_wp2_with fail
          refine (trimLimbs_any _ _ _ _ _ HS4.out.rd HS4.out.2.1 HS4.out.2.2.1 HQA.out).mono ?_
          rintro e w5 ⟨rfl, hd1, hd2, rfl⟩
          rw [HQV.out] at hd1 hd2 ⊢
          have hS5 := HS4.out.front _ hd2
          rw [← hd1] at hS5
          have HS5 := Lib.hid hS5
          clear hS5 hd1
          go_wp2
          go_roundw
          case rel => exact ⟨a', c', m / 10, bs ++ [48 + r], rfl, by omega, by have := hmV.out; show _ ≤ _; omega, hE2, HS5, fun hp => hSep.out (by omega), HW4, HB4, HK4⟩
          case measure =>
            show bytesLeft v' < bytesLeft u5
            have h1 := HW4.out.left
            have h2 := hOw.out.left
            have h3 := HBL.out
            simp at h1
            omega
        · obtain rfl : m = 0 := by omega
          have hz : (digits 0).length = 0 := rfl
          rw [hz]
          have hbs : bs = dec V := by rw [← hE.out]; rw [dec_zero (by omega)]; simp
          subst hbs
          have hp : 0 < (dec V).length := by rw [dec_pos HVP.out]; simp
          have hl2 := HLIM.out
          obtain ⟨g, c5, rfl, hg, hlt, hH⟩ := hOw.out.holds hp
          obtain ⟨D, hD⟩ : ∃ D, D = dec V := ⟨_, rfl⟩
          rw [← hD] at hH hp hl2 hTr ⊢
          have HH := Lib.hid hH
          have hg0 : w0.heap.size ≤ g := Nat.le_trans HB0.out hg
          clear hH hE hOw hSl hSep hBs
          have hrv := reverseB_any g 0 c5 D wr HH.out (by omega)
          go_wp2_with fail
          rw [← hD]
          refine hrv.mono ?_
          rintro e w3 ⟨rfl, q, hw3⟩
          have HK3 : Hid (Kept [] w0 w3) := by rw [hw3]; exact kept_putRow hK.out _ _ _ hg0
          have hcv := run_convert_bytes_arg (P := Try.prog) w3 22 5 Try.underlying22 Try.underlying5 g 0 D.length c5 D.reverse (by simp) (fun i hi => by
            rw [hw3, Sort.cell?_putRow (Value.int .u8) _ g 0 D.toArray D.reverse.toArray (Sort.holds_ahead _ _ _ _ _ _ HH.out) (by simp) i (by simpa using hi)]
            simp [List.getD_eq_getElem?_getD, hi]) 9 Try.underlying9
          rw [← hTr.out, hD] at hcv
          rw [HW0.out] at HK3
          obtain ⟨hc0, hc1, hf0, hf1, hsz⟩ := resCellsT HK3.out (by simp)
          obtain ⟨ea, eb, ec⟩ := cells2 (.int .i64 0) (.string T) hc0 hc1
          clear hw3
          go_wp2_with fail
          exact bodyPost_ret (v := .agg #[.int .i64 0, .string T]) (by simp [results, Try.results27, go_sem, eb, ec]) rfl (textR_fin _ _ HK3.out)
  · have e2 : textVal xs = ⟨#[]⟩ := if_neg hz
    rw [e2]
    clear e2
    go_enter Try.func27, Try.ntmps27
    go_wp2_with fail
    refine (NatFault_any _ _ _ _ _ (HS.out.rd.kept0 HK0.out)).mono ?_
    rintro e w1 ⟨rfl, hq⟩
    generalize hf : natFault xs = f at *
    have hne : (f == 0) = false := by rw [beq_eq_false_iff_ne]; exact hz
    obtain ⟨hc0, hc1, hf0, hf1, hsz⟩ := resCellsT hq (by simp)
    obtain ⟨ea, eb, ec⟩ := cells2 (.int .i64 f) (.string ⟨#[]⟩) hc0 hc1
    have HQ := Lib.hid hq
    have HF := Lib.hid hf
    clear hf hz hq
    go_wp2_with fail
    exact bodyPost_ret (v := .agg #[.int .i64 f, .string ⟨#[]⟩]) (by simp [results, Try.results27, go_sem, eb, ec]) rfl (textR_fin _ _ HQ.out)

end Go.Proofs.Ytledbpiaipmgkaa
