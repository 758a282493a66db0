/-
  Contracts of the laws' helpers over stores: marking. Conditions: the store lies in blocks of its own; the marks are no great numbers.
-/
import Derived.Test.YtklecaojkngjmadCooA
import Derived.Test.YtklecaojkngjmadMkS
import Derived.Test.YtklecaojkngjmadStoE
namespace Go.Proofs.Ytklecaojkngjmad
open Go.RowKit

/-- The text that marks. -/
def mkT (u : Nat) : List UInt8 := 109 :: Lib.decDigits u
/-- What is left of the digits. -/
def DigLeft (u j : Nat) (D : List UInt8) : Prop := Lib.decDigits u = if j = 0 then D else Lib.decDigits j ++ D
theorem digLeft_step {u j : Nat} {D : List UInt8} (h : DigLeft u j D) (hj : 0 < j) : DigLeft u (j / 10) (dg j :: D) := by
  unfold DigLeft at h ⊢
  rw [if_neg (by omega)] at h
  by_cases h10 : j < 10
  · rw [if_pos (by omega), h, dec_one h10]; rfl
  · rw [if_neg (by omega), h, dec_step (by omega)]; simp
theorem decLen (u : Nat) (h : u ≤ 9223372036854775807) : (Lib.decDigits u).length ≤ 19 := decD_len (k := 19) (by omega) (by omega)
theorem digLeft_len {u j : Nat} {D : List UInt8} (h : DigLeft u j D) (hu : u ≤ 9223372036854775807) : D.length ≤ 19 := by
  have h1 := decLen u hu
  unfold DigLeft at h
  rw [h] at h1
  split at h1
  · exact h1
  · rw [List.length_append] at h1; omega

set_option maxHeartbeats 1000000 in
theorem markText_any (u : Nat) (w : World) (h0 : 0 < u) (hu : u ≤ 1099511627776) :
    Calls Try.prog 48 #[.int .i64 (u : Int)] w (Ans w (.string (strB (mkT u)))) := by
  have h00 : ¬ (u : Int) ≤ 0 := by omega
  have HU := Lib.hid hu
  clear hu
  go_enter Try.func48, Try.ntmps48
  go_wp2_with fail
  go_loopw [0, 3] (fun q o wr => ∃ (j : Nat) (D : List UInt8), q = .int .i64 (j : Int) ∧ o = .string (strB D) ∧ Hid (j ≤ 1099511627776) ∧ Hid (DigLeft u j D) ∧ Hid (Kept [] w wr)) (fun q _ _ => (intOf q).toNat)
  case atStart => exact ⟨u, [], rfl, rfl, HU.out, by show Lib.decDigits u = _; rw [if_neg (by omega)]; simp, Kept.refl _ _⟩
  case round =>
    obtain ⟨j, D, rfl, rfl, hj, hD, hK⟩ := hrel
    have hl := digLeft_len hD.out (by have := HU.out; omega)
    by_cases hj0 : 0 < j
    · obtain ⟨r, hr⟩ : ∃ r : Int, r = (j : Int) % 10 := ⟨_, rfl⟩
      obtain ⟨q, hq⟩ : ∃ q : Nat, q = j / 10 := ⟨_, rfl⟩
      have hj2 := hj.out
      have hD2 : Hid (DigLeft u q (dg j :: D)) := by rw [hq]; exact digLeft_step hD.out hj0
      have hv : Hid (strOfNums [48 + r] ++ strB D = strB (dg j :: D)) := by
        show _ = _
        rw [one_text hr, strB_append]; rfl
      have e1 : (j : Int).tdiv 10 = (q : Int) := by
        rw [Int.tdiv_eq_ediv_of_nonneg (by omega)]; omega
      have e2 : (j : Int).tmod 10 = r := by
        rw [Int.tmod_eq_emod_of_nonneg (by omega)]; omega
      have hr0 : 0 ≤ r := by omega
      have hr9 : r ≤ 9 := by omega
      have e3 : IntKind.i64.wrap (48 + r) = 48 + r := IntWalk.i64_in _ (by omega)
      have e4 : IntKind.u8.wrap (48 + r) = 48 + r := IntWalk.u8_in _ (by omega)
      have e5 : (j : Int) / 10 = (q : Int) := by omega
      have e6 : (j : Int) % 10 = r := hr.symm
      have e7 : IntKind.i64.wrap (q : Int) = q := IntWalk.i64_in _ (by omega)
      have hjp : (0 : Int) < j := by omega
      have hql : Hid (q ≤ 1099511627776) := by show _ ≤ _; omega
      have hqj : q < j := by omega
      have hB := run_byteText (wr.alloc (.cells #[.int .u8 (48 + r)] 5)) wr.heap.size (48 + r) (by simp)
      have z1 : (strB D).size ≤ 19 := by rw [strB_size]; exact hl
      have z2 : (strOfNums [48 + r]).size ≤ 1 := by rw [one_text hr, strB_size]; simp
      obtain ⟨T1, hT1⟩ : ∃ T, strB D = T := ⟨_, rfl⟩
      obtain ⟨T2, hT2⟩ : ∃ T, strOfNums [48 + r] = T := ⟨_, rfl⟩
      rw [hT2] at z2 hv hB
      rw [hT1] at z1 hv ⊢
      have z3 : ¬ 9223372036854775807 < T2.size + T1.size := by omega
      have hK2 := Lib.hid (hK.out.alloc (.cells #[.int .u8 (48 + r)] 5))
      clear hq hr hT1 hT2 hl hK hD
      go_wp2_with fail
      go_roundw
      case rel => exact ⟨q, dg j :: D, rfl, by rw [← hv.out], hql, hD2, hK2⟩
      case measure => simp [intOf]; omega
    · obtain rfl : j = 0 := by omega
      have hd : Hid (Lib.decDigits u = D) := by
        have := hD.out
        unfold DigLeft at this
        rw [if_pos rfl] at this; exact this
      have z3 : (strB D).size ≤ 19 := by rw [strB_size]; exact hl
      have hv : Hid (⟨#[109]⟩ ++ strB D = strB (mkT u)) := by
        show _ = _
        unfold mkT
        rw [hd.out, show (⟨#[109]⟩ : ByteArray) = strB [109] from rfl, strB_append]; rfl
      generalize strB D = T at *
      go_wp2_with fail
      go_ret
      exact ⟨by rw [← hv.out]; rfl, hK.out⟩

/-- The mark at a place. -/
def kAt (L : List Sh) (k : Int) : Nat → Int
  | 0 => k
  | i + 1 => kAt L k i + 2 + ((L.getD i sh0).n * 2 : Nat)
theorem kAt_le (L : List Sh) (k : Int) (i : Nat) : k ≤ kAt L k i ∧ kAt L k i ≤ k + 2 * i + 2 * (szAt L i : Nat) := by
  induction i with
  | zero => simp [kAt, szAt]
  | succ i ih => simp only [kAt, szAt]; omega
def mrk (L : List Sh) (k : Int) (i : Nat) : Sh := ⟨mkT (kAt L k i).toNat, kAt L k i + 1, (L.getD i sh0).n, cnt (kAt L k i + 2) ((L.getD i sh0).n * 2)⟩
/-- The named shapes, the first j of them marked. -/
def markL (L : List Sh) (k : Int) (j : Nat) : List Sh := (List.range L.length).map fun i => if i < j then mrk L k i else L.getD i sh0
theorem markL_len (L : List Sh) (k : Int) (j : Nat) : (markL L k j).length = L.length := by simp [markL]
theorem markL_at {L : List Sh} (k : Int) (j : Nat) {i : Nat} (h : i < L.length) : (markL L k j).getD i sh0 = if i < j then mrk L k i else L.getD i sh0 := by
  simp [markL, List.getD_eq_getElem?_getD, h]
theorem StB.congr {w : World} {g : Nat} {gs cs : Nat → Nat} {n : Nat} {L M : List Sh} (h : StB w g gs cs n L) (hl : M.length = n) (he : ∀ i, i < n → M.getD i sh0 = L.getD i sh0) : StB w g gs cs n M := by
  obtain ⟨h1, h2, h3, h4⟩ := h
  refine ⟨hl, h2, h3.congr (fun j hj => ?_), fun i hi => by rw [he i hi]; exact h4 i hi⟩
  unfold stF
  rw [he (j / 3) (by omega)]
theorem StB.upd {w w' : World} {g : Nat} {gs cs : Nat → Nat} {n : Nat} {M M' : List Sh} (h : StB w g gs cs n M) {j : Nat} (hj : j < n) {s : Sh} (hl : M'.length = n) (ho : ∀ i, i < n → i ≠ j → M'.getD i sh0 = M.getD i sh0) (hs : M'.getD j sh0 = s)
    (hn : s.n = (M.getD j sh0).n) (hxs : s.xs.length = s.n * 2) (hnm : s.nm.length ≤ 2000000)
    (hr : RowF w' g (n * 3) (fun t => if t = j * 3 + 1 then .int .i64 s.k else if t = j * 3 then .string (strB s.nm) else stF M gs cs t)) (hb : Blk w' (gs j) s.xs) (hbo : ∀ i, i < n → i ≠ j → Blk w' (gs i) (M.getD i sh0).xs) : StB w' g gs cs n M' := by
  obtain ⟨h1, h2, h3, h4⟩ := h
  refine ⟨hl, h2, hr.congr (fun t ht => ?_), fun i hi => ?_⟩
  · by_cases e1 : t = j * 3 + 1
    · subst e1; simp only [if_true]; rw [stF_1, hs]
    · rw [if_neg e1]
      by_cases e0 : t = j * 3
      · subst e0; rw [if_pos rfl, stF_0, hs]
      · rw [if_neg e0]
        by_cases e2 : t = j * 3 + 2
        · subst e2; rw [stF_2, stF_2, hs, hn]
        · unfold stF
          rw [ho (t / 3) (by omega) (by omega)]
  · obtain ⟨q1, q2, q3, q4, q5⟩ := h4 i hi
    by_cases e : i = j
    · subst e
      rw [hs]
      exact ⟨hb, hxs, by rw [hn]; exact q3, hnm, q5⟩
    · rw [ho i hi e]
      exact ⟨hbo i hi e, q2, q3, q4, q5⟩

/-- The blocks of a store. -/
def blksS (g : Nat) (gs : Nat → Nat) (n : Nat) : List Nat := g :: (List.range n).map gs
theorem blksS_mem {g : Nat} {gs : Nat → Nat} {n i : Nat} (h : i < n) : gs i ∈ blksS g gs n := List.mem_cons_of_mem _ (List.mem_map.2 ⟨i, List.mem_range.2 h, rfl⟩)
theorem blksS_g (g : Nat) (gs : Nat → Nat) (n : Nat) : g ∈ blksS g gs n := List.mem_cons_self
theorem StA.blks {B g : Nat} {gs : Nat → Nat} {n : Nat} (h : StA B g gs n) : ∀ x ∈ blksS g gs n, B ≤ x := by
  intro x hx
  rcases List.mem_cons.1 hx with rfl | hx
  · exact h.1
  · obtain ⟨i, hi, rfl⟩ := List.mem_map.1 hx
    exact h.2 i (List.mem_range.1 hi)

theorem Kept.freeS0 {L : List Nat} {w w' : World} {p : Addr} {v : Value} (h : Kept L w w') (hc : w.cell? p = some v) (hf : w.frozen? p = false) (hg : p.block ∉ L) : w'.frozen? p = false :=
  h.free hf (World.block_lt_of_cell? w p hc) hg

set_option maxHeartbeats 1000000 in
theorem markNamedS_any (g : Nat) (gs cs : Nat → Nat) (n c : Nat) (L : List Sh) (k : Int) (w : World) (h : StB w g gs cs n L) (hk : 1 ≤ k ∧ k ≤ 1099511627) (hn : n + szAt L n ≤ 2000000) :
    Calls Try.prog 32 #[.slice (some ⟨g, 0, none⟩) n c, .int .i64 k] w fun e w' => e = .returned (.int .i64 (kAt L k n)) ∧ StB w' g gs cs n (markL L k n) ∧ Kept (blksS g gs n) w w' := by
  have hlen := h.1
  have hmax := h.2.1
  have HN := Lib.hid hn
  have HKK := Lib.hid hk
  have H0 := Lib.hid h
  have HL := Lib.hid hlen
  clear hn h hlen
  go_enter Try.func32, Try.ntmps32
  go_wp2
  go_loopw [1, 5] (fun q i wr => ∃ (j : Nat), j ≤ n ∧ q = .int .i64 (kAt L k j) ∧ i = .int .i64 j ∧ Hid (StB wr g gs cs n (markL L k j)) ∧ Hid (Kept (blksS g gs n) w wr)) (fun _ i _ => n - (intOf i).toNat)
  case atStart => exact ⟨0, Nat.zero_le _, rfl, rfl, H0.out.congr (by rw [markL_len]; exact HL.out) (fun i hi => by rw [markL_at _ _ (by rw [HL.out]; exact hi), if_neg (by omega)]), Kept.refl _ _⟩
  case round =>
    obtain ⟨j, hj, rfl, rfl, hS, hK⟩ := hrel
    by_cases hlt : j < n
    · have hSj := hS.out.2.2.2 j hlt
      have hrow := hS.out.2.2.1
      have hMj : (markL L k j).getD j sh0 = L.getD j sh0 := by rw [markL_at _ _ (by rw [HL.out]; exact hlt), if_neg (by omega)]
      have c2 := hrow.cell (j := j * 3 + 2) (by omega)
      rw [stF_2, hMj] at c2
      have c0 := hrow.cell (j := j * 3) (by omega)
      have c1 := hrow.cell (j := j * 3 + 1) (by omega)
      have f0 := hrow.frozen (j * 3)
      have f1 := hrow.frozen (j * 3 + 1)
      rw [stF_0] at c0
      rw [stF_1] at c1
      generalize strB ((markL L k j).getD j sh0).nm = y0 at c0
      generalize ((markL L k j).getD j sh0).k = y1 at c1
      have hkb := kAt_le L k j
      have hsz := szAt_mono L (show j ≤ n by omega)
      have hnn := HN.out
      have hk2 := HKK.out
      obtain ⟨u, hu⟩ : ∃ u : Nat, kAt L k j = u := ⟨(kAt L k j).toNat, by omega⟩
      rw [hu] at hkb ⊢
      have hu0 : 0 < u := by omega
      have hub : u ≤ 1099511627776 := by omega
      have hui : (u : Int) ≤ 1099511627776 := by omega
      have HU := Lib.hid hu
      obtain ⟨m, hm⟩ : ∃ m, (L.getD j sh0).n = m := ⟨_, rfl⟩
      rw [hm] at c2
      rw [hMj] at hSj
      have HSJ := Lib.hid hSj
      have HMJ := Lib.hid hMj
      have HM := Lib.hid hm
      have C := Lib.hid (And.intro (And.intro c0 f0) (And.intro (And.intro c1 f1) c2))
      clear hm
      clear hk2 hnn hsz hkb hu hSj hrow hMj c0 c1 c2 f0 f1
      have hcc := C.out.1.1
      have hff := C.out.1.2
      have hu1 : IntKind.i64.wrap ((u : Int) + 1) = (u : Int) + 1 := IntWalk.i64_in _ (by omega)
      have hu2 : IntKind.i64.wrap ((u : Int) + 1 + 1) = (u : Int) + 1 + 1 := IntWalk.i64_in _ (by omega)
      have HUB := Lib.hid (And.intro hu0 hub)
      clear hu0 hub
      go_wp2_with fail
      refine (markText_any u _ HUB.out.1 HUB.out.2).mono ?_
      rintro e w1 ⟨rfl, h1⟩
      have S1 := Lib.hid (hS.out.kept0 h1)
      have K1 := Lib.hid (hK.out.trans0 h1)
      have c0 := h1.cell C.out.1.1 (by simp)
      have f0 := h1.freeS0 C.out.1.1 C.out.1.2 (by simp)
      have c1 := h1.cell C.out.2.1.1 (by simp)
      have f1 := h1.freeS0 C.out.2.1.1 C.out.2.1.2 (by simp)
      have c2 := h1.cell C.out.2.2 (by simp)
      clear h1 hcc hff
      obtain ⟨T, hT⟩ : ∃ T, strB (mkT u) = T := ⟨_, rfl⟩
      rw [hT]
      have HT := Lib.hid hT
      clear hT
      have hgj := HSJ.out.2.2.2.2.1
      have hxs := HSJ.out.2.1
      have hmm := HSJ.out.2.2.1
      rw [HM.out] at hxs hmm
      obtain ⟨q1, _⟩ := S1.out.2.2.2 j hlt
      rw [HMJ.out] at q1
      have SP : Hid (SlP ((w1.setCell ⟨g, j * 3, none⟩ (.string T)).setCell ⟨g, j * 3 + 1, none⟩ (.int .i64 ((u : Int) + 1))) (some ⟨gs j, 0, none⟩) m (L.getD j sh0).xs) := ⟨hmm, hxs, .inr ⟨gs j, rfl, (q1.other _ _ hgj).other _ _ hgj⟩⟩
      have hub2 : Hid (0 ≤ (u : Int) + 1 + 1 ∧ (u : Int) + 1 + 1 ≤ 1099511627776) := by
        have h1 := kAt_le L k j
        have h2 := szAt_mono L (show j ≤ n by omega)
        have h3 := HN.out
        have h4 := HKK.out
        have h5 := HU.out
        show _ ∧ _
        omega
      clear q1 hgj hxs hmm
      go_wp2_with fail
      refine (markPointS_any _ _ _ _ _ _ SP.out hub2.out).mono ?_
      rintro e w2 ⟨rfl, hp, hk2⟩
      have HP := Lib.hid hp
      have HK2 := Lib.hid hk2
      clear hp hk2
      obtain ⟨z, hz⟩ : ∃ z : Int, (u : Int) + 1 + 1 + ((m * 2 : Nat) : Int) = z := ⟨_, rfl⟩
      rw [hz]
      have HZ := Lib.hid hz
      clear hz c0 f0 c1 f1 c2
      go_wp2_with fail
      go_roundw
      case rel =>
        have hgb : gs j ≠ g := HSJ.out.2.2.2.2.1
        have kW : Kept [g] w1 ((w1.setCell ⟨g, j * 3, none⟩ (.string T)).setCell ⟨g, j * 3 + 1, none⟩ (.int .i64 ((u : Int) + 1))) := ((Kept.refl [g] w1).setCell _ _ (by simp)).setCell _ _ (by simp)
        have kB : ∀ x ∈ blkP (some ⟨gs j, 0, none⟩) m, x = gs j := by
          intro x hx
          unfold blkP at hx
          split at hx
          · simp at hx
          · simpa using hx
        have kall : Kept [g, gs j] w1 w2 := (kW.mono (M := [g, gs j]) (by simp)).trans HK2.out (fun x hx _ => by rw [kB x hx]; simp)
        have hu3 : kAt L k (j + 1) = z := by
          simp only [kAt]
          have := HU.out; have := HZ.out; have := HM.out
          rw [HU.out, HM.out]; omega
        refine ⟨j + 1, by omega, by rw [hu3], by go_num, ?_, ?_⟩
        · refine S1.out.upd (j := j) (s := mrk L k j) hlt (by rw [markL_len]; exact HL.out) (fun i hi he => ?_) ?_ ?_ ?_ ?_ ?_ ?_ ?_
          · rw [markL_at _ _ (by rw [HL.out]; exact hi), markL_at _ _ (by rw [HL.out]; exact hi)]
            by_cases hij : i < j
            · rw [if_pos hij, if_pos (by omega)]
            · rw [if_neg hij, if_neg (by omega)]
          · rw [markL_at _ _ (by rw [HL.out]; exact hlt), if_pos (by omega)]
          · rw [HMJ.out]; rfl
          · show (cnt _ _).length = _
            rw [cnt_length]; rfl
          · show (mkT _).length ≤ _
            unfold mkT
            have h19 := decLen (kAt L k j).toNat (by rw [HU.out]; have := HUB.out; omega)
            simp only [List.length_cons]; omega
          · have r1 := (S1.out.2.2.1.set (j * 3) (.string T)).set (j * 3 + 1) (.int .i64 ((u : Int) + 1))
            have r2 := r1.kept HK2.out (fun hx => hgb (kB g hx).symm)
            refine r2.congr (fun t _ => ?_)
            have e1 : (mrk L k j).k = (u : Int) + 1 := by show kAt L k j + 1 = _; rw [HU.out]
            have e2 : strB (mrk L k j).nm = T := by show strB (mkT (kAt L k j).toNat) = T; rw [HU.out]; exact HT.out
            rw [e1, e2]
          · show Blk w2 (gs j) (cnt (kAt L k j + 2) ((L.getD j sh0).n * 2))
            rw [HU.out, HM.out]
            obtain ⟨_, _, h3⟩ := HP.out
            rcases h3 with h0 | ⟨gg, hgg, hb⟩
            · subst h0
              have hb0 := HSJ.out.2.1
              rw [HM.out] at hb0
              have hxx : (L.getD j sh0).xs = [] := List.eq_nil_of_length_eq_zero (by omega)
              have q2 := (S1.out.2.2.2 j hlt).1
              rw [HMJ.out, hxx] at q2
              have q3 := ((q2.other ⟨g, j * 3, none⟩ (.string T) hgb).other ⟨g, j * 3 + 1, none⟩ (.int .i64 ((u : Int) + 1)) hgb)
              have q4 := HK2.out.blk q3 (by simp [blkP])
              simpa [cnt] using q4
            · simp at hgg
              subst hgg
              rw [show (u : Int) + 2 = (u : Int) + 1 + 1 by omega]; exact hb
          · intro i hi he
            obtain ⟨q2, _, _, _, q5, q6⟩ := S1.out.2.2.2 i hi
            refine kall.blk q2 ?_
            simp only [List.mem_cons, List.not_mem_nil, or_false, not_or]
            refine ⟨q5, ?_⟩
            rcases (by omega : i < j ∨ j < i) with h | h
            · exact (S1.out.2.2.2 j hlt).2.2.2.2.2 i h
            · exact fun x => q6 j h x.symm
        · refine K1.out.trans kall (fun x hx _ => ?_)
          simp at hx
          rcases hx with rfl | rfl
          · exact blksS_g _ _ _
          · exact blksS_mem hlt
      case measure => simp [intOf]; omega
    · obtain rfl : j = n := by omega
      go_wp2
      go_ret
      exact ⟨rfl, hS.out, hK.out⟩

end Go.Proofs.Ytklecaojkngjmad
