/-
  Contract of tenTimesAnd: limbs times ten, and a digit more, in place. Condition: the limbs are the call's own.
-/
import Derived.Test.YtledbpiaipmgkaaReadP
import Derived.Test.YtledbpiaipmgkaaJ1
namespace Go.Proofs.Ytledbpiaipmgkaa
open Go.RowKit

theorem Ow.form {B : Nat} {w : World} {v : Value} {xs : List Int} (h : Ow B w v xs) (hn : 0 < xs.length) :
    ∃ g c cur, v = .slice (some ⟨g, 0, none⟩) xs.length c ∧ B ≤ g ∧ w.heap[g]? = some (.cells cur 2 (0, 0)) ∧ xs.length ≤ c ∧ c ≤ maxLen ∧ cur.size = c ∧ cur.toList.take xs.length = xs.map (Value.int .i64) := by
  obtain ⟨_, h2⟩ := h
  rcases h2 with ⟨_, h0⟩ | ⟨g, c, cur, hv, hg, hh, h3, h4, h5, h6⟩
  · omega
  · exact ⟨g, c, cur, hv, hg, hh, h3, h4, by simpa using h5, by simpa using h6⟩
theorem Ow.of {B : Nat} {w : World} {g c n : Nat} {cur : Array Value} {xs : List Int} (hn : xs.length = n) (hg : B ≤ g) (hh : w.heap[g]? = some (.cells cur 2 (0, 0))) (h3 : n ≤ c) (h4 : c ≤ maxLen) (h5 : cur.size = c)
    (h6 : cur.toList.take n = xs.map (Value.int .i64)) : Ow B w (.slice (some ⟨g, 0, none⟩) n c) xs := by
  subst hn
  exact ⟨by simp, Or.inr ⟨g, c, cur, rfl, hg, hh, h3, h4, by simpa using h5, by simpa using h6⟩⟩
/-- The row of an own slice, with other numbers in it. -/
structure OwRow (B : Nat) (w : World) (g n c : Nat) (xs : List Int) : Prop where
  len : xs.length = n
  from_ : B ≤ g
  nc : n ≤ c
  cm : c ≤ maxLen
  row : ∃ cur : Array Value, w.heap[g]? = some (.cells cur 2 (0, 0)) ∧ cur.size = c ∧ cur.toList.take n = xs.map (Value.int .i64)
theorem OwRow.own {B : Nat} {w : World} {g n c : Nat} {xs : List Int} (h : OwRow B w g n c xs) : Ow B w (.slice (some ⟨g, 0, none⟩) n c) xs := by
  obtain ⟨h1, h2, h3, h4, cur, h5, h6, h7⟩ := h
  exact Ow.of h1 h2 h5 h3 h4 h6 h7
theorem OwRow.cell {B : Nat} {w : World} {g n c : Nat} {xs : List Int} (h : OwRow B w g n c xs) {j : Nat} (hj : j < n) : w.cell? ⟨g, j, none⟩ = some (.int .i64 (xs.getD j 0)) := by
  obtain ⟨h1, h2, h3, h4, cur, h5, h6, h7⟩ := h
  subst h1
  rw [cell_of_row w g j cur _ _ h5, ← Array.getElem?_toList]
  have h8 : (cur.toList.take xs.length)[j]? = (xs.map (Value.int .i64))[j]? := by rw [h7]
  rw [List.getElem?_take, if_pos hj] at h8
  rw [h8]
  simp [List.getD_eq_getElem?_getD, hj]
theorem OwRow.free {B : Nat} {w : World} {g n c : Nat} {xs : List Int} (h : OwRow B w g n c xs) (j : Nat) : w.frozen? ⟨g, j, none⟩ = false := by
  obtain ⟨h1, h2, h3, h4, cur, h5, h6, h7⟩ := h
  exact frozen_of_row w g j _ _ h5
theorem OwRow.set {B : Nat} {w : World} {g n c : Nat} {xs : List Int} (h : OwRow B w g n c xs) (j : Nat) (y : Int) : OwRow B (w.setCell ⟨g, j, none⟩ (.int .i64 y)) g n c (xs.set j y) := by
  obtain ⟨h1, h2, h3, h4, cur, h5, h6, h7⟩ := h
  refine ⟨by rw [List.length_set]; exact h1, h2, h3, h4, cur.setIfInBounds j (.int .i64 y), heap_setCell_same w g j _ _ _ h5, by simpa using h6, ?_⟩
  rw [Array.toList_setIfInBounds, List.take_set, h7, List.map_set]

/-- What comes behind a call that writes only into blocks from B on. -/
def TenB (B : Nat) (w : World) (xs : List Int) (e : Ending) (w' : World) : Prop := ∃ v, e = .returned v ∧ Ow B w' v xs ∧ Below B w w'

theorem ap_step {out : List Int} {cy x r T : Int} (h : ap out (cy + 10 * (x + 65536 * r)) = T) : ap (out ++ [(cy + x * 10) % 65536]) ((cy + x * 10) / 65536 + 10 * r) = T := by
  rw [ap_snoc, ← h]
  congr 1
  omega
theorem set_mid (out : List Int) (x y : Int) (r : List Int) : (out ++ x :: r).set out.length y = out ++ [y] ++ r := by simp
theorem get_mid (out : List Int) (x : Int) (r : List Int) : (out ++ x :: r).getD out.length 0 = x := by simp [List.getD_eq_getElem?_getD]
theorem drop_cons {xs : List Int} {k : Nat} (h : k < xs.length) : xs.drop k = xs.getD k 0 :: xs.drop (k + 1) := by
  rw [List.drop_eq_getElem_cons h]; simp [List.getD_eq_getElem?_getD, h]

set_option maxHeartbeats 4000000 in
theorem tenTimesAnd_own (B : Nat) (v : Value) (xs : List Int) (d : Int) (w : World) (h : Ow B w v xs) (hc : Canon xs) (hB : B ≤ w.heap.size) (hd : 0 ≤ d ∧ d ≤ 9) (hn : xs.length ≤ 1000000) :
    Calls Try.prog 56 #[v, .int .i64 d] w (TenB B w (digits (val xs * 10 + d))) := by
  obtain ⟨T, hT⟩ : ∃ T, T = val xs * 10 + d := ⟨_, rfl⟩
  rw [← hT]
  have hv0 := (canon_nonneg hc).1
  obtain ⟨n, hnn⟩ : ∃ n, n = xs.length := ⟨_, rfl⟩
  obtain ⟨a, c, rfl, _, _⟩ := h.sl
  have hT0 : val xs ≤ T := by omega
  have HO := Lib.hid h
  have HC := Lib.hid hc
  have HN := Lib.hid hnn
  have HTE := Lib.hid hT
  have HM := Lib.hid (digits_len_mono hT0)
  have HV0 := Lib.hid hv0
  rw [← hnn] at HO hn ⊢
  clear h hc hT hnn hT0 hv0
  go_enter Try.func56, Try.ntmps56
  go_wp2_with fail
  go_loopw [5, 10] (fun q i wr => ∃ (k : Nat) (out : List Int) (cy : Int), k ≤ n ∧ q = .int .i64 cy ∧ i = .int .i64 k ∧ 0 ≤ cy ∧ cy ≤ 9 ∧ Hid (out.length = k) ∧ Hid (AllLimbs out) ∧ Hid (ap out (cy + 10 * val (xs.drop k)) = T) ∧ Hid (Ow B wr (.slice a n c) (out ++ xs.drop k)) ∧ Hid (Below B w wr)) (fun _ i _ => n - (intOf i).toNat)
  case atStart => exact ⟨0, [], d, Nat.zero_le _, rfl, rfl, hd.1, hd.2, rfl, fun i hi => by simp at hi, by show d + 10 * val (xs.drop 0) = T; rw [List.drop_zero, HTE.out]; omega, HO.out, Below.refl _ _⟩
  case round =>
    obtain ⟨k, out, cy, hk, rfl, rfl, hcy0, hcy9, hOL, hAL, hAp, hOw, hBe⟩ := hrel
    by_cases hlt : k < n
    · obtain ⟨x, hx⟩ : ∃ x, x = xs.getD k 0 := ⟨_, rfl⟩
      have hdr : xs.drop k = x :: xs.drop (k + 1) := by rw [hx]; exact drop_cons (by rw [← HN.out]; exact hlt)
      have hx1 := canon_limbs HC.out k (by rw [← HN.out]; exact hlt)
      rw [← hx] at hx1
      have hlen : (out ++ xs.drop k).length = n := by rw [List.length_append, List.length_drop, hOL.out, ← HN.out]; omega
      obtain ⟨g, c', cur, he, h1, h2, h3, h4, h5, h6⟩ := hOw.out.form (by rw [hlen]; omega)
      rw [hlen] at he h3 h6
      simp only [Value.slice.injEq, true_and] at he
      obtain ⟨rfl, rfl⟩ := he
      have hrow : OwRow B wr g n c (out ++ xs.drop k) := ⟨hlen, h1, h3, h4, cur, h2, h5, h6⟩
      have hcl := hrow.cell hlt
      have hfr := hrow.free k
      have hmid : (out ++ xs.drop k).getD k 0 = x := by rw [hdr, ← hOL.out]; exact get_mid _ _ _
      rw [hmid] at hcl
      obtain ⟨u, hu⟩ : ∃ u, u = cy + x * 10 := ⟨_, rfl⟩
      have e1 : IntKind.i64.wrap (x * 10) = x * 10 := IntWalk.i64_in _ (by omega)
      have e2 : IntKind.i64.wrap (cy + x * 10) = u := by rw [← hu]; exact IntWalk.i64_in _ (by omega)
      have hu1 : 0 ≤ u := by omega
      have hu2 : u ≤ 655359 := by omega
      have hset := hrow.set k (u % 65536)
      have hse : (out ++ xs.drop k).set k (u % 65536) = out ++ [u % 65536] ++ xs.drop (k + 1) := by rw [hdr, ← hOL.out]; exact set_mid _ _ _ _
      rw [hse] at hset
      have hAp2 : Hid (ap (out ++ [u % 65536]) (u / 65536 + 10 * val (xs.drop (k + 1))) = T) := by
        have h9 := hAp.out
        rw [val_drop, ← hx] at h9
        have := ap_step h9
        rw [← hu] at this
        exact this
      have hAL2 : Hid (AllLimbs (out ++ [u % 65536])) := hAL.out.snoc (by omega)
      have hOL2 : Hid ((out ++ [u % 65536]).length = k + 1) := by show _ = _; rw [List.length_append, hOL.out]; rfl
      have hOw2 := Lib.hid hset.own
      have hBe2 := Lib.hid (hBe.out.setCell (p := ⟨g, k, none⟩) h1 (.int .i64 (u % 65536)))
      have hq2 : 0 ≤ u / 65536 ∧ u / 65536 ≤ 9 := by omega
      clear hdr hx1 hlen h1 h2 h3 h4 h5 h6 hrow hmid hset hse hx hu hAp hOw hBe hAL
      go_wp2_with fail
      go_roundw
      case rel => exact ⟨k + 1, _, u / 65536, by omega, rfl, by go_num, hq2.1, hq2.2, hOL2, hAL2, hAp2, hOw2, hBe2⟩
      case measure => simp [intOf]; omega
    · obtain rfl : k = n := by omega
      have hdr : xs.drop k = [] := List.drop_of_length_le (by rw [← HN.out]; exact Nat.le_refl _)
      rw [hdr] at hAp hOw
      have hOw2 := Lib.hid (show Ow B wr (.slice a k c) out by have := hOw.out; simpa using this)
      have hAp2 := Lib.hid (show ap out cy = T by have := hAp.out; simpa [val] using this)
      have hBw : B ≤ wr.heap.size := Nat.le_trans hB hBe.out.size
      clear hdr hAp hOw
      by_cases hz : 0 < cy
      · have hdg : digits T = out ++ [cy] := by
          have hv : val (out ++ [cy]) = T := by rw [← hAp2.out, val_append]; simp [val]
          have hq := digits_of_limbs (xs := out ++ [cy]) (hAL.out.snoc (by omega)) (fun _ => by simp [List.getD_eq_getElem?_getD]; omega)
          rw [hv] at hq
          exact hq.symm
        have HD := Lib.hid hdg
        clear hdg
        have ho9 : out.length ≤ 1099511627776 := by have := hOL.out; omega
        go_wp2_with (at_builtin; refine app1 rfl _ _ rfl B (.slice a k c) out rfl (hOw2.out.alloc _) wr.heap.size cy rfl (by simp) ho9 (by simp; omega) ?_)
        intro v2 w2 hown hgrow
        have hb2 := (hBe.out.alloc hBw (.cells #[.int .i64 cy] 2)).grown hgrow (by simp; omega) (fun g hg => (World.ownsRow.lt hOw2.out g hg).1)
        have HO2 := Lib.hid hown
        have HB2 := Lib.hid hb2
        clear hown hgrow hb2
        go_wp2_with fail
        go_ret
        exact ⟨v2, rfl, by rw [HD.out]; exact HO2.out, HB2.out⟩
      · obtain rfl : cy = 0 := by omega
        have hdg : digits T = out := limbs_digits hAL.out (by rw [← hAp2.out, ap_zero]) (by
          have h1 := HM.out
          rw [digits_val HC.out, ← HN.out, ← hOL.out] at h1
          exact h1)
        have HD := Lib.hid hdg
        clear hdg
        go_wp2_with fail
        go_ret
        exact ⟨_, rfl, by rw [HD.out]; exact hOw2.out, hBe.out⟩

end Go.Proofs.Ytledbpiaipmgkaa
