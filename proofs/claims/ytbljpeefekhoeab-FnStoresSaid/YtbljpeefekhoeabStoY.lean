/-
  Contract of the model's PutShape. Condition: the slices read as named shapes, as points.
-/
import Derived.Test.YtbljpeefekhoeabStoT
import Derived.Test.YtbljpeefekhoeabStoW
import Derived.Test.YtbljpeefekhoeabStoX
import Derived.Deep.RegionLaw
namespace Go.Proofs.Ytbljpeefekhoeab
open Go.RowKit

/-- Where a named shape comes to stand. -/
def tIx (s : Sh) (l : List Sh) : Nat := l.findIdx fun r => decide (s.nm < r.nm)
theorem tIx_le (s : Sh) (l : List Sh) : tIx s l ≤ l.length := List.findIdx_le_length
theorem tIx_at {s : Sh} {l : List Sh} (h : tIx s l < l.length) : s.nm < (l.getD (tIx s l) sh0).nm := by
  have := List.findIdx_getElem (w := h)
  rw [List.getD_eq_getElem?_getD, List.getElem?_eq_getElem h, Option.getD_some]
  exact of_decide_eq_true this
theorem tIx_before {s : Sh} {l : List Sh} {i : Nat} (h : i < tIx s l) : ¬ s.nm < (l.getD i sh0).nm := by
  have h2 := tIx_le s l
  have := List.not_of_lt_findIdx h
  rw [List.getD_eq_getElem?_getD, List.getElem?_eq_getElem (by omega), Option.getD_some]
  simpa using this
theorem insS_getD (s : Sh) : ∀ (l : List Sh) (j : Nat), (insS s l).getD j sh0 = if j < tIx s l then l.getD j sh0 else if j = tIx s l then s else l.getD (j - 1) sh0
  | [], j => by
    cases j with
    | zero => simp [insS, tIx]
    | succ j => simp [insS, tIx]
  | t :: r, j => by
    unfold insS
    by_cases hlt : s.nm < t.nm
    · have ht : tIx s (t :: r) = 0 := by unfold tIx; rw [List.findIdx_cons, decide_eq_true hlt]; rfl
      rw [if_pos hlt, ht]
      cases j with
      | zero => simp
      | succ j => simp
    · have ht : tIx s (t :: r) = tIx s r + 1 := by unfold tIx; rw [List.findIdx_cons, decide_eq_false hlt]; rfl
      rw [if_neg hlt, ht]
      cases j with
      | zero => simp
      | succ j =>
        rw [List.getD_cons_succ, insS_getD s r j]
        rcases Nat.lt_trichotomy j (tIx s r) with h | h | h
        · rw [if_pos h, if_pos (show j + 1 < tIx s r + 1 by omega), List.getD_cons_succ]
        · rw [if_neg (show ¬ j < tIx s r by omega), if_pos h, if_neg (show ¬ j + 1 < tIx s r + 1 by omega), if_pos (show j + 1 = tIx s r + 1 by omega)]
        · rw [if_neg (show ¬ j < tIx s r by omega), if_neg (show ¬ j = tIx s r by omega), if_neg (show ¬ j + 1 < tIx s r + 1 by omega), if_neg (show ¬ j + 1 = tIx s r + 1 by omega), show j + 1 - 1 = j - 1 + 1 by omega, List.getD_cons_succ]
theorem drop_all {L : List Sh} {x : List UInt8} (h : ∀ i, i < L.length → (L.getD i sh0).nm ≠ x) : dropL L x = L := by
  unfold dropL
  refine List.filter_eq_self.2 (fun t ht => ?_)
  obtain ⟨i, hi, rfl⟩ := mem_getD.1 ht
  simpa using h i hi
theorem drop_size {L : List Sh} (h : Apart L) (x : List UInt8) : (dropL L x).length = if fIx L x < L.length then L.length - 1 else L.length := by
  by_cases hin : fIx L x < L.length
  · rw [if_pos hin]
    have h1 := drop_split L x hin
    rw [if_neg (by simpa using fIx_at hin)] at h1
    have h2 : dropL (L.take (fIx L x)) x = L.take (fIx L x) := drop_all (fun i hi => by
      rw [List.length_take] at hi
      have : (L.take (fIx L x)).getD i sh0 = L.getD i sh0 := by simp [List.getD_eq_getElem?_getD, show i < fIx L x by omega]
      rw [this]
      exact fIx_before (by omega))
    have h3 : dropL (L.drop (fIx L x + 1)) x = L.drop (fIx L x + 1) := drop_all (fun i hi => by
      rw [List.length_drop] at hi
      have : (L.drop (fIx L x + 1)).getD i sh0 = L.getD (fIx L x + 1 + i) sh0 := by simp [List.getD_eq_getElem?_getD]
      rw [this]
      have h4 := h (fIx L x) (fIx L x + 1 + i) (by omega) (by omega)
      rw [fIx_at hin] at h4
      exact fun e => by rw [e] at h4; exact List.lt_irrefl _ h4)
    rw [h1, h2, h3]
    simp only [List.length_append, List.length_take, List.length_drop, List.length_nil]
    omega
  · rw [if_neg hin, drop_all (fun i hi => fIx_before (by have := fIx_le L x; omega))]
theorem put_full {L : List Sh} (h : storeC L = 0) (s : Sh) : (10 < (putL L s).length) ↔ (findV L s.nm < 0 ∧ 10 ≤ L.length) := by
  obtain ⟨h1, _, h3⟩ := storeC_ok h
  rw [putL_len, drop_size h3.apart]
  unfold findV
  by_cases hin : fIx L s.nm < L.length
  · rw [if_pos hin, if_pos hin]; omega
  · rw [if_neg hin, if_neg hin]; omega

theorem ins_lo {s : Sh} {R : List Sh} {k : Nat} (h : k < tIx s R) : (insS s R).getD k sh0 = R.getD k sh0 := by rw [insS_getD, if_pos h]
theorem ins_at {s : Sh} {R : List Sh} : (insS s R).getD (tIx s R) sh0 = s := by rw [insS_getD, if_neg (Nat.lt_irrefl _), if_pos rfl]
theorem ins_hi {s : Sh} {R : List Sh} {k : Nat} (h : tIx s R ≤ k) : (insS s R).getD (k + 1) sh0 = R.getD k sh0 := by rw [insS_getD, if_neg (by omega), if_neg (by omega), Nat.add_sub_cancel]
/-- The like for numbers. -/
def gsF (t q : Nat) (g : Nat → Nat) (j : Nat) : Nat := if j < t then g j else if j = t then q else g (j - 1)
theorem gsF_lo {t q : Nat} {g : Nat → Nat} {k : Nat} (h : k < t) : gsF t q g k = g k := by unfold gsF; rw [if_pos h]
theorem gsF_at {t q : Nat} {g : Nat → Nat} : gsF t q g t = q := by unfold gsF; rw [if_neg (Nat.lt_irrefl _), if_pos rfl]
theorem gsF_hi {t q : Nat} {g : Nat → Nat} {k : Nat} (h : t ≤ k) : gsF t q g (k + 1) = g k := by unfold gsF; rw [if_neg (by omega), if_neg (by omega), Nat.add_sub_cancel]
theorem OwN.add {B : Nat} {w : World} {v : Value} {k : Nat} {M : List Sh} {gs cz : Nat → Nat} {x : Sh} {q c : Nat} (hx : M.getD k sh0 = x) (hq : gs k = q) (hc : cz k = c) (h : w.ownsRow B 49 3 v (k + 1) ((List.range (k * 3)).map (stF M gs cz) ++ [.string (strB x.nm), .int .i64 x.k, .slice (some ⟨q, 0, none⟩) x.n c])) : OwN B w v (k + 1) M gs cz := by
  unfold OwN
  have e : (List.range ((k + 1) * 3)).map (stF M gs cz) = (List.range (k * 3)).map (stF M gs cz) ++ [.string (strB x.nm), .int .i64 x.k, .slice (some ⟨q, 0, none⟩) x.n c] := by
    rw [show (k + 1) * 3 = k * 3 + 1 + 1 + 1 by omega, List.range_succ, List.range_succ, List.range_succ]
    simp only [List.map_append, List.map_cons, List.map_nil, List.append_assoc, List.cons_append, List.nil_append]
    rw [stF_0, stF_1, show k * 3 + 1 + 1 = k * 3 + 2 by omega, stF_2, hx, hq, hc]
  rw [e]; exact h
theorem OwN.mono {B B' : Nat} {w : World} {v : Value} {k : Nat} {M : List Sh} {gs cz : Nat → Nat} (h : OwN B w v k M gs cz) (hB : B' ≤ B) : OwN B' w v k M gs cz := by
  obtain ⟨h1, h2⟩ := h
  refine ⟨h1, ?_⟩
  rcases h2 with h2 | ⟨g, cap, cur, hv, hg, r⟩
  · exact Or.inl h2
  · exact Or.inr ⟨g, cap, cur, hv, Nat.le_trans hB hg, r⟩
/-- The rest of a store, as it is read. -/
def RestV (w : World) (B : Nat) (va : Option Addr) (m : Nat) (R : List Sh) (gs cs : Nat → Nat) : Prop :=
  ∀ i, i < m → (∃ g off, va = some ⟨g, off, none⟩ ∧ g < w.heap.size ∧ w.cell? ⟨g, off + i * 3, none⟩ = some (.string (strB (R.getD i sh0).nm)) ∧ w.cell? ⟨g, off + i * 3 + 1, none⟩ = some (.int .i64 (R.getD i sh0).k) ∧ w.cell? ⟨g, off + i * 3 + 2, none⟩ = some (.slice (some ⟨gs i, 0, none⟩) (R.getD i sh0).n (cs i))) ∧
    Blk w (gs i) (R.getD i sh0).xs ∧ B ≤ gs i ∧ (R.getD i sh0).xs.length = (R.getD i sh0).n * 2 ∧ ∀ j, j < i → gs j ≠ gs i
theorem StV.rest {B : Nat} {w : World} {va : Option Addr} {m vc : Nat} {R : List Sh} (h : StV B w (.slice va m vc) m R) : ∃ gs cs, RestV w B va m R gs cs := by
  rcases h.2 with ⟨rfl, _⟩ | ⟨g, gs, cs, c, hv, ⟨h1, h2, h3, h4⟩, ha⟩
  · exact ⟨fun _ => 0, fun _ => 0, fun i hi => by omega⟩
  · refine ⟨gs, cs, fun i hi => ?_⟩
    obtain ⟨p1, p2, p3, p4, p5, p6⟩ := h4 i hi
    have c0 := h3.cell (j := i * 3) (by omega)
    have c1 := h3.cell (j := i * 3 + 1) (by omega)
    have c2 := h3.cell (j := i * 3 + 2) (by omega)
    rw [stF_0] at c0
    rw [stF_1] at c1
    rw [stF_2] at c2
    refine ⟨⟨g, 0, by cases hv; rfl, h3.lt, by rw [Nat.zero_add]; exact c0, by rw [Nat.zero_add]; exact c1, by rw [Nat.zero_add]; exact c2⟩, p1, ha.2 i hi, p2, p6⟩
theorem RestV.kept0 {w w' : World} {B : Nat} {va : Option Addr} {m : Nat} {R : List Sh} {gs cs : Nat → Nat} (h : RestV w B va m R gs cs) (k : Kept [] w w') : RestV w' B va m R gs cs := fun i hi => by
  obtain ⟨⟨g, off, e, hg, c0, c1, c2⟩, p1, p2⟩ := h i hi
  exact ⟨⟨g, off, e, Nat.lt_of_lt_of_le hg k.size, k.cell c0 (by simp), k.cell c1 (by simp), k.cell c2 (by simp)⟩, k.blk p1 (by simp), p2⟩
/-- What a shape of the answer is, whichever it is. -/
def QY (w : World) (B O Z : Nat) (x : Sh) (g : Nat) : Prop := Blk w g x.xs ∧ B ≤ g ∧ g < Z ∧ g ≠ O ∧ x.xs.length = x.n * 2 ∧ (1 ≤ x.n ∧ x.n ≤ 12) ∧ x.nm.length ≤ 8
theorem stV_put {B O : Nat} {W w' : World} {v : Value} {m q : Nat} {s : Sh} {R : List Sh} {gs cz : Nat → Nat} (hR : R.length = m) (hm : m ≤ 10) (hO : OwN W.heap.size w' v (m + 1) (insS s R) (gsF (tIx s R) q gs) cz) (hB : B ≤ W.heap.size) (hk : Kept [O] W w')
    (hs : QY W B O W.heap.size s q) (hq : ∀ i, i < m → QY W B O W.heap.size (R.getD i sh0) (gs i) ∧ gs i ≠ q ∧ ∀ j, j < i → gs j ≠ gs i) : StV B w' v (m + 1) (insS s R) := by
  have hall : ∀ i, i < m + 1 → QY W B O W.heap.size ((insS s R).getD i sh0) (gsF (tIx s R) q gs i) := fun i hi => by
    rcases Nat.lt_trichotomy i (tIx s R) with h | h | h
    · rw [ins_lo h, gsF_lo h]; exact (hq i (by have := tIx_le s R; omega)).1
    · subst h; rw [ins_at, gsF_at]; exact hs
    · obtain ⟨j, rfl⟩ : ∃ j, i = j + 1 := ⟨i - 1, by omega⟩
      rw [ins_hi (by omega), gsF_hi (by omega)]; exact (hq j (by omega)).1
  have hne : ∀ i, i < m + 1 → ∀ j, j < i → gsF (tIx s R) q gs j ≠ gsF (tIx s R) q gs i := fun i hi j hj => by
    have hti := tIx_le s R
    rcases Nat.lt_trichotomy i (tIx s R) with h | h | h
    · rw [gsF_lo h, gsF_lo (by omega)]; exact (hq i (by omega)).2.2 j hj
    · subst h; rw [gsF_at, gsF_lo hj]; exact (hq j (by omega)).2.1
    · obtain ⟨i, rfl⟩ : ∃ i', i = i' + 1 := ⟨i - 1, by omega⟩
      rw [gsF_hi (by omega)]
      rcases Nat.lt_trichotomy j (tIx s R) with h' | h' | h'
      · rw [gsF_lo h']
        exact (hq i (by omega)).2.2 j (by omega)
      · subst h'; rw [gsF_at]; exact fun e => (hq i (by omega)).2.1 e.symm
      · obtain ⟨j, rfl⟩ : ∃ j', j = j' + 1 := ⟨j - 1, by omega⟩
        rw [gsF_hi (by omega)]; exact (hq i (by omega)).2.2 j (by omega)
  refine stV_of2 (cz := cz) (by rw [insS_len, hR]) (OwN.mono hO hB) (fun e => by omega) (fun i hi => ?_) (by omega) (fun i hi => ?_)
  · obtain ⟨p1, p2, _, p4, _⟩ := hall i hi
    exact ⟨hk.blk p1 (by simpa using p4), p2, hne i hi⟩
  · obtain ⟨_, _, _, _, p5, p6, p7⟩ := hall i hi
    exact ⟨p5, p6, p7⟩

/-- What lies in the three boxes that PutShape makes first. -/
def BoxY (w : World) (S : Nat) (v : Value) (k : Int) (p : Option Addr) (n d : Nat) : Prop :=
  w.cell? ⟨S, 0, none⟩ = some v ∧ (w.cell? ⟨S + 1, 0, none⟩ = some (.int .i64 k) ∧ w.cell? ⟨S + 1, 1, none⟩ = some (.slice p n d)) ∧ (w.cell? ⟨S + 1 + 1, 0, none⟩ = some (.int .i64 0) ∧ w.frozen? ⟨S + 1 + 1, 0, none⟩ = false) ∧ w.cell? ⟨S + 1 + 1, 1, none⟩ = some (.slice none 0 0) ∧ w.frozen? ⟨S + 1 + 1, 1, none⟩ = false
theorem BoxY.kept {M : List Nat} {w w' : World} {S : Nat} {v : Value} {k : Int} {p : Option Addr} {n d : Nat} (h : BoxY w S v k p n d) (kk : Kept M w w') (h0 : S ∉ M) (h1 : S + 1 ∉ M) (h2 : S + 1 + 1 ∉ M) : BoxY w' S v k p n d :=
  ⟨kk.cell h.1 h0, ⟨kk.cell h.2.1.1 h1, kk.cell h.2.1.2 h1⟩, ⟨kk.cell h.2.2.1.1 h2, kk.freeS h.2.2.1.1 h.2.2.1.2 h2⟩, kk.cell h.2.2.2.1 h2, kk.freeS h.2.2.2.1 h.2.2.2.2 h2⟩
theorem BoxY.kept0 {w w' : World} {S : Nat} {v : Value} {k : Int} {p : Option Addr} {n d : Nat} (h : BoxY w S v k p n d) (kk : Kept [] w w') : BoxY w' S v k p n d := h.kept kk (by simp) (by simp) (by simp)
theorem boxY {w : World} {a : Option Addr} {k : Int} {p : Option Addr} {n c m d : Nat} {T T2 T3 : TypeId} : BoxY (((w.alloc (.cells #[.slice a n c] T)).alloc (.cells #[.int .i64 k, .slice p m d] T2)).alloc (.cells #[.int .i64 0, .slice none 0 0] T3)) w.heap.size (.slice a n c) k p m d := by
  have k0 := Kept.refl [] (((w.alloc (.cells #[.slice a n c] T)).alloc (.cells #[.int .i64 k, .slice p m d] T2)).alloc (.cells #[.int .i64 0, .slice none 0 0] T3))
  obtain ⟨x, y⟩ := boxPP k0
  exact ⟨(k0.peel.peel.top rfl (by simp) 0 (v := .slice a n c) rfl).1, x, y⟩

/-- What is known of the room of a store's list. -/
def CapV (w : World) (u : Value) (n : Nat) : Prop := (u = .slice none 0 0 ∧ n = 0) ∨ ∃ g c cur, u = .slice (some ⟨g, 0, none⟩) n c ∧ w.heap[g]? = some (.cells cur 49 (0, 0)) ∧ n ≤ c ∧ c ≤ maxLen ∧ cur.size = c * 3
theorem OwN.cap {B : Nat} {w : World} {v : Value} {n : Nat} {M : List Sh} {gs cz : Nat → Nat} (h : OwN B w v n M gs cz) : CapV w v n := by
  rcases h.2 with ⟨hv, h0⟩ | ⟨g, cap, cur, hv, _, hh, hc, hm, hs, _⟩
  · exact .inl ⟨hv, h0⟩
  · exact .inr ⟨g, cap, cur, hv, hh, hc, hm, hs⟩
theorem CapV.set {w : World} {u : Value} {n : Nat} (h : CapV w u n) (p : Addr) (v : Value) (hp : u.ownBlock ≠ some p.block) : CapV (w.setCell p v) u n := by
  rcases h with h | ⟨g, c, cur, rfl, hh, r⟩
  · exact .inl h
  · exact .inr ⟨g, c, cur, rfl, by rw [heap_setCell_other w p g v (fun e => hp (by rw [← e]; rfl))]; exact hh, r⟩
theorem CapV.kept {L : List Nat} {w w' : World} {u : Value} {n : Nat} (h : CapV w u n) (k : Kept L w w') (hL : ∀ g, u.ownBlock = some g → g ∉ L) : CapV w' u n := by
  rcases h with h | ⟨g, c, cur, rfl, hh, r⟩
  · exact .inl h
  · exact .inr ⟨g, c, cur, rfl, by rw [k.block g (Array.getElem?_eq_some_iff.1 hh).1 (hL g rfl)]; exact hh, r⟩
/-- What the model's PutShape answers: a code, and a list of its own, of known room. -/
def StoResO (w : World) (v : Int) (M : List Sh) (e : Ending) (w' : World) : Prop := ∃ u, e = .returned (.agg #[.int .i64 v, u]) ∧ StV w.heap.size w' u M.length M ∧ CapV w' u M.length ∧ Kept [] w w'
theorem stoResO_zero {w w' : World} {v : Int} (k : Kept [] w w') : StoResO w v [] (.returned (.agg #[.int .i64 v, .slice none 0 0])) w' := ⟨_, rfl, ⟨rfl, .inl ⟨rfl, rfl⟩⟩, .inl ⟨rfl, rfl⟩, k⟩
theorem StoResO.weak {w : World} {v : Int} {M : List Sh} {e : Ending} {w' : World} (h : StoResO w v M e w') : StoRes w v M e w' := by
  obtain ⟨u, h1, h2, _, h4⟩ := h
  exact ⟨u, h1, h2, h4⟩

set_option maxHeartbeats 1000000 in
set_option maxRecDepth 100000 in
theorem sPutShape_own (a : Option Addr) (n c : Nat) (L : List Sh) (s : Sh) (p : Option Addr) (d : Nat) (w : World) (h : RdSt w a n L) (hr : Rd w p (s.n * 2) s.xs) (hx : s.nm.length ≤ 1048576) :
    Calls Try.prog 12 #[.agg #[.slice a n c], .string (strB s.nm), .agg #[.int .i64 s.k, .slice p s.n d]] w (StoResO w (putC L s) (putS L s)) := by
  have HR := Lib.hid h
  have HP := Lib.hid hr
  have HX := Lib.hid (And.intro hx (show (strB s.nm).size ≤ 9223372036854775807 by rw [strB_size]; omega))
  clear h hr hx
  have K0 := Lib.hid ((((Kept.refl [] w).alloc (.cells #[.slice a n c] 26)).alloc (.cells #[.int .i64 s.k, .slice p s.n d] 29)).alloc (.cells #[.int .i64 0, .slice none 0 0] 33))
  have B0 := Lib.hid (boxY (w := w) (a := a) (k := s.k) (p := p) (n := n) (c := c) (m := s.n) (d := d) (T := 26) (T2 := 29) (T3 := 33))
  obtain ⟨W0, hW0⟩ : ∃ W0, (((w.alloc (.cells #[.slice a n c] 26)).alloc (.cells #[.int .i64 s.k, .slice p s.n d] 29)).alloc (.cells #[.int .i64 0, .slice none 0 0] 33)) = W0 := ⟨_, rfl⟩
  have z0 : Hid (W0.heap.size = w.heap.size + 1 + 1 + 1) := by show _ = _; rw [← hW0]; simp
  rw [hW0] at K0 B0
  have HW0 := Lib.hid hW0
  clear hW0
  go_enter Try.func12, Try.ntmps12
  go_wp2_with fail
  rw [HW0.out]
  refine (sStoreFault_any _ _ _ _ _ (HR.out.kept0 K0.out)).mono ?_
  rintro e w1 ⟨rfl, hk⟩
  have K1 := Lib.hid (K0.out.trans0 hk)
  have B1 := Lib.hid (B0.out.kept0 hk)
  have hs1 : w.heap.size + 1 + 1 < w1.heap.size := by have := hk.size; have := z0.out; omega
  clear hk K0 B0
  obtain ⟨f, hf⟩ : ∃ f, storeC L = f := ⟨_, rfl⟩
  rw [hf]
  by_cases hz : f = 0
  rotate_left 1
  · have hv := Lib.hid (putC_store (s := s) (show storeC L ≠ 0 by rw [hf]; exact hz))
    rw [hf] at hv
    have hne : (f == 0) = false := by rw [beq_eq_false_iff_ne]; exact hz
    clear hf
    obtain ⟨_, _, ⟨c0, f0⟩, c1, f1⟩ := B1.out
    obtain ⟨_, ea, eb⟩ := cells2 (.int .i64 f) (.slice none 0 0) c0 c1
    go_wp2_with fail
    refine bodyPost_ret (v := .agg #[.int .i64 f, .slice none 0 0]) (by simp [results, Try.results12, go_sem, ea, eb]) rfl ?_
    rw [hv.out.1, hv.out.2]
    exact stoResO_zero ((K1.out.setCell _ _ (by simp; omega)).setCell _ _ (by simp; omega))
  subst hz
  have HZ := Lib.hid hf
  clear hf
  go_wp2_with fail
  refine (sIsName_any _ _ HX.out.2).mono ?_
  rintro e w2 ⟨rfl, hk⟩
  have K2 := Lib.hid (K1.out.trans0 hk)
  have B2 := Lib.hid (B1.out.kept0 hk)
  have hs2 : w.heap.size + 1 + 1 < w2.heap.size := by have := hk.size; omega
  clear hk K1 B1
  rw [strB_list]
  obtain ⟨b, hb⟩ : ∃ b, isNm s.nm = b := ⟨_, rfl⟩
  rw [hb]
  cases b
  · have hv := Lib.hid (putC_named HZ.out (show namedC s ≠ 0 by rw [namedC_no hb]; decide))
    rw [namedC_no hb] at hv
    obtain ⟨_, _, ⟨c0, f0⟩, c1, f1⟩ := B2.out
    obtain ⟨_, ea, eb⟩ := cells2 (.int .i64 5) (.slice none 0 0) c0 c1
    go_wp2_with fail
    refine bodyPost_ret (v := .agg #[.int .i64 5, .slice none 0 0]) (by simp [results, Try.results12, go_sem, ea, eb]) rfl ?_
    rw [hv.out.1, hv.out.2]
    exact stoResO_zero ((K2.out.setCell _ _ (by simp; omega)).setCell _ _ (by simp; omega))
  have HN := Lib.hid hb
  obtain ⟨_, ⟨y0, y1⟩, _⟩ := B2.out
  clear hb
  go_wp2_with fail
  refine (sShapeFault_any _ _ _ _ _ _ (HP.out.kept0 K2.out)).mono ?_
  rintro e w3 ⟨rfl, hk⟩
  rw [← namedC_yes HN.out]
  have K3 := Lib.hid (K2.out.trans0 hk)
  have B3 := Lib.hid (B2.out.kept0 hk)
  have hs3 : w.heap.size + 1 + 1 < w3.heap.size := by have := hk.size; omega
  clear hk K2 B2 y0 y1
  obtain ⟨f, hf⟩ : ∃ f, namedC s = f := ⟨_, rfl⟩
  rw [hf]
  by_cases hz : f = 0
  rotate_left 1
  · have hv := Lib.hid (putC_named HZ.out (show namedC s ≠ 0 by rw [hf]; exact hz))
    rw [hf] at hv
    have hne : (f == 0) = false := by rw [beq_eq_false_iff_ne]; exact hz
    clear hf
    obtain ⟨_, _, ⟨c0, f0⟩, c1, f1⟩ := B3.out
    obtain ⟨_, ea, eb⟩ := cells2 (.int .i64 f) (.slice none 0 0) c0 c1
    go_wp2_with fail
    refine bodyPost_ret (v := .agg #[.int .i64 f, .slice none 0 0]) (by simp [results, Try.results12, go_sem, ea, eb]) rfl ?_
    rw [hv.out.1, hv.out.2]
    exact stoResO_zero ((K3.out.setCell _ _ (by simp; omega)).setCell _ _ (by simp; omega))
  subst hz
  have HC := Lib.hid hf
  clear hf
  have hpf := Lib.hid (put_full HZ.out s)
  have hfu := Lib.hid (putC_full HZ.out HC.out)
  have hye := Lib.hid (putC_yes HZ.out HC.out)
  have hLn := Lib.hid HR.out.1
  obtain ⟨fv, hfv⟩ : ∃ fv, findV L s.nm = fv := ⟨_, rfl⟩
  rw [hfv, hLn.out] at hpf
  have HFV := Lib.hid hfv
  obtain ⟨eb, heb⟩ : ∃ eb, decide (fv < 0 ∧ 10 ≤ n) = eb := ⟨_, rfl⟩
  have HEB := Lib.hid heb
  clear hfv heb
  go_upto_region 9 with fail
  go_cut [38] (fun s9 wx => s9 = .bool eb ∧ Hid (Kept [] w wx) ∧ Hid (BoxY wx w.heap.size (.slice a n c) s.k p s.n d))
  case first =>
    go_wp2_with fail
    refine (l9Find_any _ _ _ _ _ _ _ (HR.out.kept0 K3.out) B3.out.1).mono ?_
    rintro e w4 ⟨rfl, hk⟩
    have K4 := Lib.hid (K3.out.trans0 hk)
    have B4 := Lib.hid (B3.out.kept0 hk)
    clear hk K3 B3
    rw [HFV.out]
    obtain ⟨x0, _⟩ := B4.out
    by_cases h1 : fv < 0
    · by_cases h2 : (10 : Int) ≤ n
      · have he := HEB.out
        rw [decide_eq_true ⟨h1, by omega⟩] at he
        subst he
        go_wp2_with fail
        go_meet
        exact ⟨rfl, K4, B4⟩
      · have he := HEB.out
        rw [decide_eq_false (fun x => h2 (by omega))] at he
        subst he
        go_wp2_with fail
        go_meet
        exact ⟨by first | rfl | simp [h2], K4, B4⟩
    · have he := HEB.out
      rw [decide_eq_false (fun x => h1 x.1)] at he
      subst he
      go_wp2_with fail
      go_meet
      exact ⟨rfl, K4, B4⟩
  case rest =>
  obtain ⟨rfl, K4, B4⟩ := hcut
  obtain ⟨w4, rfl⟩ : ∃ w' : World, w' = wc := ⟨_, rfl⟩
  have hs4 : w.heap.size + 1 + 1 < w4.heap.size := World.block_lt_of_cell? w4 _ B4.out.2.2.1.1
  clear K3 B3
  cases eb
  rotate_left 1
  · have hv := Lib.hid (hfu.out (hpf.out.2 (of_decide_eq_true HEB.out)))
    obtain ⟨_, _, ⟨c0, f0⟩, c1, f1⟩ := B4.out
    obtain ⟨_, ea, eb⟩ := cells2 (.int .i64 7) (.slice none 0 0) c0 c1
    go_wp2_with fail
    refine bodyPost_ret (v := .agg #[.int .i64 7, .slice none 0 0]) (by simp [results, Try.results12, go_sem, ea, eb]) rfl ?_
    rw [hv.out.1, hv.out.2]
    exact stoResO_zero ((K4.out.setCell _ _ (by simp; omega)).setCell _ _ (by simp; omega))
  have hnf : ¬ 10 < (putL L s).length := fun x => of_decide_eq_false HEB.out (hpf.out.1 x)
  have hv := Lib.hid (hye.out hnf)
  have HNF := Lib.hid hnf
  clear hnf hfu hye hpf
  obtain ⟨o1, o2, o3⟩ := storeC_ok HZ.out
  have hn10 : n ≤ 10 := by rw [← hLn.out]; exact o1
  have hvv : ∀ i, i < n → (1 ≤ (L.getD i sh0).n ∧ (L.getD i sh0).n ≤ 12) ∧ (L.getD i sh0).nm.length ≤ 8 := fun i hi => by
    have h4 := namedC_ok (o2 i (by rw [hLn.out]; exact hi))
    exact ⟨shapeC_n h4.2, (isNm_len h4.1).2⟩
  have HV := Lib.hid (And.intro hn10 hvv)
  clear o1 o2 o3 hn10 hvv
  go_wp2_with fail
  refine (l9Without_any _ _ _ _ _ _ _ (HR.out.kept0 K4.out) B4.out.1 HV.out.1 HV.out.2).mono ?_
  rintro e w5 ⟨v, rfl, hst, hk5⟩
  obtain ⟨m, hm⟩ : ∃ m, (dropL L s.nm).length = m := ⟨_, rfl⟩
  rw [hm] at hst
  obtain ⟨va, vc, rfl⟩ := hst.form
  have HM := Lib.hid hm
  have HST := Lib.hid hst
  have K5 := Lib.hid (K4.out.trans0 hk5)
  have B5 := Lib.hid (B4.out.kept0 hk5)
  have hs5 : w4.heap.size ≤ w5.heap.size := hk5.size
  have hsn := shapeC_n (namedC_ok HC.out).2
  have HSN := Lib.hid hsn
  clear hm hst hk5 K4 B4 hsn
  have ka := (Kept.refl [] w5).alloc (.cells #[.slice va m vc] 26)
  have b5 := B5.out.kept0 ka
  obtain ⟨_, ⟨y0, y1⟩, _⟩ := b5
  have KA := Lib.hid ka
  clear ka
  go_wp2_with fail
  refine (l8Copy_any _ _ _ _ _ _ (HP.out.kept0 (K5.out.trans0 KA.out)) (by have := HSN.out.1; omega) (by have := HSN.out.2; omega)).mono ?_
  rintro e w6 ⟨q, cq, rfl, hq, hbq, hk6⟩
  have x6 := (hk6.top rfl (by simp) 0 (v := .slice va m vc) rfl)
  have hq5 : w5.heap.size < q := by have := hq; simp at this; omega
  have hs6 : w5.heap.size < w6.heap.size := x6.2.2
  obtain ⟨gsR, csR, hrs⟩ := HST.out.rest
  have HRV0 := Lib.hid hrs
  have HRV := Lib.hid (HRV0.out.kept0 (KA.out.trans0 hk6))
  have K6 := Lib.hid (K5.out.trans0 (KA.out.trans0 hk6))
  have B6 := Lib.hid (B5.out.kept0 (KA.out.trans0 hk6))
  have HBQ := Lib.hid hbq
  have hqlt := hbq.lt
  clear y0 y1 hrs hq hk6 hbq K5 B5 KA
  go_wp2_with fail
  obtain ⟨W7, hW7⟩ : ∃ W7, (w6.alloc (.cells #[.string (strB s.nm), .int .i64 s.k, .slice (some ⟨q, 0, none⟩) s.n cq] 49)).alloc (.cells #[.slice none 0 0] 26) = W7 := ⟨_, rfl⟩
  have K7 : Hid (Kept [] w6 W7) := by show Kept _ _ _; rw [← hW7]; exact ((Kept.refl [] w6).alloc _).alloc _
  have z7 : W7.heap.size = w6.heap.size + 1 + 1 := by rw [← hW7]; simp
  have o7 := (Kept.refl [] ((w6.alloc (.cells #[.string (strB s.nm), .int .i64 s.k, .slice (some ⟨q, 0, none⟩) s.n cq] 49)).alloc (.cells #[.slice none 0 0] 26))).top (g := w6.heap.size + 1) (by simp) (by simp) 0 (v := .slice none 0 0) rfl
  have n7 := boxN (Kept.refl [] ((w6.alloc (.cells #[.string (strB s.nm), .int .i64 s.k, .slice (some ⟨q, 0, none⟩) s.n cq] 49)).alloc (.cells #[.slice none 0 0] 26))).peel
  rw [hW7] at o7 n7
  rw [hW7]
  have HRV7 := Lib.hid (HRV.out.kept0 K7.out)
  have HBQ7 := Lib.hid (K7.out.blk HBQ.out (by simp))
  have X7 := Lib.hid (K7.out.cell x6.1 (by simp))
  have O7 := Lib.hid (And.intro o7.1 o7.2.1)
  have N7 := Lib.hid n7
  have Z7 := Lib.hid z7
  have HL7 := Lib.hid hW7
  clear o7 n7 x6 hW7 z7
  have HT := Lib.hid (tIx_le s (dropL L s.nm))
  obtain ⟨t, ht⟩ : ∃ t, tIx s (dropL L s.nm) = t := ⟨_, rfl⟩
  have HTE := Lib.hid ht
  rw [ht, HM.out] at HT
  clear ht
  have hm10 : m ≤ 10 := by rw [← HM.out]; exact Nat.le_trans (drop_len _ _) (by rw [hLn.out]; exact HV.out.1)
  have HSZ := Lib.hid hm10
  clear hm10
  have HQS : Hid (QY W7 w4.heap.size (w6.heap.size + 1) W7.heap.size s q) := ⟨HBQ7.out, by omega, by have := Z7.out; omega, by omega, HP.out.1, HSN.out, (isNm_len HN.out).2⟩
  have HQR : Hid (∀ i, i < m → QY W7 w4.heap.size (w6.heap.size + 1) W7.heap.size ((dropL L s.nm).getD i sh0) (gsR i) ∧ gsR i ≠ q ∧ ∀ j, j < i → gsR j ≠ gsR i) := fun i hi => by
    obtain ⟨_, p1, p2, p3, p4⟩ := HRV7.out i hi
    have h5 := (HRV0.out i hi).2.1.lt
    obtain ⟨j, hj, e⟩ := mem_getD.1 (drop_mem.1 (mem_getD.2 ⟨i, by rw [HM.out]; exact hi, rfl⟩)).1
    have h6 := HV.out.2 j (by rw [← hLn.out]; exact hj)
    rw [e] at h6
    exact ⟨⟨p1, p2, by have := Z7.out; omega, by omega, p3, h6⟩, by omega, p4⟩
  have B7 := Lib.hid (B6.out.kept0 K7.out)
  have K7W := Lib.hid (K6.out.trans0 K7.out)
  have hBW : Hid (w4.heap.size ≤ W7.heap.size) := by show _ ≤ _; have := Z7.out; omega
  go_loopw [12, 13] (fun dn i wr => ∃ (k : Nat) (v : Value), k ≤ m ∧ dn = .bool (decide (t < k)) ∧ i = .int .i64 k ∧ Hid (wr.cell? ⟨w6.heap.size + 1, 0, none⟩ = some v ∧ wr.frozen? ⟨w6.heap.size + 1, 0, none⟩ = false) ∧ Hid (OwN W7.heap.size wr v (k + (if t < k then 1 else 0)) (putL L s) (gsF t q gsR) (gsF t cq csR)) ∧ Hid (k = 0 → v = .slice none 0 0) ∧ Hid (Kept [w6.heap.size + 1] W7 wr)) (fun _ i _ => m - (intOf i).toNat)
  case atStart => exact ⟨0, _, Nat.zero_le _, rfl, rfl, O7, ⟨rfl, Or.inl ⟨rfl, rfl⟩⟩, fun _ => rfl, Kept.refl _ _⟩
  case round =>
    obtain ⟨k, v, hk, rfl, rfl, hR, hO, h0, hK⟩ := hrel
    have b0 := hK.out.cell X7.out (by simp; omega)
    by_cases hlt : k < m
    · have hk10 : k < 10 := by have := HSZ.out; omega
      obtain ⟨⟨g, off, rfl, hg7, hc0, hc1, hc2⟩, _⟩ := HRV7.out k hlt
      have hgo : g ≠ w6.heap.size + 1 := by
        obtain ⟨⟨g', off', e', hg', _⟩, _⟩ := HRV.out k hlt
        cases e'
        omega
      obtain ⟨r, hr⟩ : ∃ r, (dropL L s.nm).getD k sh0 = r := ⟨_, rfl⟩
      rw [hr] at hc0 hc1 hc2
      have HRE := Lib.hid hr
      have HCC := Lib.hid (And.intro hc0 (And.intro hc1 hc2))
      clear hc0 hc1 hc2 hr
      obtain ⟨c0, f0⟩ := hR.out
      rcases Nat.lt_trichotomy k t with hkt | hkt | hkt
      · have hls : Op.bytesLess (strB s.nm).toList (strB r.nm).toList = false := by
          rw [less_str]
          refine decide_eq_false ?_
          rw [← HRE.out]
          exact tIx_before (by rw [HTE.out]; exact hkt)
        have hdn : decide (t < k) = false := decide_eq_false (by omega)
        rw [if_neg (show ¬ t < k by omega), Nat.add_zero] at hO
        rw [hdn]
        have HMK : Hid ((putL L s).getD k sh0 = r) := by show _ = _; unfold putL; rw [ins_lo (by rw [HTE.out]; exact hkt)]; exact HRE.out
        have d0 := hK.out.cell HCC.out.1 (by simpa using hgo)
        have d1 := hK.out.cell HCC.out.2.1 (by simpa using hgo)
        have d2 := hK.out.cell HCC.out.2.2 (by simpa using hgo)
        go_wp2_with fail
        have hlo : ∀ y, y < W7.heap.size → y ∉ (v).ownBlock.toList := fun y hy hm => by have := (World.ownsRow.lt hO.out y (by simpa using hm)).1; omega
        have HLO := Lib.hid hlo
        clear hlo
        have c0a := alloc_cell (o := .cells #[.string (strB r.nm), .int .i64 r.k, .slice (some ⟨gsR k, 0, none⟩) r.n (csR k)] 49) c0
        go_region_law (refine step_appN (by rfl) (.tmp 73) (.tmp 79) (by rfl) W7.heap.size v (k) _ (by rfl) (OwN.kept0 hO.out (by first | exact (Kept.refl [] _).drew.alloc _ | exact ((Kept.refl [] _).alloc _).drew)) wr.heap.size _ _ _ (by rfl) (by first | exact (boxN (Kept.refl [] _)).1 | exact (boxN (Kept.refl [] _).drew).1) (by first | exact (boxN (Kept.refl [] _)).2.1 | exact (boxN (Kept.refl [] _).drew).2.1) (by first | exact (boxN (Kept.refl [] _)).2.2 | exact (boxN (Kept.refl [] _).drew).2.2) rfl rfl rfl (by have := HSZ.out; omega) (by have := hK.out.size; simp; omega) ?_; intro v9 w9 hO9 hgr; have hkg : Kept (v).ownBlock.toList wr w9 := Kept.grown (by first | exact ((Kept.refl _ wr).alloc _).drew | exact (Kept.refl _ wr).drew.alloc _) hgr (fun j hj _ => by rw [hj]; simp); have c9 := hkg.cell c0 (HLO.out _ (by have := Z7.out; show w6.heap.size + 1 < _; omega)); have f9 := hkg.freeS c0 f0 (HLO.out _ (by have := Z7.out; show w6.heap.size + 1 < _; omega)); have hN9 := OwN.add HMK.out (gsF_lo hkt) (gsF_lo hkt) hO9; obtain ⟨g9, e9, rfl, hg9, _⟩ := hN9.row (by omega))
        all_goals
          have hRn : Hid ((w9.setCell ⟨w6.heap.size + 1, 0, none⟩ (.slice (some ⟨g9, 0, none⟩) (k + 1) e9)).cell? ⟨w6.heap.size + 1, 0, none⟩ = some (.slice (some ⟨g9, 0, none⟩) (k + 1) e9) ∧ (w9.setCell ⟨w6.heap.size + 1, 0, none⟩ (.slice (some ⟨g9, 0, none⟩) (k + 1) e9)).frozen? ⟨w6.heap.size + 1, 0, none⟩ = false) := ⟨World.cell?_setCell_same _ _ _ c9, by rw [World.frozen?_setCell]; exact f9⟩
          have kS : Kept [w6.heap.size + 1] w9 (w9.setCell ⟨w6.heap.size + 1, 0, none⟩ (.slice (some ⟨g9, 0, none⟩) (k + 1) e9)) := (Kept.refl [w6.heap.size + 1] w9).setCell _ _ (by simp)
          have hON : Hid (OwN W7.heap.size (w9.setCell ⟨w6.heap.size + 1, 0, none⟩ (.slice (some ⟨g9, 0, none⟩) (k + 1) e9)) (.slice (some ⟨g9, 0, none⟩) (k + 1) e9) (k + 1) (putL L s) (gsF t q gsR) (gsF t cq csR)) := hN9.kept kS (fun y hy => by cases hy; have := Z7.out; simp; omega)
          have hKN : Hid (Kept [w6.heap.size + 1] W7 (w9.setCell ⟨w6.heap.size + 1, 0, none⟩ (.slice (some ⟨g9, 0, none⟩) (k + 1) e9))) := (hK.out.trans hkg (fun y hy hlt => absurd hy (HLO.out y hlt))).trans kS (fun y hy _ => hy)
          clear hgr hO9 hkg c9 f9 hN9 kS c0a
          go_wp2_with fail
          go_roundw
          case rel => exact ⟨k + 1, _, by omega, by rw [decide_eq_false (by omega)], by go_num, hRn, by rw [if_neg (by omega), Nat.add_zero]; exact hON, by intro h; omega, hKN⟩
          case measure => simp [intOf]; omega
      · subst hkt
        have hls : Op.bytesLess (strB s.nm).toList (strB r.nm).toList = true := by
          rw [less_str]
          refine decide_eq_true ?_
          have h9 := tIx_at (s := s) (l := dropL L s.nm) (by rw [HTE.out, HM.out]; exact hlt)
          rw [HTE.out, HRE.out] at h9
          exact h9
        have hdn : decide (k < k) = false := decide_eq_false (by omega)
        rw [if_neg (show ¬ k < k by omega), Nat.add_zero] at hO
        rw [hdn]
        have HMS : Hid ((putL L s).getD k sh0 = s) := by show _ = _; unfold putL; have h9 := ins_at (s := s) (R := dropL L s.nm); rw [HTE.out] at h9; exact h9
        have HMK : Hid ((putL L s).getD (k + 1) sh0 = r) := by show _ = _; unfold putL; rw [ins_hi (by rw [HTE.out]; omega)]; exact HRE.out
        have d0 := hK.out.cell HCC.out.1 (by simpa using hgo)
        have d1 := hK.out.cell HCC.out.2.1 (by simpa using hgo)
        have d2 := hK.out.cell HCC.out.2.2 (by simpa using hgo)
        have e0 := hK.out.cell N7.out.1 (by simp)
        have e1 := hK.out.cell N7.out.2.1 (by simp)
        have e2 := hK.out.cell N7.out.2.2 (by simp)
        have hlo : ∀ y, y < W7.heap.size → y ∉ v.ownBlock.toList := fun y hy hm => by have := (World.ownsRow.lt hO.out y (by simpa using hm)).1; omega
        have HLV := Lib.hid hlo
        have hsz9 := Lib.hid hK.out.size
        have nn := Lib.hid (boxN (Kept.refl [] (wr.alloc (.cells #[.string (strB s.nm), .int .i64 s.k, .slice (some ⟨q, 0, none⟩) s.n cq] 49))))
        have hOa := Lib.hid (OwN.kept0 hO.out ((Kept.refl [] wr).alloc (.cells #[.string (strB s.nm), .int .i64 s.k, .slice (some ⟨q, 0, none⟩) s.n cq] 49)))
        clear hlo
        go_wp2_with (at_builtin; refine appN rfl _ _ rfl W7.heap.size v k _ rfl hOa.out wr.heap.size _ _ _ rfl nn.out.1 nn.out.2.1 nn.out.2.2 rfl rfl rfl (by have := HSZ.out; omega) (by have := hsz9.out; simp; omega) ?_)
        intro v8 w8 hO8 hgr
        have hkg : Kept v.ownBlock.toList wr w8 := Kept.grown ((Kept.refl _ wr).alloc _) hgr (fun j hj _ => by rw [hj]; simp)
        have c8 := hkg.cell c0 (HLV.out _ (by have := Z7.out; show w6.heap.size + 1 < _; omega))
        have f8 := hkg.freeS c0 f0 (HLV.out _ (by have := Z7.out; show w6.heap.size + 1 < _; omega))
        have hN8 := OwN.add HMS.out gsF_at gsF_at hO8
        obtain ⟨g8, e8, rfl, hg8, _⟩ := hN8.row (by omega)
        have kS : Kept [w6.heap.size + 1] w8 (w8.setCell ⟨w6.heap.size + 1, 0, none⟩ (.slice (some ⟨g8, 0, none⟩) (k + 1) e8)) := (Kept.refl [w6.heap.size + 1] w8).setCell _ _ (by simp)
        have hR8 := Lib.hid (And.intro (World.cell?_setCell_same _ _ (.slice (some ⟨g8, 0, none⟩) (k + 1) e8) c8) (show (w8.setCell ⟨w6.heap.size + 1, 0, none⟩ (.slice (some ⟨g8, 0, none⟩) (k + 1) e8)).frozen? ⟨w6.heap.size + 1, 0, none⟩ = false by rw [World.frozen?_setCell]; exact f8))
        have hOB := Lib.hid (hN8.kept kS (fun y hy => by cases hy; have := Z7.out; simp; omega))
        have hKB := Lib.hid ((hK.out.trans hkg (fun y hy hlt => absurd hy (HLV.out y hlt))).trans kS (fun y hy _ => hy))
        have b8 := hkg.cell b0 (HLV.out _ (by have := Z7.out; show w5.heap.size < _; omega))
        clear hgr hO8 hkg hN8 kS c0 f0 d0 d1 d2 e0 e1 e2 hls
        go_wp2_with fail
        obtain ⟨wx, hwx⟩ : ∃ wx, w8.setCell ⟨w6.heap.size + 1, 0, none⟩ (.slice (some ⟨g8, 0, none⟩) (k + 1) e8) = wx := ⟨_, rfl⟩
        rw [hwx] at hR8 hOB hKB ⊢
        clear hwx c8 f8 b8 b0 nn hOa hsz9 hO hK hR
        obtain ⟨c0, f0⟩ := hR8.out
        have b0 := hKB.out.cell X7.out (by simp; omega)
        have d0 := hKB.out.cell HCC.out.1 (by simpa using hgo)
        have d1 := hKB.out.cell HCC.out.2.1 (by simpa using hgo)
        have d2 := hKB.out.cell HCC.out.2.2 (by simpa using hgo)
        have hlo : ∀ y, y < W7.heap.size → y ∉ ((Value.slice (some ⟨g8, 0, none⟩) (k + 1) e8)).ownBlock.toList := fun y hy hm => by have := (World.ownsRow.lt hOB.out y (by simpa using hm)).1; omega
        have HLO := Lib.hid hlo
        clear hlo
        have c0a := alloc_cell (o := .cells #[.string (strB r.nm), .int .i64 r.k, .slice (some ⟨gsR k, 0, none⟩) r.n (csR k)] 49) c0
        go_region_law (refine step_appN (by rfl) (.tmp 73) (.tmp 79) (by rfl) W7.heap.size (.slice (some ⟨g8, 0, none⟩) (k + 1) e8) (k + 1) _ (by rfl) (OwN.kept0 hOB.out (by first | exact (Kept.refl [] _).drew.alloc _ | exact ((Kept.refl [] _).alloc _).drew)) wx.heap.size _ _ _ (by rfl) (by first | exact (boxN (Kept.refl [] _)).1 | exact (boxN (Kept.refl [] _).drew).1) (by first | exact (boxN (Kept.refl [] _)).2.1 | exact (boxN (Kept.refl [] _).drew).2.1) (by first | exact (boxN (Kept.refl [] _)).2.2 | exact (boxN (Kept.refl [] _).drew).2.2) rfl rfl rfl (by have := HSZ.out; omega) (by have := hKB.out.size; simp; omega) ?_; intro v9 w9 hO9 hgr; have hkg : Kept ((Value.slice (some ⟨g8, 0, none⟩) (k + 1) e8)).ownBlock.toList wx w9 := Kept.grown (by first | exact ((Kept.refl _ wx).alloc _).drew | exact (Kept.refl _ wx).drew.alloc _) hgr (fun j hj _ => by rw [hj]; simp); have c9 := hkg.cell c0 (HLO.out _ (by have := Z7.out; show w6.heap.size + 1 < _; omega)); have f9 := hkg.freeS c0 f0 (HLO.out _ (by have := Z7.out; show w6.heap.size + 1 < _; omega)); have hN9 := OwN.add HMK.out (gsF_hi (Nat.le_refl _)) (gsF_hi (Nat.le_refl _)) hO9; obtain ⟨g9, e9, rfl, hg9, _⟩ := hN9.row (by omega))
        all_goals
          have hRn : Hid ((w9.setCell ⟨w6.heap.size + 1, 0, none⟩ (.slice (some ⟨g9, 0, none⟩) (k + 1 + 1) e9)).cell? ⟨w6.heap.size + 1, 0, none⟩ = some (.slice (some ⟨g9, 0, none⟩) (k + 1 + 1) e9) ∧ (w9.setCell ⟨w6.heap.size + 1, 0, none⟩ (.slice (some ⟨g9, 0, none⟩) (k + 1 + 1) e9)).frozen? ⟨w6.heap.size + 1, 0, none⟩ = false) := ⟨World.cell?_setCell_same _ _ _ c9, by rw [World.frozen?_setCell]; exact f9⟩
          have kS : Kept [w6.heap.size + 1] w9 (w9.setCell ⟨w6.heap.size + 1, 0, none⟩ (.slice (some ⟨g9, 0, none⟩) (k + 1 + 1) e9)) := (Kept.refl [w6.heap.size + 1] w9).setCell _ _ (by simp)
          have hON : Hid (OwN W7.heap.size (w9.setCell ⟨w6.heap.size + 1, 0, none⟩ (.slice (some ⟨g9, 0, none⟩) (k + 1 + 1) e9)) (.slice (some ⟨g9, 0, none⟩) (k + 1 + 1) e9) (k + 1 + 1) (putL L s) (gsF k q gsR) (gsF k cq csR)) := hN9.kept kS (fun y hy => by cases hy; have := Z7.out; simp; omega)
          have hKN : Hid (Kept [w6.heap.size + 1] W7 (w9.setCell ⟨w6.heap.size + 1, 0, none⟩ (.slice (some ⟨g9, 0, none⟩) (k + 1 + 1) e9))) := (hKB.out.trans hkg (fun y hy hlt => absurd hy (HLO.out y hlt))).trans kS (fun y hy _ => hy)
          clear hgr hO9 hkg c9 f9 hN9 kS c0a
          go_wp2_with fail
          go_roundw
          case rel => exact ⟨k + 1, _, by omega, by rw [decide_eq_true (by omega)], by go_num, hRn, by rw [if_pos (by omega)]; exact hON, by intro h; omega, hKN⟩
          case measure => simp [intOf]; omega
      · have hdn : decide (t < k) = true := decide_eq_true (by omega)
        rw [if_pos hkt] at hO
        rw [hdn]
        have HMK : Hid ((putL L s).getD (k + 1) sh0 = r) := by show _ = _; unfold putL; rw [ins_hi (by rw [HTE.out]; omega)]; exact HRE.out
        have d0 := hK.out.cell HCC.out.1 (by simpa using hgo)
        have d1 := hK.out.cell HCC.out.2.1 (by simpa using hgo)
        have d2 := hK.out.cell HCC.out.2.2 (by simpa using hgo)
        go_wp2_with fail
        have hlo : ∀ y, y < W7.heap.size → y ∉ (v).ownBlock.toList := fun y hy hm => by have := (World.ownsRow.lt hO.out y (by simpa using hm)).1; omega
        have HLO := Lib.hid hlo
        clear hlo
        have c0a := alloc_cell (o := .cells #[.string (strB r.nm), .int .i64 r.k, .slice (some ⟨gsR k, 0, none⟩) r.n (csR k)] 49) c0
        go_region_law (refine step_appN (by rfl) (.tmp 73) (.tmp 79) (by rfl) W7.heap.size v (k + 1) _ (by rfl) (OwN.kept0 hO.out (by first | exact (Kept.refl [] _).drew.alloc _ | exact ((Kept.refl [] _).alloc _).drew)) wr.heap.size _ _ _ (by rfl) (by first | exact (boxN (Kept.refl [] _)).1 | exact (boxN (Kept.refl [] _).drew).1) (by first | exact (boxN (Kept.refl [] _)).2.1 | exact (boxN (Kept.refl [] _).drew).2.1) (by first | exact (boxN (Kept.refl [] _)).2.2 | exact (boxN (Kept.refl [] _).drew).2.2) rfl rfl rfl (by have := HSZ.out; omega) (by have := hK.out.size; simp; omega) ?_; intro v9 w9 hO9 hgr; have hkg : Kept (v).ownBlock.toList wr w9 := Kept.grown (by first | exact ((Kept.refl _ wr).alloc _).drew | exact (Kept.refl _ wr).drew.alloc _) hgr (fun j hj _ => by rw [hj]; simp); have c9 := hkg.cell c0 (HLO.out _ (by have := Z7.out; show w6.heap.size + 1 < _; omega)); have f9 := hkg.freeS c0 f0 (HLO.out _ (by have := Z7.out; show w6.heap.size + 1 < _; omega)); have hN9 := OwN.add HMK.out (gsF_hi (by omega)) (gsF_hi (by omega)) hO9; obtain ⟨g9, e9, rfl, hg9, _⟩ := hN9.row (by omega))
        all_goals
          have hRn : Hid ((w9.setCell ⟨w6.heap.size + 1, 0, none⟩ (.slice (some ⟨g9, 0, none⟩) (k + 1 + 1) e9)).cell? ⟨w6.heap.size + 1, 0, none⟩ = some (.slice (some ⟨g9, 0, none⟩) (k + 1 + 1) e9) ∧ (w9.setCell ⟨w6.heap.size + 1, 0, none⟩ (.slice (some ⟨g9, 0, none⟩) (k + 1 + 1) e9)).frozen? ⟨w6.heap.size + 1, 0, none⟩ = false) := ⟨World.cell?_setCell_same _ _ _ c9, by rw [World.frozen?_setCell]; exact f9⟩
          have kS : Kept [w6.heap.size + 1] w9 (w9.setCell ⟨w6.heap.size + 1, 0, none⟩ (.slice (some ⟨g9, 0, none⟩) (k + 1 + 1) e9)) := (Kept.refl [w6.heap.size + 1] w9).setCell _ _ (by simp)
          have hON : Hid (OwN W7.heap.size (w9.setCell ⟨w6.heap.size + 1, 0, none⟩ (.slice (some ⟨g9, 0, none⟩) (k + 1 + 1) e9)) (.slice (some ⟨g9, 0, none⟩) (k + 1 + 1) e9) (k + 1 + 1) (putL L s) (gsF t q gsR) (gsF t cq csR)) := hN9.kept kS (fun y hy => by cases hy; have := Z7.out; simp; omega)
          have hKN : Hid (Kept [w6.heap.size + 1] W7 (w9.setCell ⟨w6.heap.size + 1, 0, none⟩ (.slice (some ⟨g9, 0, none⟩) (k + 1 + 1) e9))) := (hK.out.trans hkg (fun y hy hlt => absurd hy (HLO.out y hlt))).trans kS (fun y hy _ => hy)
          clear hgr hO9 hkg c9 f9 hN9 kS c0a
          go_wp2_with fail
          go_roundw
          case rel => exact ⟨k + 1, _, by omega, by rw [decide_eq_true (by omega)], by go_num, hRn, by rw [if_pos (by omega)]; exact hON, by intro h; omega, hKN⟩
          case measure => simp [intOf]; omega
    · have hkm : k = m := by omega
      subst hkm
      have hk10 : k ≤ 10 := HSZ.out
      have hBk := Lib.hid (B7.out.kept hK.out (by simp; omega) (by simp; omega) (by simp; omega))
      obtain ⟨c0, f0⟩ := hR.out
      by_cases hkt : t < k
      · have hdn : decide (t < k) = true := decide_eq_true hkt
        rw [if_pos hkt] at hO
        rw [hdn]
        have hKT := Lib.hid (K7W.out.trans hK.out (fun y hy hlt => by simp at hy; omega))
        have hst := Lib.hid (stV_put HM.out hk10 (by rw [HTE.out]; exact hO.out) hBW.out hK.out HQS.out HQR.out)
        obtain ⟨g9, e9, rfl, hg9, _⟩ := hO.out.row (by omega)
        obtain ⟨_, _, ⟨r0, rf0⟩, r1, rf1⟩ := hBk.out
        obtain ⟨_, ea, eb⟩ := cells2 (.int .i64 0) (.slice (some ⟨g9, 0, none⟩) (k + 1) e9) r0 r1
        go_wp2_with fail
        refine bodyPost_ret (v := .agg #[.int .i64 0, .slice (some ⟨g9, 0, none⟩) (k + 1) e9]) (by simp [results, Try.results12, go_sem, ea, eb]) rfl ⟨_, by rw [hv.out.1], ?_, ?_, (hKT.out.setCell _ _ (by simp; omega)).setCell _ _ (by simp; omega)⟩
        · rw [hv.out.2, show (putL L s).length = k + 1 by rw [putL_len, HM.out]]
          exact (stV_set (stV_set hst.out _ _ (by simp; omega)) _ _ (by simp; omega)).mono (by omega)
        · rw [hv.out.2, show (putL L s).length = k + 1 by rw [putL_len, HM.out]]
          exact (hO.out.cap.set _ _ (by have := Z7.out; simp [Value.ownBlock]; omega)).set _ _ (by have := Z7.out; simp [Value.ownBlock]; omega)
      · have htk : t = k := by have := HT.out; omega
        subst htk
        have hdn : decide (t < t) = false := decide_eq_false hkt
        rw [if_neg hkt, Nat.add_zero] at hO
        rw [hdn]
        have HMS : Hid ((putL L s).getD t sh0 = s) := by show _ = _; unfold putL; have h9 := ins_at (s := s) (R := dropL L s.nm); rw [HTE.out] at h9; exact h9
        have e0 := hK.out.cell N7.out.1 (by simp)
        have e1 := hK.out.cell N7.out.2.1 (by simp)
        have e2 := hK.out.cell N7.out.2.2 (by simp)
        have hlo : ∀ y, y < W7.heap.size → y ∉ v.ownBlock.toList := fun y hy hm => by have := (World.ownsRow.lt hO.out y (by simpa using hm)).1; omega
        have HLV := Lib.hid hlo
        have hsz9 := Lib.hid hK.out.size
        have nn := Lib.hid (boxN (Kept.refl [] (wr.alloc (.cells #[.string (strB s.nm), .int .i64 s.k, .slice (some ⟨q, 0, none⟩) s.n cq] 49))))
        have hOa := Lib.hid (OwN.kept0 hO.out ((Kept.refl [] wr).alloc (.cells #[.string (strB s.nm), .int .i64 s.k, .slice (some ⟨q, 0, none⟩) s.n cq] 49)))
        clear hlo
        go_wp2_with (at_builtin; refine appN rfl _ _ rfl W7.heap.size v t _ rfl hOa.out wr.heap.size _ _ _ rfl nn.out.1 nn.out.2.1 nn.out.2.2 rfl rfl rfl (by have := HSZ.out; omega) (by have := hsz9.out; simp; omega) ?_)
        intro v8 w8 hO8 hgr
        have hkg : Kept v.ownBlock.toList wr w8 := Kept.grown ((Kept.refl _ wr).alloc _) hgr (fun j hj _ => by rw [hj]; simp)
        have c8 := hkg.cell c0 (HLV.out _ (by have := Z7.out; show w6.heap.size + 1 < _; omega))
        have f8 := hkg.freeS c0 f0 (HLV.out _ (by have := Z7.out; show w6.heap.size + 1 < _; omega))
        have hN8 := OwN.add HMS.out gsF_at gsF_at hO8
        obtain ⟨g8, e8, rfl, hg8, _⟩ := hN8.row (by omega)
        have kS : Kept [w6.heap.size + 1] w8 (w8.setCell ⟨w6.heap.size + 1, 0, none⟩ (.slice (some ⟨g8, 0, none⟩) (t + 1) e8)) := (Kept.refl [w6.heap.size + 1] w8).setCell _ _ (by simp)
        have c9 := World.cell?_setCell_same _ _ (.slice (some ⟨g8, 0, none⟩) (t + 1) e8) c8
        have hOB := Lib.hid (hN8.kept kS (fun y hy => by cases hy; have := Z7.out; simp; omega))
        have hKB := Lib.hid ((hK.out.trans hkg (fun y hy hlt => absurd hy (HLV.out y hlt))).trans kS (fun y hy _ => hy))
        have hKT := Lib.hid (K7W.out.trans hKB.out (fun y hy hlt => by simp at hy; omega))
        have hst := Lib.hid (stV_put HM.out hk10 (by rw [HTE.out]; exact hOB.out) hBW.out hKB.out HQS.out HQR.out)
        have hB8 := Lib.hid (B7.out.kept hKB.out (by simp; omega) (by simp; omega) (by simp; omega))
        obtain ⟨_, _, ⟨r0, rf0⟩, r1, rf1⟩ := hB8.out
        obtain ⟨_, ea, eb⟩ := cells2 (.int .i64 0) (.slice (some ⟨g8, 0, none⟩) (t + 1) e8) r0 r1
        clear hgr hO8 hkg hN8 kS c0 f0 e0 e1 e2
        go_wp2_with fail
        refine bodyPost_ret (v := .agg #[.int .i64 0, .slice (some ⟨g8, 0, none⟩) (t + 1) e8]) (by simp [results, Try.results12, go_sem, ea, eb]) rfl ⟨_, by rw [hv.out.1], ?_, ?_, (hKT.out.setCell _ _ (by simp; omega)).setCell _ _ (by simp; omega)⟩
        · rw [hv.out.2, show (putL L s).length = t + 1 by rw [putL_len, HM.out]]
          exact (stV_set (stV_set hst.out _ _ (by simp; omega)) _ _ (by simp; omega)).mono (by omega)
        · rw [hv.out.2, show (putL L s).length = t + 1 by rw [putL_len, HM.out]]
          exact (hOB.out.cap.set _ _ (by have := Z7.out; simp [Value.ownBlock]; omega)).set _ _ (by have := Z7.out; simp [Value.ownBlock]; omega)

set_option maxRecDepth 100000 in
theorem sPutShape_any (a : Option Addr) (n c : Nat) (L : List Sh) (s : Sh) (p : Option Addr) (d : Nat) (w : World) (h : RdSt w a n L) (hr : Rd w p (s.n * 2) s.xs) (hx : s.nm.length ≤ 1048576) :
    Calls Try.prog 12 #[.agg #[.slice a n c], .string (strB s.nm), .agg #[.int .i64 s.k, .slice p s.n d]] w (StoRes w (putC L s) (putS L s)) :=
  (sPutShape_own a n c L s p d w h hr hx).mono fun _ _ h => h.weak

end Go.Proofs.Ytbljpeefekhoeab
