/-
  Contract of the method store of the program's shelf. Condition: the map tells the shapes that are asked for, each by its name.
-/
import Derived.Test.YtbljpeefekhoeabItr
import Derived.Test.YtbljpeefekhoeabStoC
import Derived.Test.YtbljpeefekhoeabStrS
import Derived.Test.YtbljpeefekhoeabStoA
namespace Go.Proofs.Ytbljpeefekhoeab
open Go.RowKit

/-- A slice of named shapes, or none of it. -/
def StV (B : Nat) (w : World) (v : Value) (n : Nat) (M : List Sh) : Prop :=
  M.length = n ∧ ((n = 0 ∧ v = .slice none 0 0) ∨ ∃ g gs cs c, v = .slice (some ⟨g, 0, none⟩) n c ∧ StB w g gs cs n M ∧ StA B g gs n)
/-- A call that answers a store in blocks of its own. -/
def NewV (w : World) (M : List Sh) (e : Ending) (w' : World) : Prop := ∃ v, e = .returned (.agg #[v]) ∧ StV w.heap.size w' v M.length M ∧ Kept [] w w'

theorem names_sorted {M : List Sh} (h : Apart M) : (M.map Sh.nm).Pairwise (fun a b => a < b) := by
  rw [List.pairwise_iff_getElem]
  intro i j hi hj hij
  simp only [List.length_map] at hi hj
  have := h i j hij hj
  simpa [List.getD_eq_getElem?_getD, hi, hj] using this
theorem names_nodup {M : List Sh} (h : Apart M) : (M.map Sh.nm).Nodup := (names_sorted h).imp (fun {a b} hab e => by subst e; exact List.lt_irrefl _ hab)
theorem names_merge {M : List Sh} (h : Apart M) {ss : List (List UInt8)} {D : DataW Value} (h1 : ss.Perm (strKeys D)) (h2 : (M.map Sh.nm).Perm (strKeys D)) : ss.mergeSort leB = M.map Sh.nm := by
  rw [mergeSort_of_perm (h1.trans h2.symm)]
  refine List.mergeSort_of_pairwise ?_
  refine (names_sorted h).imp (fun {a b} hab => ?_)
  simp only [leB, decide_eq_true_eq]
  exact List.le_of_lt hab

/-- What the map tells of the named shapes that are asked for. -/
def Told (w : World) (f : List UInt8 → Option Value) (M : List Sh) (ps : Nat → Option Addr) (cs : Nat → Nat) : Prop :=
  Apart M ∧ M.length ≤ 11 ∧ (∀ x, x ∈ M.map Sh.nm ↔ (f x).isSome = true) ∧ ∀ i, i < M.length → f (M.getD i sh0).nm = some (shV M ps cs i) ∧ Rd w (ps i) ((M.getD i sh0).n * 2) (M.getD i sh0).xs ∧ (1 ≤ (M.getD i sh0).n ∧ (M.getD i sh0).n ≤ 12) ∧ (M.getD i sh0).nm.length ≤ 8
theorem Told.kept0 {w w' : World} {f : List UInt8 → Option Value} {M : List Sh} {ps : Nat → Option Addr} {cs : Nat → Nat} (h : Told w f M ps cs) (k : Kept [] w w') : Told w' f M ps cs :=
  ⟨h.1, h.2.1, h.2.2.1, fun i hi => by obtain ⟨h1, h2, h3⟩ := h.2.2.2 i hi; exact ⟨h1, h2.kept0 k, h3⟩⟩

/-- The cells of a slice of texts. -/
theorem OwS.cells {B : Nat} {w : World} {v : Value} {xs : List (List UInt8)} (h : OwS B w v xs) : ∃ a c, v = .slice a xs.length c ∧ ∀ i, i < xs.length → ∃ g, a = some ⟨g, 0, none⟩ ∧ w.cell? ⟨g, i, none⟩ = some (.string (strB (xs.getD i []))) := by
  by_cases hn : 0 < xs.length
  · obtain ⟨g, c, rfl, _, _, _, _, hc⟩ := h.form hn
    exact ⟨_, c, rfl, fun i hi => ⟨g, rfl, hc i hi⟩⟩
  · obtain ⟨h1, h2⟩ := h
    have h0 : xs.length = 0 := by omega
    rcases h2 with ⟨h2, _⟩ | ⟨g, cap, cur, hv, _⟩
    · exact ⟨none, 0, by rw [h2, h0], fun i hi => by omega⟩
    · exact ⟨_, cap, hv, fun i hi => by omega⟩

set_option maxHeartbeats 1000000 in
theorem sortedKeys_any {b N : Nat} {f : List UInt8 → Option Value} {M : List Sh} {w : World} {g : Nat} (hg : w.heap.size = g) (h : MapF w b N f) (hM : Apart M) (hlen : M.length ≤ 1000) (hf : ∀ x, x ∈ M.map Sh.nm ↔ (f x).isSome = true) :
    Calls Try.prog 50 #[.func (.func 63) #[] #[.pointer (some ⟨g, 0, none⟩)]] (w.alloc (.cells #[.map (some b)] 57)) fun e w' => ∃ v, e = .returned v ∧ OwS g w' v (M.map Sh.nm) ∧ Kept [] w w' := by
  subst hg
  obtain ⟨D, hD, hDp, hDs⟩ := h.keys (names_nodup hM) hf
  rw [List.length_map] at hDs
  refine (callsIn_wide.1 (Try.slices_Sorted_keys_50_51 b N D mapR w hD (by unfold maxLen; omega) (by omega))).mono ?_
  rintro e w2 ⟨v, ss, rfl, hS, hrow, _, hb⟩
  have hm := names_merge hM hS hDp
  have hl : ss.length = (M.map Sh.nm).length := by rw [hS.length_eq, hDp.length_eq]
  refine ⟨v, rfl, ?_, ((Kept.refl [] w).alloc (.cells #[.map (some b)] 57)).trans0 (Kept.ofBelow hb)⟩
  unfold OwS
  rw [← hl]
  have he : (ss.mergeSort (fun x y => decide (x ≤ y))).map encStr = (M.map Sh.nm).map strV := by
    rw [show ss.mergeSort (fun x y => decide (x ≤ y)) = M.map Sh.nm from hm]; rfl
  rw [he] at hrow
  exact ownsRow_base_a hrow (by simp)

/-- The call owns, from block B on, a slice that holds the first k named shapes. -/
def OwN (B : Nat) (w : World) (v : Value) (k : Nat) (M : List Sh) (gs cz : Nat → Nat) : Prop := w.ownsRow B 49 3 v k ((List.range (k * 3)).map (stF M gs cz))
/-- The points of the first k named shapes, each in a block of its own. -/
def Apt (B : Nat) (w : World) (gs : Nat → Nat) (k : Nat) (M : List Sh) : Prop := ∀ j, j < k → Blk w (gs j) (M.getD j sh0).xs ∧ B ≤ gs j ∧ ∀ j', j' < j → gs j' ≠ gs j
theorem nm_at {M : List Sh} {k : Nat} : (M.map Sh.nm).getD k [] = (M.getD k sh0).nm := by
  simp only [List.getD_eq_getElem?_getD, List.getElem?_map]
  cases M[k]? <;> rfl

theorem OwN.kept {L : List Nat} {B : Nat} {w w' : World} {v : Value} {k : Nat} {M : List Sh} {gs cz : Nat → Nat} (h : OwN B w v k M gs cz) (kk : Kept L w w') (hL : ∀ g, v.ownBlock = some g → g ∉ L) : OwN B w' v k M gs cz := by
  have hlt := World.ownsRow.lt h
  obtain ⟨h1, h2⟩ := h
  refine ⟨h1, ?_⟩
  rcases h2 with h2 | ⟨g, cap, cur, hv, hg, hh, r⟩
  · exact Or.inl h2
  · exact Or.inr ⟨g, cap, cur, hv, hg, by rw [kk.block g (hlt g (by rw [hv]; rfl)).2 (hL g (by rw [hv]; rfl))]; exact hh, r⟩
theorem OwN.kept0 {B : Nat} {w w' : World} {v : Value} {k : Nat} {M : List Sh} {gs cz : Nat → Nat} (h : OwN B w v k M gs cz) (kk : Kept [] w w') : OwN B w' v k M gs cz := h.kept kk (by simp)
theorem Apt.kept0 {B : Nat} {w w' : World} {gs : Nat → Nat} {k : Nat} {M : List Sh} (h : Apt B w gs k M) (kk : Kept [] w w') : Apt B w' gs k M := fun j hj => ⟨kk.blk (h j hj).1 (by simp), (h j hj).2⟩
theorem stF_congr {M : List Sh} {gs cz gs' cz' : Nat → Nat} {j : Nat} (h1 : gs (j / 3) = gs' (j / 3)) (h2 : cz (j / 3) = cz' (j / 3)) : stF M gs cz j = stF M gs' cz' j := by unfold stF; rw [h1, h2]
theorem OwN.step {B : Nat} {w : World} {v : Value} {k : Nat} {M : List Sh} {gs cz : Nat → Nat} {q c : Nat} (h : w.ownsRow B 49 3 v (k + 1) ((List.range (k * 3)).map (stF M gs cz) ++ [.string (strB (M.getD k sh0).nm), .int .i64 (M.getD k sh0).k, .slice (some ⟨q, 0, none⟩) (M.getD k sh0).n c])) :
    OwN B w v (k + 1) M (fun i => if i = k then q else gs i) (fun i => if i = k then c else cz i) := by
  unfold OwN
  have e : (List.range ((k + 1) * 3)).map (stF M (fun i => if i = k then q else gs i) (fun i => if i = k then c else cz i)) = (List.range (k * 3)).map (stF M gs cz) ++ [.string (strB (M.getD k sh0).nm), .int .i64 (M.getD k sh0).k, .slice (some ⟨q, 0, none⟩) (M.getD k sh0).n c] := by
    rw [show (k + 1) * 3 = k * 3 + 1 + 1 + 1 by omega, List.range_succ, List.range_succ, List.range_succ]
    simp only [List.map_append, List.map_cons, List.map_nil, List.append_assoc, List.cons_append, List.nil_append]
    rw [stF_0, stF_1, show k * 3 + 1 + 1 = k * 3 + 2 by omega, stF_2]
    simp only [if_true]
    congr 1
    refine List.map_congr_left (fun j hj => ?_)
    have := List.mem_range.1 hj
    exact stF_congr (by simp only [if_neg (show ¬ j / 3 = k by omega)]) (by simp only [if_neg (show ¬ j / 3 = k by omega)])
  rw [e]; exact h
theorem OwN.ne {B : Nat} {w : World} {v : Value} {k : Nat} {M : List Sh} {gs cz : Nat → Nat} (h : OwN B w v k M gs cz) (hk : 0 < k) {q : Nat} {xs : List Int} (hb : Blk w q xs) (hl : 0 < xs.length) : v.ownBlock ≠ some q := by
  intro he
  obtain ⟨_, h2⟩ := h
  rcases h2 with ⟨rfl, _⟩ | ⟨g, cap, cur, rfl, _, hh, hc, _, hsz, ht⟩
  · cases he
  · have hg : g = q := by simpa [Value.ownBlock] using he
    subst hg
    obtain ⟨cur', h1, _, h3⟩ := hb
    rw [hh] at h1
    have hcc : cur = cur'.1 := by simpa using congrArg (fun o => match o with | some (Obj.cells c _ _) => c | _ => #[]) h1
    have h4 := h3 0 hl
    rw [← hcc] at h4
    have h5 : (cur.toList.take (k * 3))[0]? = ((List.range (k * 3)).map (stF M gs cz))[0]? := by rw [ht]
    rw [List.getElem?_take, if_pos (by omega), Array.getElem?_toList, h4] at h5
    rw [List.getElem?_map, List.getElem?_range (by omega)] at h5
    have h6 := stF_0 M gs cz 0
    simp only [Nat.zero_mul] at h6
    simp [h6] at h5
theorem OwN.row {B : Nat} {w : World} {v : Value} {k : Nat} {M : List Sh} {gs cz : Nat → Nat} (h : OwN B w v k M gs cz) (hk : 0 < k) : ∃ g c, v = .slice (some ⟨g, 0, none⟩) k c ∧ B ≤ g ∧ RowF w g (k * 3) (stF M gs cz) := by
  obtain ⟨_, h2⟩ := h
  rcases h2 with ⟨_, h2⟩ | ⟨g, cap, cur, rfl, hg, hh, hc, _, hsz, ht⟩
  · omega
  · refine ⟨g, cap, rfl, hg, (cur, _), hh, by show _ ≤ cur.size; omega, fun j hj => ?_⟩
    have h5 : (cur.toList.take (k * 3))[j]? = ((List.range (k * 3)).map (stF M gs cz))[j]? := by rw [ht]
    rw [List.getElem?_take, if_pos hj, Array.getElem?_toList, List.getElem?_map, List.getElem?_range hj] at h5
    simpa using h5
theorem stV_of {B : Nat} {w w' : World} {v : Value} {n : Nat} {M : List Sh} {gs cz : Nat → Nat} {f : List UInt8 → Option Value} {ps : Nat → Option Addr} {cs : Nat → Nat} (hl : M.length = n) (h : OwN B w' v n M gs cz) (h0 : n = 0 → v = .slice none 0 0) (hA : Apt B w' gs n M) (hT : Told w f M ps cs) : StV B w' v n M := by
  refine ⟨hl, ?_⟩
  by_cases hn : n = 0
  · exact .inl ⟨hn, h0 hn⟩
  · obtain ⟨g, c, rfl, hg, hr⟩ := h.row (by omega)
    refine .inr ⟨g, gs, cz, c, rfl, ⟨hl, by have := hT.2.1; omega, hr, fun i hi => ?_⟩, hg, fun i hi => (hA i hi).2.1⟩
    obtain ⟨a1, a2, a3⟩ := hA i hi
    obtain ⟨_, b2, b3, b4⟩ := hT.2.2.2 i (by omega)
    refine ⟨a1, b2.1, by omega, by omega, fun e => ?_, a3⟩
    exact h.ne (by omega) a1 (by have := b2.1; omega) (by rw [e]; rfl)
theorem stV_set {B : Nat} {w : World} {v : Value} {n : Nat} {M : List Sh} (h : StV B w v n M) (p : Addr) (u : Value) (hp : p.block < B) : StV B (w.setCell p u) v n M := by
  refine ⟨h.1, ?_⟩
  rcases h.2 with h | ⟨g, gs, cs, c, hv, hs, ha⟩
  · exact .inl h
  · refine .inr ⟨g, gs, cs, c, hv, ?_, ha⟩
    obtain ⟨h1, h2, h3, h4⟩ := hs
    exact ⟨h1, h2, h3.other _ _ (by have := ha.1; omega), fun i hi => ⟨(h4 i hi).1.other _ _ (by have := ha.2 i hi; omega), (h4 i hi).2⟩⟩
theorem StV.mono {B B' : Nat} {w : World} {v : Value} {n : Nat} {M : List Sh} (h : StV B w v n M) (hB : B' ≤ B) : StV B' w v n M := by
  refine ⟨h.1, ?_⟩
  rcases h.2 with h | ⟨g, gs, cs, c, hv, hs, ha⟩
  · exact .inl h
  · exact .inr ⟨g, gs, cs, c, hv, hs, Nat.le_trans hB ha.1, fun i hi => Nat.le_trans hB (ha.2 i hi)⟩
theorem StV.form {B : Nat} {w : World} {v : Value} {n : Nat} {M : List Sh} (h : StV B w v n M) : ∃ a c, v = .slice a n c := by
  rcases h.2 with ⟨rfl, rfl⟩ | ⟨g, gs, cs, c, hv, _⟩
  · exact ⟨none, 0, rfl⟩
  · exact ⟨_, c, hv⟩
theorem appN {w : World} {ops : Array Oper} {rest : List Oper} {o : Oper} {a : Act} {Q : Exit → Act → World → Prop} (hgd : o.guard = none) (s x : Operand)
    (ho : o.op = .call { callee := .builtin .append, args := #[s, x], argTypes := #[24, 24] })
    (base : Nat) (v : Value) (k : Nat) (xs : List Value) (hs : a.eval s = v) (hown : w.ownsRow base 49 3 v k xs)
    (g0 : Nat) (u0 u1 u2 : Value) (hx : a.eval x = .slice (some ⟨g0, 0, none⟩) 1 1) (hc : w.cell? ⟨g0, 0, none⟩ = some u0) (hd : w.cell? ⟨g0, 1, none⟩ = some u1) (he : w.cell? ⟨g0, 2, none⟩ = some u2)
    (z0 : u0.oneCell' = true) (z1 : u1.oneCell' = true) (z2 : u2.oneCell' = true) (hlen : k ≤ 3000000) (hbase : base ≤ w.heap.size)
    (h : ∀ v' w', w'.ownsRow base 49 3 v' (k + 1) (xs ++ [u0, u1, u2]) → w.grownBy w' v.ownBlock → wpList Try.prog ops Q rest (a.put o.dst v') w') :
    wpList Try.prog ops Q (o :: rest) a w := by
  obtain ⟨i0, hi, hz0, hz1, hz2⟩ := info_parts Try.infoNm
  refine wpList_append_own_wide w hgd s x 24 ho base 49 i0 (.agg #[.string ⟨#[]⟩, .int .i64 0, .slice none 0 0]) 3 48 Try.underlying24 hi hz0 hz1 hz2 rfl (by decide) v k xs hs hown ⟨g0, 0, none⟩ 1 1 [u0, u1, u2] hx rfl ?_ ?_ ?_ ?_ hbase ?_
  · intro j z hj
    have hj0 : j < 3 := by
      have := (List.getElem?_eq_some_iff.1 hj).1
      simpa using this
    rw [Addr.add_lit]
    rcases (by omega : j = 0 ∨ j = 1 ∨ j = 2) with rfl | rfl | rfl
    · simp at hj; subst hj; exact hc
    · simp at hj; subst hj; exact hd
    · simp at hj; subst hj; exact he
  · intro z hz
    simp at hz
    rcases hz with rfl | rfl | rfl <;> assumption
  · unfold maxLen; omega
  · omega
  · intro v' w' h1 h2 _
    exact h v' w' h1 h2

set_option maxHeartbeats 1000000 in
theorem store_any (b N : Nat) (f : List UInt8 → Option Value) (M : List Sh) (ps : Nat → Option Addr) (cs : Nat → Nat) (w : World) (h : MapF w b N f) (ht : Told w f M ps cs) :
    Calls Try.prog 30 #[.map (some b)] w (NewV w M) := by
  have HM := Lib.hid h
  have HT := Lib.hid ht
  clear h ht
  go_enter Try.func30, Try.ntmps30
  go_wp2_with fail
  refine (callsIn_wide.1 (Try.maps_Keys_51 _ _)).mono ?_
  rintro e w1 ⟨rfl, rfl⟩
  go_wp2_with fail
  refine (sortedKeys_any (w := w.alloc (.cells #[.slice none 0 0] 26)) (by simp) (HM.out.kept0 ((Kept.refl [] w).alloc (.cells #[.slice none 0 0] 26))) HT.out.1 (by have := HT.out.2.1; omega) HT.out.2.2.1).mono ?_
  rintro e w2 ⟨v, rfl, hrow, hb⟩
  obtain ⟨va, vc, rfl, hcells⟩ := hrow.cells
  obtain ⟨n, hn⟩ : ∃ n, M.length = n := ⟨_, rfl⟩
  rw [List.length_map, hn] at hcells
  rw [List.length_map, hn]
  have HN := Lib.hid hn
  have HC := Lib.hid hcells
  have K2 := Lib.hid hb.peel
  have x0 := (hb.top rfl (by simp) 0 (v := .slice none 0 0) rfl)
  have X0 := Lib.hid (And.intro x0.1 x0.2.1)
  have HT2 := Lib.hid (HT.out.kept0 hb.peel)
  have HM2 := Lib.hid (HM.out.kept0 hb.peel)
  clear hrow hb hcells x0 hn
  go_wp2_with fail
  go_loopw [3, 10] (fun l i wr => ∃ (k : Nat) (v : Value) (gs cz : Nat → Nat), k ≤ n ∧ l = v ∧ i = .int .i64 k ∧ Hid (OwN w2.heap.size wr v k M gs cz) ∧ Hid (k = 0 → v = .slice none 0 0) ∧ Hid (Apt w2.heap.size wr gs k M) ∧ Hid (Kept [] w2 wr)) (fun _ i _ => n - (intOf i).toNat)
  case atStart => exact ⟨0, _, fun _ => 0, fun _ => 0, Nat.zero_le _, rfl, rfl, ⟨rfl, Or.inl ⟨rfl, rfl⟩⟩, fun _ => rfl, fun j hj => by omega, Kept.refl _ _⟩
  case round =>
    obtain ⟨k, v, gs, cz, hk, rfl, rfl, hO, h0, hA, hK⟩ := hrel
    by_cases hlt : k < n
    · obtain ⟨g, rfl, hc0⟩ := HC.out k hlt
      rw [nm_at] at hc0
      have d0 := hK.out.cell hc0 (by simp)
      obtain ⟨hf, hrd, hn12, hnl⟩ := HT2.out.2.2.2 k (by rw [HN.out]; exact hlt)
      have hf2 : Hid (f (M.getD k sh0).nm = some (.agg #[.int .i64 (M.getD k sh0).k, .slice (ps k) (M.getD k sh0).n (cs k)])) := hf
      obtain ⟨s, hs⟩ : ∃ s, M.getD k sh0 = s := ⟨_, rfl⟩
      rw [hs] at d0 hf2 hrd hn12 hnl
      have HS := Lib.hid hs
      have HRD := Lib.hid (hrd.kept0 hK.out)
      have HNL := Lib.hid (show s.nm.length ≤ 1048576 by omega)
      have HN12 := Lib.hid hn12
      have HMr := Lib.hid (HM2.out.kept0 hK.out)
      clear hc0 hf hrd hnl hs hn12
      go_wp2_with (at_lookup; refine wpGetV _ rfl _ _ rfl rfl HMr.out HNL.out rfl hf2.out ?_)
      refine (copyOfShape_any _ _ _ _ _ _ HRD.out (by have := HN12.out.1; omega) (by have := HN12.out.2; omega)).mono ?_
      rintro e w3 ⟨q, c3, rfl, hq, hbq, hk3⟩
      have ka := (Kept.refl [] w3).alloc (.cells #[.string (strB s.nm), .int .i64 s.k, .slice (some ⟨q, 0, none⟩) s.n c3] 49)
      have hB4 := Lib.hid (ka.blk hbq (by simp))
      have hO4 := Lib.hid (OwN.kept0 hO.out (hk3.trans0 ka))
      have hA4 := Lib.hid (Apt.kept0 hA.out (hk3.trans0 ka))
      have hK4 := Lib.hid (hK.out.trans0 (hk3.trans0 ka))
      have hws := hK.out.size
      have hq2 := Lib.hid (show w2.heap.size ≤ q by omega)
      have hqj : Hid (∀ j, j < k → gs j < q) := fun j hj => by have := (hA.out j hj).1.lt; omega
      have hsz3 := Lib.hid (show w2.heap.size ≤ w3.heap.size by have := hk3.size; omega)
      have hk11 : k ≤ 3000000 := by have := HT.out.2.1; have := HN.out; omega
      have nn := Kept.refl [] (w3.alloc (.cells #[.string (strB s.nm), .int .i64 s.k, .slice (some ⟨q, 0, none⟩) s.n c3] 49))
      have n0 := Lib.hid (boxN nn)
      clear nn
      clear hO hA hK hbq hk3 ka hws hq d0
      go_wp2_with (at_builtin; refine appN rfl _ _ rfl w2.heap.size _ k _ rfl hO4.out w3.heap.size _ _ _ rfl n0.out.1 n0.out.2.1 n0.out.2.2 rfl rfl rfl hk11 (by have := hsz3.out; simp; omega) ?_)
      intro v' w5 h1 h2
      have hN5 := Lib.hid (OwN.step (M := M) (gs := gs) (cz := cz) (q := q) (c := c3) (by rw [HS.out]; exact h1))
      have hkv : Kept u3.ownBlock.toList (w3.alloc (.cells #[.string (strB s.nm), .int .i64 s.k, .slice (some ⟨q, 0, none⟩) s.n c3] 49)) w5 := (Kept.refl _ _).grown h2 (fun j hj _ => by rw [hj]; simp)
      have hA5 : Hid (Apt w2.heap.size w5 (fun i => if i = k then q else gs i) (k + 1) M) := by
        have hne : ∀ x cs', Blk (w3.alloc (.cells #[.string (strB s.nm), .int .i64 s.k, .slice (some ⟨q, 0, none⟩) s.n c3] 49)) x cs' → 0 < cs'.length → x ∉ u3.ownBlock.toList := by
          intro x cs' hb hl hm
          have hm' : u3.ownBlock = some x := by simpa using hm
          by_cases hk0 : k = 0
          · rw [h0.out hk0] at hm'; cases hm'
          · exact OwN.ne hO4.out (by omega) hb hl hm'
        intro j hj
        by_cases hjk : j = k
        · subst hjk
          simp only [if_true]
          rw [HS.out]
          refine ⟨hkv.blk hB4.out (hne _ _ hB4.out (by have := HRD.out.1; have := HN12.out.1; omega)), hq2.out, fun j' hj' => ?_⟩
          rw [if_neg (by omega)]
          exact Nat.ne_of_lt (hqj.out j' hj')
        · obtain ⟨a1, a2, a3⟩ := hA4.out j (by omega)
          simp only [if_neg hjk]
          have ht := HT2.out.2.2.2 j (by rw [HN.out]; omega)
          refine ⟨hkv.blk a1 (hne _ _ a1 (by have := ht.2.1.1; have := ht.2.2.1.1; omega)), a2, fun j' hj' => ?_⟩
          rw [if_neg (by omega)]
          exact a3 j' hj'
      have hK5 : Hid (Kept [] w2 w5) := hK4.out.grown h2 (fun j hj hlt => by have := (World.ownsRow.lt hO4.out j hj).1; omega)
      clear h1 h2 hkv hO4 hA4 hK4 hB4
      go_wp2_with fail
      go_roundw
      case rel => exact ⟨k + 1, _, _, _, by omega, rfl, by go_num, hN5, by intro h; omega, hA5, hK5⟩
      case measure => simp [intOf]; omega
    · obtain rfl : k = n := by omega
      have hst := Lib.hid (stV_of HN.out hO.out h0.out hA.out HT2.out)
      obtain ⟨ua, uc, rfl⟩ := hst.out.form
      have y0 := hK.out.cell X0.out.1 (by simp)
      have y1 := hK.out.free X0.out.2 (World.block_lt_of_cell? w2 _ X0.out.1) (by simp)
      have hlw : w.heap.size < w2.heap.size := World.block_lt_of_cell? w2 _ X0.out.1
      have hK5 := Lib.hid (K2.out.trans0 hK.out)
      clear hO hA hK
      have e4 := World.cell?_setCell_same _ _ (.slice ua k uc) y0
      go_wp2_with fail
      refine bodyPost_ret (v := .agg #[.slice ua k uc]) (by simp [results, Try.results30, go_sem, e4]) rfl ⟨_, rfl, ?_, hK5.out.setCell _ _ (by simp)⟩
      rw [HN.out]
      exact (stV_set hst.out _ _ hlw).mono K2.out.size

end Go.Proofs.Ytbljpeefekhoeab
