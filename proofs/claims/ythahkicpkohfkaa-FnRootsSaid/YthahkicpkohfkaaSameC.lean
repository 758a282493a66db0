/-
  Contracts of SameBigs, the program's and the model's. Condition: the limbs read as lists of numbers.
-/
import Derived.Deep.RegionHeld3
import Derived.Deep.DrawnRows
import Derived.Deep.DeepCutAuto
import Derived.Test.YthahkicpkohfkaaSameB
namespace Go.Proofs.Ythahkicpkohfkaa
open Go.RowKit

/-- That two bigs are the same in both fields. -/
def sameB (p : Bool) (xs : List Int) (q : Bool) (ys : List Int) : Bool := (p == q) && decide (xs = ys)

/-- Words of 64 bits. -/
def In64 (xs : List Int) : Prop := ∀ z ∈ xs, -9223372036854775808 ≤ z ∧ z ≤ 9223372036854775807

theorem in64_of_row {w : World} {a : Option Addr} {len cap : Nat} {zs : List Int}
    (h : (a = none ∧ len = 0 ∧ cap = 0 ∧ zs = []) ∨
      ∃ x, a = some x ∧ len ≤ cap ∧ cap ≤ maxLen ∧ zs.length = cap ∧ (∀ i, i < zs.length → w.cell? (x.add i) = some (.int .i64 (zs.getD i 0))) ∧ ∀ n ∈ zs, (Lit.int .i64 n).wf = true) :
    In64 (zs.take len) := by
  intro z hz
  have hz' := List.mem_of_mem_take hz
  rcases h with ⟨_, _, _, rfl⟩ | ⟨_, _, _, _, _, _, hw⟩
  · cases hz'
  · have h1 : (decide (IntKind.i64.min ≤ z) && decide (z ≤ IntKind.i64.max)) = true := hw z hz'
    have hmin : IntKind.i64.min = -9223372036854775808 := rfl
    have hmax : IntKind.i64.max = 9223372036854775807 := rfl
    simp only [Bool.and_eq_true, decide_eq_true_eq, hmin, hmax] at h1
    exact h1

theorem byte_inj {x y : Int} {j : Nat} (h : UInt8.ofNat (byteAt x j).toNat = UInt8.ofNat (byteAt y j).toNat) : byteAt x j = byteAt y j := by
  have h1 := byteAt_in x j
  have h2 := byteAt_in y j
  have h3 := congrArg UInt8.toNat h
  simp at h3
  omega
theorem limb_inj {x y : Int} (hx : -9223372036854775808 ≤ x ∧ x ≤ 9223372036854775807) (hy : -9223372036854775808 ≤ y ∧ y ≤ 9223372036854775807) (h : limbB x 8 = limbB y 8) : x = y := by
  simp only [limbB, List.range_succ, List.range_zero, List.nil_append, List.map_cons, List.map_nil, List.cons_append, List.cons.injEq, and_true] at h
  obtain ⟨h0, h1, h2, h3, h4, h5, h6, h7⟩ := h
  have e0 := byte_inj h0
  have e1 := byte_inj h1
  have e2 := byte_inj h2
  have e3 := byte_inj h3
  have e4 := byte_inj h4
  have e5 := byte_inj h5
  have e6 := byte_inj h6
  have e7 := byte_inj h7
  clear h0 h1 h2 h3 h4 h5 h6 h7
  unfold byteAt at e0 e1 e2 e3 e4 e5 e6 e7
  simp only [Nat.mul_zero, Nat.reduceMul, Int.reducePow] at e0 e1 e2 e3 e4 e5 e6 e7
  omega
theorem key_inj : ∀ (xs ys : List Int), In64 xs → In64 ys → keyL xs xs.length = keyL ys ys.length → xs = ys := by
  intro xs
  induction xs with
  | nil =>
    intro ys _ _ h
    have h1 := congrArg List.length h
    rw [keyL_len _ _ (Nat.le_refl _), keyL_len _ _ (Nat.le_refl _)] at h1
    cases ys with
    | nil => rfl
    | cons y ys => simp at h1
  | cons x xs ih =>
    intro ys hx hy h
    cases ys with
    | nil =>
      have h1 := congrArg List.length h
      rw [keyL_len _ _ (Nat.le_refl _), keyL_len _ _ (Nat.le_refl _)] at h1
      simp at h1
    | cons y ys =>
      have h1 : limbB x 8 ++ keyL xs xs.length = limbB y 8 ++ keyL ys ys.length := by simpa [keyL] using h
      obtain ⟨h2, h3⟩ := List.append_inj h1 (by rw [limbB_len, limbB_len])
      rw [limb_inj (hx x (by simp)) (hy y (by simp)) h2, ih ys (fun z hz => hx z (by simp [hz])) (fun z hz => hy z (by simp [hz])) h3]

theorem sameB_key {p q : Bool} {xs ys : List Int} {n m : Nat} (hn : xs.length = n) (hm : ys.length = m) (hx : In64 xs) (hy : In64 ys) :
    (p == q && keyL xs n == keyL ys m) = sameB p xs q ys := by
  subst hn hm
  unfold sameB
  congr 1
  rw [Bool.eq_iff_iff]
  simp only [beq_iff_eq, decide_eq_true_eq]
  constructor
  · intro h
    exact key_inj xs ys hx hy h
  · rintro rfl
    rfl

theorem run_keys (w : World) (p q : Bool) (s t : ByteArray) : (binOp .eql 66 (.agg #[.bool p, .string s]) (.agg #[.bool q, .string t])).run Try.prog w = .ok (.bool ((p == q) && (s.toList == t.toList))) w := by
  rw [run_eql_struct]
  rw [run_equalIn_agg w 9999 66 _ _ (by kernel_rfl) (by kernel_rfl)]
  cases hp : (p == q)
  · simp [Op.eqFields, go_sem, hp]
  · cases ht : (s.toList == t.toList) <;> simp [Op.eqFields, go_sem, hp, ht]

attribute [local go_sem ↓] run_keys

set_option maxHeartbeats 4000000 in
theorem SameBigs_any (p : Bool) (a : Option Addr) (n c : Nat) (xs : List Int) (q : Bool) (b : Option Addr) (m d : Nat) (ys : List Int) (w : World) (h : Sl w a n c xs) (h' : Sl w b m d ys) (hn : n ≤ 1048576) (hm : m ≤ 1048576) (hx : In64 xs) (hy : In64 ys) :
    Calls Try.prog 36 #[.agg #[.bool p, .slice a n c], .agg #[.bool q, .slice b m d]] w (Ans w (.bool (sameB p xs q ys))) := by
  have HS := Lib.hid h
  have HS' := Lib.hid h'
  have HE := Lib.hid (sameB_key (p := p) (q := q) h.length h'.length hx hy)
  clear h h' hx hy
  go_enter Try.func36, Try.ntmps36
  go_wp2_with fail
  generalize hW : ((w.alloc (.cells #[.bool p, .slice a n c] 26)).alloc (.cells #[.bool q, .slice b m d] 26)) = ww0
  have hkk : Kept [] ((w.alloc (.cells #[.bool p, .slice a n c] 26)).alloc (.cells #[.bool q, .slice b m d] 26)) ww0 := by rw [hW]; exact Kept.refl _ _
  have c0 := (hkk.peel.top (g := w.heap.size) (by simp) (by simp) 0 (v := .bool p) rfl).1
  have c1 := (hkk.peel.top (g := w.heap.size) (by simp) (by simp) 1 (v := .slice a n c) rfl).1
  have d0 := (hkk.top (g := w.heap.size + 1) (by simp) (by simp) 0 (v := .bool q) rfl).1
  have d1 := (hkk.top (g := w.heap.size + 1) (by simp) (by simp) 1 (v := .slice b m d) rfl).1
  have k0 := Lib.hid hkk.peel.peel
  clear hkk hW
  go_region_held3 (fun w' => w'.cell? ⟨w.heap.size, 0, none⟩ = some (.bool p) ∧ w'.cell? ⟨w.heap.size, 1, none⟩ = some (.slice a n c) ∧ w'.cell? ⟨w.heap.size + 1, 0, none⟩ = some (.bool q) ∧ w'.cell? ⟨w.heap.size + 1, 1, none⟩ = some (.slice b m d) ∧ Hid (Kept [] ww0 w'))
    ((go_split_ands; (try refine ⟨?_, ?_, ?_, ?_, ?_⟩) <;> with_reducible first | exact Lib.hid ((Kept.refl _ _).drew) | exact drew_cellB (by assumption) | exact Lib.hid (Kept.trans0 (Hid.out (by assumption)) (by assumption)) | exact Kept.cell (by assumption) (by assumption) (by simp)))
    (first
      | (go_at_call_of 71 (Value.agg #[Value.bool p, Value.slice a n c]); go_split_ands; refine (keyOfBig_any _ _ _ _ _ _ (HS.out.kept0 (k0.out.trans0 (Kept.refl [] ww0).drew)) hn).mono ?_; rintro e v1 ⟨rfl, hk1⟩)
      | (go_at_call_of 71 (Value.agg #[Value.bool q, Value.slice b m d]); go_split_ands; refine (keyOfBig_any _ _ _ _ _ _ (HS'.out.kept0 (k0.out.trans0 ((Kept.refl [] ww0).drew.trans0 hk1))) hm).mono ?_; rintro e v2 ⟨rfl, hk2⟩))
  have K2 := Lib.hid (((k0.out.trans0 (Kept.refl [] ww0).drew).trans0 hk1).trans0 hk2)
  clear c0 c1 d0 d1 hk1 hk2
  go_wp2_with fail
  go_ret
  exact ⟨by rw [← HE.out]; rfl, K2.out⟩

/-- The lists are the same up to place k. -/
def SameTo (xs ys : List Int) (k : Nat) : Prop := ∀ i, i < k → xs.getD i 0 = ys.getD i 0
theorem sameTo_all {xs ys : List Int} (h : xs.length = ys.length) (hs : SameTo xs ys xs.length) : xs = ys := by
  apply List.ext_getElem h
  intro i h1 h2
  have := hs i h1
  simpa [List.getD_eq_getElem?_getD, h1, h2] using this

set_option maxHeartbeats 4000000 in
theorem sSameBigs_any (p : Bool) (a : Option Addr) (n c : Nat) (xs : List Int) (q : Bool) (b : Option Addr) (m d : Nat) (ys : List Int) (w : World) (h : Sl w a n c xs) (h' : Sl w b m d ys) (hn : n ≤ 1048576) (hm : m ≤ 1048576) :
    Calls Try.prog 37 #[.agg #[.bool p, .slice a n c], .agg #[.bool q, .slice b m d]] w (Ans w (.bool (sameB p xs q ys))) := by
  have HR := Lib.hid h.rd
  have HR' := Lib.hid h'.rd
  have HL := Lib.hid h.length
  have HL' := Lib.hid h'.length
  clear h h'
  by_cases hpq : p = q
  · by_cases hnm : n = m
    · subst hpq hnm
      obtain ⟨pp, hpp⟩ : ∃ pp, pp = p := ⟨_, rfl⟩
      rw [← hpp]
      clear hpp
      · skip
        go_enter Try.func37, Try.ntmps37
        go_wp2_with fail
        generalize hW : ((w.alloc (.cells #[.bool pp, .slice a n c] 26)).alloc (.cells #[.bool pp, .slice b n d] 26)) = ww0
        have hkk : Kept [] ((w.alloc (.cells #[.bool pp, .slice a n c] 26)).alloc (.cells #[.bool pp, .slice b n d] 26)) ww0 := by rw [hW]; exact Kept.refl _ _
        have HC1 := Lib.hid (hkk.peel.top (g := w.heap.size) (by simp) (by simp) 1 (v := .slice a n c) rfl).1
        have HD1 := Lib.hid (hkk.top (g := w.heap.size + 1) (by simp) (by simp) 1 (v := .slice b n d) rfl).1
        have k0 := Lib.hid hkk.peel.peel
        clear hkk hW
        go_loopw [5] (fun i wr => ∃ k : Nat, k ≤ n ∧ i = .int .i64 k ∧ Hid (SameTo xs ys k) ∧ Hid (Kept [] ww0 wr)) (fun i _ => n - (intOf i).toNat)
        case atStart => exact ⟨0, Nat.zero_le _, rfl, fun i hi => by omega, Kept.refl [] _⟩
        case round =>
          obtain ⟨k, hk, rfl, hO, hK⟩ := hrel
          have c1 := hK.out.cell HC1.out (by simp)
          have d1 := hK.out.cell HD1.out (by simp)
          by_cases hlt : k < n
          · obtain ⟨g, off, rfl, hc0⟩ := (HR.out.kept0 (k0.out.trans0 hK.out)).2.2 k hlt
            obtain ⟨g', off', rfl, hd0⟩ := (HR'.out.kept0 (k0.out.trans0 hK.out)).2.2 k hlt
            obtain ⟨x, hx⟩ : ∃ x, xs.getD k 0 = x := ⟨_, rfl⟩
            obtain ⟨y, hy⟩ : ∃ y, ys.getD k 0 = y := ⟨_, rfl⟩
            rw [hx] at hc0
            rw [hy] at hd0
            have X := Lib.hid hx
            have Y := Lib.hid hy
            clear hx hy
            by_cases hxy : x = y
            · subst hxy
              have hO2 : Hid (SameTo xs ys (k + 1)) := fun i hi => by
                by_cases he : i < k
                · exact hO.out i he
                · obtain rfl : i = k := by omega
                  rw [X.out, Y.out]
              go_wp2_with fail
              go_quiet (fail)
              have hK2 : Hid (Kept [] ww0 (wr.drewN nq)) := hK.out.drewN _
              clear hK
              go_wp2_with fail
              go_roundw
              case rel => exact ⟨k + 1, by omega, by go_num, hO2, hK2⟩
              case measure => simp [intOf]; omega
            · have hxb : (x == y) = false := by simpa using hxy
              have hv : Hid (sameB pp xs pp ys = false) := by
                show _ = _
                unfold sameB
                rw [decide_eq_false (fun e => hxy (by rw [← X.out, ← Y.out, e])), Bool.and_false]
              clear hxy
              go_wp2_with fail
              go_quiet (fail)
              have hK2 : Hid (Kept [] ww0 (wr.drewN nq)) := hK.out.drewN _
              clear hK
              go_wp2_with fail
              go_ret
              exact ⟨by rw [hv.out]; rfl, k0.out.trans0 hK2.out⟩
          · obtain rfl : k = n := by omega
            have hv : Hid (sameB pp xs pp ys = true) := by
              show _ = _
              unfold sameB
              have e := sameTo_all (ys := ys) (HL.out.trans HL'.out.symm) (by rw [HL.out]; exact hO.out)
              rw [decide_eq_true e, beq_self_eq_true]; rfl
            go_wp2_with fail
            go_ret
            exact ⟨by rw [hv.out]; rfl, k0.out.trans0 hK.out⟩
    · have hv : Hid (sameB p xs q ys = false) := by
        show _ = _
        unfold sameB
        rw [decide_eq_false (fun e => hnm (by rw [← HL.out, ← HL'.out, e])), Bool.and_false]
      subst hpq
      have hnm' : ((n : Int) == (m : Int)) = false := by simpa using (by omega : (n : Int) ≠ m)
      clear hnm
      go_enter Try.func37, Try.ntmps37
      go_wp2_with fail
      go_ret
      exact ⟨by rw [hv.out]; rfl, ((Kept.refl _ _).alloc _).alloc _⟩
  · have hpb : (p == q) = false := by simpa using hpq
    have hv : Hid (sameB p xs q ys = false) := by
      show _ = _
      unfold sameB
      rw [hpb, Bool.false_and]
    clear hpq
    cases p <;> cases q <;> first | (simp at hpb; done) | skip
    all_goals (clear hpb; go_enter Try.func37, Try.ntmps37; go_wp2_with fail; go_ret; exact ⟨by rw [hv.out]; rfl, ((Kept.refl _ _).alloc _).alloc _⟩)

end Go.Proofs.Ythahkicpkohfkaa
