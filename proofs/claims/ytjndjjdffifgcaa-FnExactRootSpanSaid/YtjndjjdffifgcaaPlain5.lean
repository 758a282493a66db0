/-
  Plain facts on a long division, limb by limb. No program is imported here. No condition.
-/
import Derived.Test.YtjndjjdffifgcaaPlain4
namespace Go.Proofs.Ytjndjjdffifgcaa

theorem val_set : ∀ (Q : List Int) (i : Nat) (q : Int), i < Q.length → Q.getD i 0 = 0 → val (Q.set i q) = val Q + pw i * q
  | [], i, q, h, _ => by simp at h
  | x :: Q, 0, q, _, h => by
    have hx : x = 0 := by simpa using h
    subst hx
    simp [val, pw]; omega
  | x :: Q, i + 1, q, hi, h => by
    have := val_set Q i q (by simpa using hi) (by simpa using h)
    simp only [List.set_cons_succ, val, pw, this]
    rw [Int.mul_add, Int.mul_assoc]; omega
theorem AllLimbs.set {Q : List Int} (h : AllLimbs Q) (i : Nat) {q : Int} (hq : 0 ≤ q ∧ q ≤ 65535) : AllLimbs (Q.set i q) := fun j hj => by
  rw [List.length_set] at hj
  have := h j hj
  simp only [List.getD_eq_getElem?_getD, List.getElem?_set] at this ⊢
  by_cases e : i = j
  · subst e; simp [hj]; exact hq
  · rw [if_neg e]; exact this
theorem pw_le_val {ys : List Int} (hy : AllLimbs ys) (hm : 0 < ys.length) (ht : ys.getD (ys.length - 1) 0 ≠ 0) : pw (ys.length - 1) ≤ val ys := by
  have h := val_split ys (ys.length - 1) (by omega)
  have d := val_drop ys (ys.length - 1)
  have z : val (ys.drop (ys.length - 1 + 1)) = 0 := by rw [List.drop_of_length_le (by omega)]; rfl
  have t := hy (ys.length - 1) (by omega)
  have tk := (hy.take (ys.length - 1)).val.1
  rw [z] at d
  have hd : 1 ≤ val (ys.drop (ys.length - 1)) := by omega
  have hp := pw_pos (ys.length - 1)
  have : pw (ys.length - 1) * 1 ≤ pw (ys.length - 1) * val (ys.drop (ys.length - 1)) := Int.mul_le_mul_of_nonneg_left hd (by omega)
  omega

/-- A long division with k steps to go: what is left, and the quotient so far. -/
def DivAt (xs ys : List Int) (ql k : Nat) (R Q : List Int) : Prop :=
  ∃ L V, R = L ++ (V ++ List.replicate (xs.length + 1 - k - ys.length) 0) ∧ L.length = k ∧ V.length = ys.length ∧ AllLimbs L ∧ AllLimbs V ∧ val V < val ys ∧ AllLimbs Q ∧ Q.length = ql ∧
    (∀ j, j < k → Q.getD j 0 = 0) ∧ ap L (val V) + val ys * val Q = val xs

theorem DivAt.start {xs ys : List Int} (ql : Nat) (hx : AllLimbs xs) (hy : AllLimbs ys) (hm : 0 < ys.length) (ht : ys.getD (ys.length - 1) 0 ≠ 0) (hn : ys.length ≤ xs.length) :
    DivAt xs ys ql (xs.length - ys.length + 1) (xs ++ List.replicate (xs.length + 1 - xs.length) 0) (List.replicate ql 0) := by
  have e1 : xs.length + 1 - xs.length = 1 := by omega
  have e2 : xs.length + 1 - (xs.length - ys.length + 1) - ys.length = 0 := by omega
  refine ⟨xs.take (xs.length - ys.length + 1), xs.drop (xs.length - ys.length + 1) ++ [0], ?_, by simp; omega, by simp; omega, hx.take _, (hx.drop _).snoc (by omega), ?_, AllLimbs.zeros _, by simp, fun j hj => ?_, ?_⟩
  · rw [e1, e2, List.replicate_zero, List.append_nil, ← List.append_assoc, List.take_append_drop]; rfl
  · rw [show xs.drop (xs.length - ys.length + 1) ++ [0] = xs.drop (xs.length - ys.length + 1) ++ List.replicate 1 0 from rfl, val_append, ap_pw, val_zeros]
    have h1 := (hx.drop (xs.length - ys.length + 1)).val
    rw [List.length_drop, show xs.length - (xs.length - ys.length + 1) = ys.length - 1 by omega] at h1
    have h2 := pw_le_val hy hm ht
    simp; omega
  · by_cases e : j < ql
    · simp [List.getD_eq_getElem?_getD, e]
    · rw [List.getD_eq_getElem?_getD, List.getElem?_eq_none (by simp; omega)]; rfl
  · rw [val_zeros, Int.mul_zero, Int.add_zero, ← val_append, ← List.append_assoc, List.take_append_drop, show xs ++ [0] = xs ++ List.replicate 1 0 from rfl, val_append, ap_pw, val_zeros]
    simp
theorem DivAt.length {xs ys R Q : List Int} {ql k : Nat} (h : DivAt xs ys ql k R Q) (hk : k + ys.length ≤ xs.length + 1) : R.length = xs.length + 1 := by
  obtain ⟨L, V, rfl, h1, h2, _⟩ := h
  simp; omega
theorem DivAt.limbs {xs ys R Q : List Int} {ql k : Nat} (h : DivAt xs ys ql k R Q) : AllLimbs R ∧ AllLimbs Q ∧ Q.length = ql := by
  obtain ⟨L, V, rfl, _, _, h3, h4, _, h6, h7, _⟩ := h
  exact ⟨h3.append (h4.append (AllLimbs.zeros _)), h6, h7⟩
theorem DivAt.done {xs ys R Q : List Int} {ql : Nat} (h : DivAt xs ys ql 0 R Q) : val Q = val xs / val ys ∧ val R = val xs % val ys := by
  obtain ⟨L, V, rfl, h1, h2, h3, h4, h5, h6, h7, h8, h9⟩ := h
  have hL : L = [] := List.eq_nil_of_length_eq_zero h1
  subst hL
  simp only [ap] at h9
  have hv := h4.val.1
  have hr : val ([] ++ (V ++ List.replicate (xs.length + 1 - 0 - ys.length) 0)) = val V := by rw [List.nil_append, val_append, ap_pw, val_zeros]; simp
  rw [hr]
  have := (Int.ediv_emod_unique (a := val xs) (b := val ys) (r := val V) (q := val Q) (by omega)).2 ⟨h9, hv, h5⟩
  exact ⟨this.1.symm, this.2.symm⟩

theorem DivAt.window {xs ys R Q : List Int} {ql i : Nat} (h : DivAt xs ys ql (i + 1) R Q) (hi : i + 1 + ys.length ≤ xs.length + 1) (hql : i < ql) (hV0 : 0 < val ys) :
    ∃ ss, ss.length = ys.length + 1 ∧ AllLimbs ss ∧ (∀ j, j < ys.length + 1 → R.getD (i + j) 0 = ss.getD j 0) ∧ val ss < 65536 * val ys ∧
      ∀ out ds, AllLimbs ys → AllLimbs out → out.length = ys.length + 1 → val out = val ss % val ys → Upd R i out ds → DivAt xs ys ql i ds (Q.set i (val ss / val ys)) := by
  obtain ⟨L, V, rfl, h1, h2, h3, h4, h5, h6, h7, h8, h9⟩ := h
  obtain ⟨L', l, rfl⟩ : ∃ L' l, L = L' ++ [l] := by
    rcases List.eq_nil_or_concat L with e | ⟨a, b, e⟩
    · subst e; simp at h1
    · exact ⟨a, b, by simpa using e⟩
  have hL' : L'.length = i := by simpa using h1
  have hLL : AllLimbs L' := by
    intro j hj
    have := h3 j (by simp; omega)
    simp only [List.getD_eq_getElem?_getD, List.getElem?_append_left hj] at this ⊢; exact this
  have hl : 0 ≤ l ∧ l ≤ 65535 := by
    have := h3 i (by simp; omega)
    simpa [List.getD_eq_getElem?_getD, ← hL'] using this
  have hv := h4.val
  have hs : AllLimbs (l :: V) := fun j hj => by
    cases j with
    | zero => simpa using hl
    | succ j => have := h4 j (by simpa using hj); simpa using this
  have hvs : val (l :: V) = l + 65536 * val V := rfl
  refine ⟨l :: V, by simp [h2], hs, fun j hj => ?_, by rw [hvs]; omega, ?_⟩
  · simp only [List.getD_eq_getElem?_getD, List.append_assoc]
    rw [List.getElem?_append_right (by omega), show i + j - L'.length = j by omega, List.singleton_append, ← List.cons_append]
    rw [List.getElem?_append_left (by simp; omega)]
  · intro out ds hy ho hol hvo hu
    have hlen : (L' ++ [l] ++ (V ++ List.replicate (xs.length + 1 - (i + 1) - ys.length) (0 : Int))).length = xs.length + 1 := by simp; omega
    have heq := hu.eq (by rw [hlen, hol]; omega)
    have e1 : (L' ++ [l] ++ (V ++ List.replicate (xs.length + 1 - (i + 1) - ys.length) (0 : Int))).take i = L' := by
      rw [List.append_assoc, ← hL']; exact List.take_left
    have e2 : (L' ++ [l] ++ (V ++ List.replicate (xs.length + 1 - (i + 1) - ys.length) (0 : Int))).drop (i + out.length) = List.replicate (xs.length + 1 - (i + 1) - ys.length) 0 := by
      rw [hol, ← h2, show L' ++ [l] ++ (V ++ List.replicate (xs.length + 1 - (i + 1) - V.length) (0 : Int)) = (L' ++ [l] ++ V) ++ List.replicate (xs.length + 1 - (i + 1) - V.length) 0 by simp]
      have e : i + (V.length + 1) = (L' ++ [l] ++ V).length := by simp; omega
      rw [e]; exact List.drop_left
    rw [e1, e2] at heq
    -- the limb at the top of what is left is 0
    have hm := ediv_spec (X := val (l :: V)) hV0
    have hmp : 0 < ys.length := by
      rcases (by omega : ys.length = 0 ∨ 0 < ys.length) with e | e
      · rw [List.eq_nil_of_length_eq_zero e] at hV0; simp [val] at hV0
      · exact e
    have hyv := hy.val
    have sp := val_split out ys.length (by omega)
    have dp := val_drop out ys.length
    have zp : val (out.drop (ys.length + 1)) = 0 := by rw [List.drop_of_length_le (by omega)]; rfl
    have tk := (ho.take ys.length).val
    have tp := ho ys.length (by omega)
    have hp := pw_pos ys.length
    have ltk : (out.take ys.length).length = ys.length := by simp; omega
    rw [zp] at dp
    have htop : out.getD ys.length 0 = 0 := by
      rcases (by omega : out.getD ys.length 0 = 0 ∨ 1 ≤ out.getD ys.length 0) with h0 | h0
      · exact h0
      · have : pw ys.length * 1 ≤ pw ys.length * val (out.drop ys.length) := Int.mul_le_mul_of_nonneg_left (by omega) (by omega)
        omega
    have hov : val (out.take ys.length) = val out := by
      rw [htop] at dp
      rw [sp, dp]; simp
    have hout : out = out.take ys.length ++ [0] := by
      have h0 : out.drop ys.length = [0] := by
        rw [List.drop_eq_getElem_cons (by omega), List.drop_of_length_le (by omega)]
        congr 1
        have := htop
        simpa [List.getD_eq_getElem?_getD, show ys.length < out.length by omega] using this
      rw [← h0, List.take_append_drop]
    have hqb : 0 ≤ val (l :: V) / val ys ∧ val (l :: V) / val ys ≤ 65535 := by
      have : val (l :: V) / val ys < 65536 := Int.ediv_lt_of_lt_mul hV0 (by rw [hvs]; omega)
      have := Int.ediv_nonneg (a := val (l :: V)) (b := val ys) (by rw [hvs]; omega) (by omega)
      omega
    refine ⟨L', out.take ys.length, ?_, hL', ltk, hLL, ho.take _, by rw [hov, hvo]; exact hm.2.2, h6.set i hqb, by rw [List.length_set]; exact h7, fun j hj => ?_, ?_⟩
    · rw [heq]
      conv => lhs; rw [hout]
      have hlz : xs.length + 1 - i - ys.length = (xs.length + 1 - (i + 1) - ys.length) + 1 := by clear heq hu hlen hout hL' h1; omega
      rw [hlz, List.replicate_succ]
      simp
    · have := h8 j (by omega)
      simp only [List.getD_eq_getElem?_getD, List.getElem?_set] at this ⊢
      rw [if_neg (by omega)]; exact this
    · rw [val_set Q i _ (by rw [h7]; omega) (h8 i (by omega)), hov, hvo, ap_pw, hL']
      rw [ap_snoc, ap_pw, hL', ← hvs] at h9
      have e : pw i * val (l :: V) = pw i * (val (l :: V) % val ys) + val ys * (pw i * (val (l :: V) / val ys)) := by
        conv => lhs; rw [hm.1]
        rw [Int.mul_add, Int.mul_left_comm (pw i) (val ys)]; omega
      rw [Int.mul_add]; omega

theorem guess_ge {X V H D a b P : Int} (hX : X = a + P * H) (hV : V = b + P * D) (hP : 1 ≤ P) (ha : 0 ≤ a ∧ a < P) (hb : 0 ≤ b) (hD : 1 ≤ D) (hH : 0 ≤ H) : X / V ≤ H / D := by
  have hPD : P * 1 ≤ P * D := Int.mul_le_mul_of_nonneg_left hD (by omega)
  have hPH : 0 ≤ P * H := Int.mul_nonneg (by omega) hH
  have hVp : 0 < V := by omega
  obtain ⟨q1, q2, q3⟩ := ediv_spec (X := X) hVp
  have hq0 : 0 ≤ X / V := Int.ediv_nonneg (by omega) (by omega)
  generalize X / V = q at *
  generalize X % V = r at *
  refine (Int.le_ediv_iff_mul_le (by omega)).2 ?_
  have h1 : P * (q * D) ≤ V * q := by
    have e : V * q = P * (q * D) + b * q := by rw [hV, Int.add_mul, Int.mul_assoc, Int.mul_comm D q]; omega
    have := Int.mul_nonneg hb hq0
    omega
  have h3 : P * (q * D) < P * (H + 1) := by rw [Int.mul_add, Int.mul_one]; omega
  have := Int.lt_of_mul_lt_mul_left h3 (by omega)
  omega

/-- The guess of a quotient's limb by the highest limb of the divisor alone. -/
def guess1 (R ys : List Int) : Int := (R.getD ys.length 0 * 65536 + R.getD (ys.length - 1) 0) / ys.getD (ys.length - 1) 0
theorem guess1_ge {R ys : List Int} (hR : AllLimbs R) (hRl : R.length = ys.length + 1) (hy : AllLimbs ys) (hm : 0 < ys.length) (ht : ys.getD (ys.length - 1) 0 ≠ 0) : val R / val ys ≤ guess1 R ys ∧ 0 ≤ guess1 R ys ∧ guess1 R ys ≤ 4294967295 := by
  obtain ⟨p, hp⟩ : ∃ p, ys.length = p + 1 := ⟨ys.length - 1, by omega⟩
  have sR := val_split R p (by omega)
  have sy := val_split ys p (by omega)
  have dR : val (R.drop p) = R.getD (p + 1) 0 * 65536 + R.getD p 0 := by
    have a := val_drop R p
    have b : val (R.drop (p + 1)) = R.getD (p + 1) 0 + 65536 * val (R.drop (p + 2)) := val_drop R (p + 1)
    have c : val (R.drop (p + 2)) = 0 := by rw [List.drop_of_length_le (by omega)]; rfl
    omega
  have dy : val (ys.drop p) = ys.getD p 0 := by
    have a := val_drop ys p
    have c : val (ys.drop (p + 1)) = 0 := by rw [List.drop_of_length_le (by omega)]; rfl
    omega
  have tR := (hR.take p).val
  have ty := (hy.take p).val
  have lR : (R.take p).length = p := by simp; omega
  rw [lR] at tR
  have y1 := hy p (by omega)
  rw [hp, show p + 1 - 1 = p by omega] at ht
  have r0 := hR p (by omega)
  have r1 := hR (p + 1) (by omega)
  have hg : guess1 R ys = (R.getD (p + 1) 0 * 65536 + R.getD p 0) / ys.getD p 0 := by
    unfold guess1
    rw [hp, show p + 1 - 1 = p by omega]
  rw [hg]
  refine ⟨?_, Int.ediv_nonneg (by omega) (by omega), ?_⟩
  · rw [← dR, ← dy]
    exact guess_ge sR sy (pw_pos p) tR ty.1 (by omega) (by omega)
  · have := Int.ediv_le_self (b := ys.getD p 0) (show 0 ≤ R.getD (p + 1) 0 * 65536 + R.getD p 0 by omega)
    omega

/-- A long division by one limb: what is left over at place k, and the quotient from there on. -/
def ShortAt (xs : List Int) (d : Int) (k : Nat) (Q : List Int) : Prop :=
  Q.length = xs.length ∧ AllLimbs Q ∧ val (Q.drop k) = val (xs.drop k) / d
theorem ShortAt.start (xs : List Int) (d : Int) : ShortAt xs d xs.length (List.replicate xs.length 0) :=
  ⟨by simp, AllLimbs.zeros _, by rw [List.drop_of_length_le (by simp), List.drop_of_length_le (Nat.le_refl _)]; simp [val]⟩
theorem ShortAt.step {xs Q : List Int} {d : Int} {k : Nat} (h : ShortAt xs d (k + 1) Q) (hx : AllLimbs xs) (hd : 1 ≤ d ∧ d ≤ 65536) (hk : k < xs.length) :
    ShortAt xs d k (Q.set k ((val (xs.drop (k + 1)) % d * 65536 + xs.getD k 0) / d)) ∧ val (xs.drop k) % d = (val (xs.drop (k + 1)) % d * 65536 + xs.getD k 0) % d ∧
      0 ≤ (val (xs.drop (k + 1)) % d * 65536 + xs.getD k 0) / d ∧ (val (xs.drop (k + 1)) % d * 65536 + xs.getD k 0) / d ≤ 65535 := by
  obtain ⟨h1, h2, h3⟩ := h
  have hs := val_drop xs k
  have hx0 := hx k hk
  obtain ⟨q1, q2, q3⟩ := ediv_spec (X := val (xs.drop (k + 1))) (V := d) (by omega)
  have hdr : (Q.set k ((val (xs.drop (k + 1)) % d * 65536 + xs.getD k 0) / d)).drop (k + 1) = Q.drop (k + 1) := List.drop_set_of_lt (by omega)
  have hv := val_drop (Q.set k ((val (xs.drop (k + 1)) % d * 65536 + xs.getD k 0) / d)) k
  rw [hdr] at hv
  have hg : (Q.set k ((val (xs.drop (k + 1)) % d * 65536 + xs.getD k 0) / d)).getD k 0 = (val (xs.drop (k + 1)) % d * 65536 + xs.getD k 0) / d := by
    simp [List.getD_eq_getElem?_getD, show k < Q.length by omega]
  rw [hg, h3] at hv
  generalize hr : val (xs.drop (k + 1)) % d = r at *
  generalize hq : val (xs.drop (k + 1)) / d = q at *
  generalize hX : val (xs.drop (k + 1)) = X at *
  generalize hxk : xs.getD k 0 = x at *
  have hb1 : 0 ≤ (r * 65536 + x) / d := Int.ediv_nonneg (by omega) (by omega)
  have hb2 : (r * 65536 + x) / d < 65536 := Int.ediv_lt_of_lt_mul (by omega) (by omega)
  have e : val (xs.drop k) = (r * 65536 + x) + d * (65536 * q) := by
    rw [hs, q1, Int.mul_left_comm]; omega
  refine ⟨⟨by rw [List.length_set]; exact h1, h2.set k (by omega), ?_⟩, ?_, hb1, by omega⟩
  · rw [hv, e, Int.add_mul_ediv_left _ _ (by omega : d ≠ 0)]
  · rw [e, Int.add_mul_emod_self_left]

end Go.Proofs.Ytjndjjdffifgcaa
