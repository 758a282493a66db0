/-
  Plain facts on the lengths of what comes of ends. No program is imported here. No condition.
-/
import Derived.Test.YtjndjjdffifgcaaPlainS
namespace Go.Proofs.Ytjndjjdffifgcaa

theorem mag_len_lt {z : Int} {k : Nat} (h : -pw k < z ∧ z < pw k) : (mag z).length ≤ k := by
  by_cases hz : z < 0
  · rw [mag_yes hz]; exact digits_len k _ (by omega)
  · rw [mag_no (by omega)]; exact digits_len k _ (by omega)
theorem sv_bound {p : Bool} {xs : List Int} {k : Nat} (h : Nat40 xs) (hl : xs.length ≤ k) : -pw k < sv p xs ∧ sv p xs < pw k := by
  have h1 := (show AllLimbs xs from h.limb).val
  have h2 := pw_mono xs.length k hl
  cases p
  · rw [show sv false xs = val xs from rfl]; omega
  · rw [show sv true xs = -val xs from rfl]; omega
theorem addZ_len {p q : Bool} {xs ys : List Int} (hx : Nat40 xs) (hy : Nat40 ys) (lx : xs.length ≤ 20) (ly : ys.length ≤ 20) : (mag (sv p xs + sv q ys)).length ≤ 21 := by
  have h1 := sv_bound (p := p) hx lx
  have h2 := sv_bound (p := q) hy ly
  have h3 : pw 21 = 65536 * pw 20 := rfl
  have h4 := pw_pos 20
  exact mag_len_lt (by omega)
theorem subZ_len {p q : Bool} {xs ys : List Int} (hx : Nat40 xs) (hy : Nat40 ys) (lx : xs.length ≤ 20) (ly : ys.length ≤ 20) : (mag (sv p xs - sv q ys)).length ≤ 21 := by
  have h1 := sv_bound (p := p) hx lx
  have h2 := sv_bound (p := q) hy ly
  have h3 : pw 21 = 65536 * pw 20 := rfl
  have h4 := pw_pos 20
  exact mag_len_lt (by omega)
theorem addB_z {p q : Bool} {xs ys : List Int} {z : Int} (hx : BigOk p xs) (hy : BigOk q ys) (lx : xs.length ≤ 20) (ly : ys.length ≤ 20) (hz : z = sv p xs + sv q ys) : addB p xs q ys = ⟨0, isNeg z, mag z⟩ := by
  have h := addZ_len (p := p) (q := q) hx.n40 hy.n40 lx ly
  unfold addB fitB
  rw [twoB_zero (bigFault2_of hx hy), if_neg (by omega), hz]
theorem subB_z {p q : Bool} {xs ys : List Int} {z : Int} (hx : BigOk p xs) (hy : BigOk q ys) (lx : xs.length ≤ 20) (ly : ys.length ≤ 20) (hz : z = sv p xs - sv q ys) : subB p xs q ys = ⟨0, isNeg z, mag z⟩ := by
  have h := subZ_len (p := p) (q := q) hx.n40 hy.n40 lx ly
  unfold subB fitB
  rw [twoB_zero (bigFault2_of hx hy), if_neg (by omega), hz]

end Go.Proofs.Ytjndjjdffifgcaa
