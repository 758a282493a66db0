/-
  SubSpan answers as its model at every input, changes nothing and owns its answer; no condition.
-/
import Derived.Test.YtaemfcllodmlkaaRows
import Derived.Test.YtaemfcllodmlkaaLawSubSpan
import Derived.Test.YtaemfcllodmlkaaJ1
import Derived.WalkKit
import Derived.ProofKit
import Derived.OpenShut
import Derived.ShutString
import Derived.ChangeOld
import Derived.Below
import Derived.Lib.SmallJoins
import Derived.Test.YtaemfcllodmlkaaFacts
namespace Go.Proofs.Ytaemfcllodmlkaa.fnExactSubSpan
open Go.ChangeShapes Go.WideShapes Go.ChangeAt Go.RowKit Go.Joins
open Go.ChangeMaps (open_string shut_string)
set_option linter.unusedVariables false

theorem own : ownKnob Try.prog.godebug = none := by kernel_rfl
theorem laidOut : laidOutB Try.prog = true := by kernel_rfl

/-- A slice of integers that came in. -/
def IsRow (k : IntKind) (w : World) (a : Option Addr) (len cap : Nat) (zs : List Int) : Prop :=
  (a = none ∧ len = 0 ∧ cap = 0 ∧ zs = []) ∨
  ∃ x, a = some x ∧ len ≤ cap ∧ cap ≤ maxLen ∧ zs.length = cap ∧ (∀ i, i < zs.length → w.cell? (x.add i) = some (.int k (zs.getD i 0))) ∧ ∀ n ∈ zs, (Lit.int k n).wf = true

theorem walk (p0a : Bool) (a0a : Option Addr) (len0a cap0a : Nat) (z0a : List Int) (p0b : Bool) (a0b : Option Addr) (len0b cap0b : Nat) (z0b : List Int) (p1a : Bool) (a1a : Option Addr) (len1a cap1a : Nat) (z1a : List Int) (p1b : Bool) (a1b : Option Addr) (len1b cap1b : Nat) (z1b : List Int) (w : World) (w0a : IsRow .i64 w a0a len0a cap0a z0a) (w0b : IsRow .i64 w a0b len0b cap0b z0b) (w1a : IsRow .i64 w a1a len1a cap1a z1a) (w1b : IsRow .i64 w a1b len1b cap1b z1b) :
    Calls Try.prog 5 #[.agg #[.bool p0a, .slice a0a len0a cap0a, .bool p0b, .slice a0b len0b cap0b], .agg #[.bool p1a, .slice a1a len1a cap1a, .bool p1b, .slice a1b len1b cap1b]] w fun e w' => e = .returned (.bool true) ∧ Below w.heap.size w w' := by
  exact (FnExactSubSpan_walk p0a a0a len0a cap0a _ p0b a0b len0b cap0b _ p1a a1a len1a cap1a _ p1b a1b len1b cap1b _ w (rd_of_row w0a) (rd_of_row w0b) (rd_of_row w1a) (rd_of_row w1b)).mono fun e w' ⟨he, hk⟩ => ⟨he, hk.below⟩

set_option maxRecDepth 100000 in
theorem lifted (os : Os) (started : os.Started) (H : Type) (enc : TypeId × Value → H) :
    ReturnsInHanded {} Try.checked os 5 .any (Rows.fnExactSubSpanSpec.pre6 enc Try.prog Try.f5 Rows.fnExactSubSpanRow.domain false) (Rows.fnExactSubSpanSpec.post enc Try.prog Try.f5 false true false false) := by
  refine returnsInHanded_of_change (C := Try.checked) own started (by kernel_rfl) Try.func5
    (ChangeSpec.witness6 (enc := enc) (C := Try.checked) false ⟨#[], #[.agg #[.bool false, .slice none 0 0, .bool false, .slice none 0 0], .agg #[.bool false, .slice none 0 0, .bool false, .slice none 0 0]], []⟩ 8 (by kernel_rfl) (by kernel_rfl) (by kernel_rfl) (by kernel_rfl)) ?_
  intro W base args ds gs before hval0 hW hcnd _
  have hval : ∀ (j : Nat) t v, Try.f5.params[j]? = some t → args[j]? = some v → Value.okWide Try.prog W .any base t v := hval0
  have hW' := hW
  obtain ⟨p, q, hA0, hV, rfl, hfz, hnd⟩ := hW
  have hA : DataW.TrodAll enc Try.prog W 0 (fun _ => true) true Try.f5.params.toList args.toList ds p := hA0
  rw [Try.params5] at hA hval
  obtain ⟨v0, vs0, d0, ds0, p0, q0, hargs, rfl, rfl, h0, r0⟩ := trodAll_cons hA
  obtain ⟨v1, vs1, d1, ds1, p1, q1, rfl, rfl, rfl, h1, r1⟩ := trodAll_cons r0
  obtain ⟨rfl, rfl, rfl⟩ := trodAll_nil r1
  obtain rfl : args = #[v0, v1] := by cases args; simp_all
  obtain ⟨rfl, rfl⟩ := trodVars_none hV
  have k0 := h0
  have lt0 : ∀ x ∈ p0, x.block < W.heap.size := by obtain ⟨m, hm⟩ := k0; exact DataW.trod_lt m _ _ _ hm
  obtain ⟨b0a, s0a, b0b, s0b, ya0, yb0, yc0, yd0, m0, rfl, tb0a, ts0a, tb0b, ts0b⟩ := open_two2 Try.underlying26 rfl rfl rfl rfl (by kernel_rfl) Try.underlying24 rfl rfl (by kernel_rfl) (by kernel_rfl) (by kernel_rfl) (hval 0 26 v0 rfl rfl) h0
  obtain ⟨bb0a, hbb0a, _⟩ := DataW.trod_bool Try.underlying4 tb0a
  obtain rfl : b0a = .bool bb0a := by simpa using hbb0a
  obtain ⟨a0a, len0a, cap0a, z0a, rfl, w0a⟩ : ∃ a len cap zs, s0a = .slice a len cap ∧ IsRow .i64 W a len cap zs := by
    rcases open_ints Try.underlying22 Try.underlying2 (by kernel_rfl) ts0a with ⟨hcs, _⟩ | ⟨x, l, c, zs, hcs, _, hl, hm, hz, _, hcell, hwz⟩
    · exact ⟨none, 0, 0, [], by simpa using hcs, .inl ⟨rfl, rfl, rfl, rfl⟩⟩
    · exact ⟨some x, l, c, zs, by simpa using hcs, .inr ⟨_, rfl, hl, hm, by simpa using hz, hcell, hwz⟩⟩
  obtain ⟨bb0b, hbb0b, _⟩ := DataW.trod_bool Try.underlying4 tb0b
  obtain rfl : b0b = .bool bb0b := by simpa using hbb0b
  obtain ⟨a0b, len0b, cap0b, z0b, rfl, w0b⟩ : ∃ a len cap zs, s0b = .slice a len cap ∧ IsRow .i64 W a len cap zs := by
    rcases open_ints Try.underlying22 Try.underlying2 (by kernel_rfl) ts0b with ⟨hcs, _⟩ | ⟨x, l, c, zs, hcs, _, hl, hm, hz, _, hcell, hwz⟩
    · exact ⟨none, 0, 0, [], by simpa using hcs, .inl ⟨rfl, rfl, rfl, rfl⟩⟩
    · exact ⟨some x, l, c, zs, by simpa using hcs, .inr ⟨_, rfl, hl, hm, by simpa using hz, hcell, hwz⟩⟩
  have k1 := h1
  have lt1 : ∀ x ∈ p1, x.block < W.heap.size := by obtain ⟨m, hm⟩ := k1; exact DataW.trod_lt m _ _ _ hm
  obtain ⟨b1a, s1a, b1b, s1b, ya1, yb1, yc1, yd1, m1, rfl, tb1a, ts1a, tb1b, ts1b⟩ := open_two2 Try.underlying26 rfl rfl rfl rfl (by kernel_rfl) Try.underlying24 rfl rfl (by kernel_rfl) (by kernel_rfl) (by kernel_rfl) (hval 1 26 v1 rfl rfl) h1
  obtain ⟨bb1a, hbb1a, _⟩ := DataW.trod_bool Try.underlying4 tb1a
  obtain rfl : b1a = .bool bb1a := by simpa using hbb1a
  obtain ⟨a1a, len1a, cap1a, z1a, rfl, w1a⟩ : ∃ a len cap zs, s1a = .slice a len cap ∧ IsRow .i64 W a len cap zs := by
    rcases open_ints Try.underlying22 Try.underlying2 (by kernel_rfl) ts1a with ⟨hcs, _⟩ | ⟨x, l, c, zs, hcs, _, hl, hm, hz, _, hcell, hwz⟩
    · exact ⟨none, 0, 0, [], by simpa using hcs, .inl ⟨rfl, rfl, rfl, rfl⟩⟩
    · exact ⟨some x, l, c, zs, by simpa using hcs, .inr ⟨_, rfl, hl, hm, by simpa using hz, hcell, hwz⟩⟩
  obtain ⟨bb1b, hbb1b, _⟩ := DataW.trod_bool Try.underlying4 tb1b
  obtain rfl : b1b = .bool bb1b := by simpa using hbb1b
  obtain ⟨a1b, len1b, cap1b, z1b, rfl, w1b⟩ : ∃ a len cap zs, s1b = .slice a len cap ∧ IsRow .i64 W a len cap zs := by
    rcases open_ints Try.underlying22 Try.underlying2 (by kernel_rfl) ts1b with ⟨hcs, _⟩ | ⟨x, l, c, zs, hcs, _, hl, hm, hz, _, hcell, hwz⟩
    · exact ⟨none, 0, 0, [], by simpa using hcs, .inl ⟨rfl, rfl, rfl, rfl⟩⟩
    · exact ⟨some x, l, c, zs, by simpa using hcs, .inr ⟨_, rfl, hl, hm, by simpa using hz, hcell, hwz⟩⟩
  clear hA0 hval0
  refine (walk bb0a a0a len0a cap0a z0a bb0b a0b len0b cap0b z0b bb1a a1a len1a cap1a z1a bb1b a1b len1b cap1b z1b W w0a w0b w1a w1b).mono fun e W' ⟨he, bel⟩ => ?_
  subst he
  exact ⟨_, rfl, _, _, _, [], _, [], hW', trodAll_mk1 (shut_bool Try.underlying4 _), (trodAll_cons_mk (Below.trod laidOut (by kernel_rfl) (of_decide_eq_true (by kernel_rfl)) k0 bel lt0) (trodAll_cons_mk (Below.trod laidOut (by kernel_rfl) (of_decide_eq_true (by kernel_rfl)) k1 bel lt1) trodAll_mk0)), rfl, bel.frame _, fun h => by cases h⟩

theorem over : Rows.fnExactSubSpanRow.holds Try.pinned (OpenSpec.ofChange Rows.fnExactSubSpanSpec) :=
  OpenClaim.holds_of_wide 5 Try.f5 rfl rfl rfl rfl rfl rfl rfl ⟨rfl, rfl, rfl, rfl, rfl⟩ rfl rfl rfl rfl rfl (by kernel_rfl) Try.func5 (by unfold joinedFacts; rw [fEnter, fLifts, fMake]; kernel_rfl)
    (of_decide_eq_true (by kernel_rfl)) (by unfold Func.isWrapper; first | (rw [if_pos (by decide +kernel)]; kernel_rfl) | (rw [if_neg (by decide +kernel)]; exact ⟨rfl, rfl⟩))
    (fun os started H enc _ => lifted os started H enc)

/-- The statement. -/
theorem proved : Rows.FnExactSubSpanSaid := over
#print axioms proved
end Go.Proofs.Ytaemfcllodmlkaa.fnExactSubSpan
