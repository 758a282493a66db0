/-
  DivSpan answers as its model at every input, changes nothing and owns its answer; no condition.
-/
import Derived.Test.YtofpommikmdlfaaRows
import Derived.Test.YtofpommikmdlfaaLawDivSpan
import Derived.Test.YtofpommikmdlfaaJ1
import Derived.WalkKit
import Derived.ProofKit
import Derived.OpenShut
import Derived.ShutString
import Derived.ChangeOld
import Derived.Below
import Derived.Lib.SmallJoins
import Derived.Test.YtofpommikmdlfaaFacts
namespace Go.Proofs.Ytofpommikmdlfaa.fnExactDivSpan
open Go.ChangeShapes Go.WideShapes Go.ChangeAt Go.RowKit Go.Joins
open Go.ChangeMaps (open_string shut_string)
set_option linter.unusedVariables false

theorem own : ownKnob Try.prog.godebug = none := by kernel_rfl
theorem laidOut : laidOutB Try.prog = true := by kernel_rfl

/-- A slice of integers that came in. -/
def IsRow (k : IntKind) (w : World) (a : Option Addr) (len cap : Nat) (zs : List Int) : Prop :=
  (a = none ∧ len = 0 ∧ cap = 0 ∧ zs = []) ∨
  ∃ x, a = some x ∧ len ≤ cap ∧ cap ≤ maxLen ∧ zs.length = cap ∧ (∀ i, i < zs.length → w.cell? (x.add i) = some (.int k (zs.getD i 0))) ∧ ∀ n ∈ zs, (Lit.int k n).wf = true

theorem walk (a0 : Int) (p1a : Bool) (a1a : Option Addr) (len1a cap1a : Nat) (z1a : List Int) (p1b : Bool) (a1b : Option Addr) (len1b cap1b : Nat) (z1b : List Int) (p2a : Bool) (a2a : Option Addr) (len2a cap2a : Nat) (z2a : List Int) (p2b : Bool) (a2b : Option Addr) (len2b cap2b : Nat) (z2b : List Int) (w : World) (w0 : (Lit.int .i64 a0).wf = true) (w1a : IsRow .i64 w a1a len1a cap1a z1a) (w1b : IsRow .i64 w a1b len1b cap1b z1b) (w2a : IsRow .i64 w a2a len2a cap2a z2a) (w2b : IsRow .i64 w a2b len2b cap2b z2b) :
    Calls Try.prog 3 #[.int .i64 a0, .agg #[.bool p1a, .slice a1a len1a cap1a, .bool p1b, .slice a1b len1b cap1b], .agg #[.bool p2a, .slice a2a len2a cap2a, .bool p2b, .slice a2b len2b cap2b]] w fun e w' => e = .returned (.bool true) ∧ Below w.heap.size w w' := by
  exact (FnExactDivSpan_walk a0 p1a a1a len1a cap1a _ p1b a1b len1b cap1b _ p2a a2a len2a cap2a _ p2b a2b len2b cap2b _ w w0 (rd_of_row w1a) (rd_of_row w1b) (rd_of_row w2a) (rd_of_row w2b)).mono fun e w' ⟨he, hk⟩ => ⟨he, hk.below⟩

set_option maxRecDepth 100000 in
theorem lifted (os : Os) (started : os.Started) (H : Type) (enc : TypeId × Value → H) :
    ReturnsInHanded {} Try.checked os 3 .any (Rows.fnExactDivSpanSpec.pre6 enc Try.prog Try.f3 Rows.fnExactDivSpanRow.domain false) (Rows.fnExactDivSpanSpec.post enc Try.prog Try.f3 false true false false) := by
  refine returnsInHanded_of_change (C := Try.checked) own started (by kernel_rfl) Try.func3
    (ChangeSpec.witness6 (enc := enc) (C := Try.checked) false ⟨#[], #[.int .i64 0, .agg #[.bool false, .slice none 0 0, .bool false, .slice none 0 0], .agg #[.bool false, .slice none 0 0, .bool false, .slice none 0 0]], []⟩ 8 (by kernel_rfl) (by kernel_rfl) (by kernel_rfl) (by kernel_rfl)) ?_
  intro W base args ds gs before hval0 hW hcnd _
  have hval : ∀ (j : Nat) t v, Try.f3.params[j]? = some t → args[j]? = some v → Value.okWide Try.prog W .any base t v := hval0
  have hW' := hW
  obtain ⟨p, q, hA0, hV, rfl, hfz, hnd⟩ := hW
  have hA : DataW.TrodAll enc Try.prog W 0 (fun _ => true) true Try.f3.params.toList args.toList ds p := hA0
  rw [Try.params3] at hA hval
  obtain ⟨v0, vs0, d0, ds0, p0, q0, hargs, rfl, rfl, h0, r0⟩ := trodAll_cons hA
  obtain ⟨v1, vs1, d1, ds1, p1, q1, rfl, rfl, rfl, h1, r1⟩ := trodAll_cons r0
  obtain ⟨v2, vs2, d2, ds2, p2, q2, rfl, rfl, rfl, h2, r2⟩ := trodAll_cons r1
  obtain ⟨rfl, rfl, rfl⟩ := trodAll_nil r2
  obtain rfl : args = #[v0, v1, v2] := by cases args; simp_all
  obtain ⟨rfl, rfl⟩ := trodVars_none hV
  obtain ⟨a0, rfl, rfl, rfl, w0⟩ := open_int Try.underlying2 (hval 0 2 v0 rfl rfl) h0
  have k1 := h1
  have lt1 : ∀ x ∈ p1, x.block < W.heap.size := by obtain ⟨m, hm⟩ := k1; exact DataW.trod_lt m _ _ _ hm
  obtain ⟨b1a, s1a, b1b, s1b, ya1, yb1, yc1, yd1, m1, rfl, tb1a, ts1a, tb1b, ts1b⟩ := open_two2 Try.underlying26 rfl rfl rfl rfl (by kernel_rfl) Try.underlying24 rfl rfl (by kernel_rfl) (by kernel_rfl) (by kernel_rfl) (hval 1 26 v1 rfl rfl) h1
  obtain ⟨bb1a, hbb1a, _⟩ := DataW.trod_bool Try.underlying4 tb1a
  obtain rfl : b1a = .bool bb1a := by simpa using hbb1a
  obtain ⟨a1a, len1a, cap1a, z1a, rfl, w1a⟩ : ∃ a len cap zs, s1a = .slice a len cap ∧ IsRow .i64 W a len cap zs := by
    rcases open_ints Try.underlying22 Try.underlying2 (by kernel_rfl) ts1a with ⟨hcs, _⟩ | ⟨x, l, c, zs, hcs, _, hl, hm, hz, _, hcell, hwz⟩
    · exact ⟨none, 0, 0, [], by simpa using hcs, .inl ⟨rfl, rfl, rfl, rfl⟩⟩
    · exact ⟨some x, l, c, zs, by simpa using hcs, .inr ⟨_, rfl, hl, hm, by simpa using hz, hcell, hwz⟩⟩
  obtain ⟨bb1b, hbb1b, _⟩ := DataW.trod_bool Try.underlying4 tb1b
  obtain rfl : b1b = .bool bb1b := by simpa using hbb1b
  obtain ⟨a1b, len1b, cap1b, z1b, rfl, w1b⟩ : ∃ a len cap zs, s1b = .slice a len cap ∧ IsRow .i64 W a len cap zs := by
    rcases open_ints Try.underlying22 Try.underlying2 (by kernel_rfl) ts1b with ⟨hcs, _⟩ | ⟨x, l, c, zs, hcs, _, hl, hm, hz, _, hcell, hwz⟩
    · exact ⟨none, 0, 0, [], by simpa using hcs, .inl ⟨rfl, rfl, rfl, rfl⟩⟩
    · exact ⟨some x, l, c, zs, by simpa using hcs, .inr ⟨_, rfl, hl, hm, by simpa using hz, hcell, hwz⟩⟩
  have k2 := h2
  have lt2 : ∀ x ∈ p2, x.block < W.heap.size := by obtain ⟨m, hm⟩ := k2; exact DataW.trod_lt m _ _ _ hm
  obtain ⟨b2a, s2a, b2b, s2b, ya2, yb2, yc2, yd2, m2, rfl, tb2a, ts2a, tb2b, ts2b⟩ := open_two2 Try.underlying26 rfl rfl rfl rfl (by kernel_rfl) Try.underlying24 rfl rfl (by kernel_rfl) (by kernel_rfl) (by kernel_rfl) (hval 2 26 v2 rfl rfl) h2
  obtain ⟨bb2a, hbb2a, _⟩ := DataW.trod_bool Try.underlying4 tb2a
  obtain rfl : b2a = .bool bb2a := by simpa using hbb2a
  obtain ⟨a2a, len2a, cap2a, z2a, rfl, w2a⟩ : ∃ a len cap zs, s2a = .slice a len cap ∧ IsRow .i64 W a len cap zs := by
    rcases open_ints Try.underlying22 Try.underlying2 (by kernel_rfl) ts2a with ⟨hcs, _⟩ | ⟨x, l, c, zs, hcs, _, hl, hm, hz, _, hcell, hwz⟩
    · exact ⟨none, 0, 0, [], by simpa using hcs, .inl ⟨rfl, rfl, rfl, rfl⟩⟩
    · exact ⟨some x, l, c, zs, by simpa using hcs, .inr ⟨_, rfl, hl, hm, by simpa using hz, hcell, hwz⟩⟩
  obtain ⟨bb2b, hbb2b, _⟩ := DataW.trod_bool Try.underlying4 tb2b
  obtain rfl : b2b = .bool bb2b := by simpa using hbb2b
  obtain ⟨a2b, len2b, cap2b, z2b, rfl, w2b⟩ : ∃ a len cap zs, s2b = .slice a len cap ∧ IsRow .i64 W a len cap zs := by
    rcases open_ints Try.underlying22 Try.underlying2 (by kernel_rfl) ts2b with ⟨hcs, _⟩ | ⟨x, l, c, zs, hcs, _, hl, hm, hz, _, hcell, hwz⟩
    · exact ⟨none, 0, 0, [], by simpa using hcs, .inl ⟨rfl, rfl, rfl, rfl⟩⟩
    · exact ⟨some x, l, c, zs, by simpa using hcs, .inr ⟨_, rfl, hl, hm, by simpa using hz, hcell, hwz⟩⟩
  clear hA0 hval0
  refine (walk a0 bb1a a1a len1a cap1a z1a bb1b a1b len1b cap1b z1b bb2a a2a len2a cap2a z2a bb2b a2b len2b cap2b z2b W w0 w1a w1b w2a w2b).mono fun e W' ⟨he, bel⟩ => ?_
  subst he
  exact ⟨_, rfl, _, _, _, [], _, [], hW', trodAll_mk1 (shut_bool Try.underlying4 _), (trodAll_cons_mk (shut_int Try.underlying2 w0) (trodAll_cons_mk (Below.trod laidOut (by kernel_rfl) (of_decide_eq_true (by kernel_rfl)) k1 bel lt1) (trodAll_cons_mk (Below.trod laidOut (by kernel_rfl) (of_decide_eq_true (by kernel_rfl)) k2 bel lt2) trodAll_mk0))), rfl, bel.frame _, fun h => by cases h⟩

theorem over : Rows.fnExactDivSpanRow.holds Try.pinned (OpenSpec.ofChange Rows.fnExactDivSpanSpec) :=
  OpenClaim.holds_of_wide 3 Try.f3 rfl rfl rfl rfl rfl rfl rfl ⟨rfl, rfl, rfl, rfl, rfl⟩ rfl rfl rfl rfl rfl (by kernel_rfl) Try.func3 (by unfold joinedFacts; rw [fEnter, fLifts, fMake]; kernel_rfl)
    (of_decide_eq_true (by kernel_rfl)) (by unfold Func.isWrapper; first | (rw [if_pos (by decide +kernel)]; kernel_rfl) | (rw [if_neg (by decide +kernel)]; exact ⟨rfl, rfl⟩))
    (fun os started H enc _ => lifted os started H enc)

/-- The statement. -/
theorem proved : Rows.FnExactDivSpanSaid := over
#print axioms proved
end Go.Proofs.Ytofpommikmdlfaa.fnExactDivSpan
