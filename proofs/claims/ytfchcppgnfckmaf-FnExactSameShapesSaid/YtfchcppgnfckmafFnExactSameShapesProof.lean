/-
  SameShapes answers as its model at every input, changes nothing and owns its answer; no condition.
-/
import Derived.Test.YtfchcppgnfckmafRows
import Derived.Test.YtfchcppgnfckmafLawSameShapes
import Derived.Test.YtfchcppgnfckmafJ1
import Derived.Test.YtfchcppgnfckmafPtO
import Derived.WalkKit
import Derived.ProofKit
import Derived.OpenShut
import Derived.ShutString
import Derived.ChangeOld
import Derived.Below
import Derived.Lib.SmallJoins
import Derived.Test.YtfchcppgnfckmafFacts
namespace Go.Proofs.Ytfchcppgnfckmaf.fnExactSameShapes
open Go.ChangeShapes Go.WideShapes Go.ChangeAt Go.RowKit Go.Joins
open Go.ChangeMaps (open_string shut_string)
set_option linter.unusedVariables false

theorem own : ownKnob Try.prog.godebug = none := by kernel_rfl
theorem laidOut : laidOutB Try.prog = true := by kernel_rfl

/-- A slice of integers that came in. -/
def IsRow (k : IntKind) (w : World) (a : Option Addr) (len cap : Nat) (zs : List Int) : Prop :=
  (a = none ∧ len = 0 ∧ cap = 0 ∧ zs = []) ∨
  ∃ x, a = some x ∧ len ≤ cap ∧ cap ≤ maxLen ∧ zs.length = cap ∧ (∀ i, i < zs.length → w.cell? (x.add i) = some (.int k (zs.getD i 0))) ∧ ∀ n ∈ zs, (Lit.int k n).wf = true

theorem walk (ub0 : Int) (pa0 : Option Addr) (plen0 pcap0 : Nat) (pz0 : List Int) (ub1 : Int) (pa1 : Option Addr) (plen1 pcap1 : Nat) (pz1 : List Int) (w : World) (wub0 : (Lit.int .i64 ub0).wf = true) (ple0 : plen0 ≤ 9223372036854775807) (prd0 : plen0 ≤ 1048576 → Rd w pa0 (plen0 * 2) pz0) (wub1 : (Lit.int .i64 ub1).wf = true) (ple1 : plen1 ≤ 9223372036854775807) (prd1 : plen1 ≤ 1048576 → Rd w pa1 (plen1 * 2) pz1) :
    Calls Try.prog 3 #[.agg #[.int .i64 ub0, .slice pa0 plen0 pcap0], .agg #[.int .i64 ub1, .slice pa1 plen1 pcap1]] w fun e w' => e = .returned (.bool true) ∧ Below w.heap.size w w' := by
  exact (FnExactSameShapes_walk ub0 pa0 plen0 pcap0 pz0 ub1 pa1 plen1 pcap1 pz1 w wub0 ple0 prd0 wub1 ple1 prd1).mono fun e w' ⟨he, hk⟩ => ⟨he, hk.below⟩

set_option maxRecDepth 100000 in
theorem lifted (os : Os) (started : os.Started) (H : Type) (enc : TypeId × Value → H) :
    ReturnsInHanded {} Try.checked os 3 .any (Rows.fnExactSameShapesSpec.pre6 enc Try.prog Try.f3 Rows.fnExactSameShapesRow.domain false) (Rows.fnExactSameShapesSpec.post enc Try.prog Try.f3 false true false false) := by
  refine returnsInHanded_of_change (C := Try.checked) own started (by kernel_rfl) Try.func3
    (ChangeSpec.witness6 (enc := enc) (C := Try.checked) false ⟨#[], #[.agg #[.int .i64 0, .slice none 0 0], .agg #[.int .i64 0, .slice none 0 0]], []⟩ 8 (by kernel_rfl) (by kernel_rfl) (by kernel_rfl) (by kernel_rfl)) ?_
  intro W base args ds gs before hval0 hW hcnd _
  have hval : ∀ (j : Nat) t v, Try.f3.params[j]? = some t → args[j]? = some v → Value.okWide Try.prog W .any base t v := hval0
  have hW' := hW
  obtain ⟨p, q, hA0, hV, rfl, hfz, hnd⟩ := hW
  have hA : DataW.TrodAll enc Try.prog W 0 (fun _ => true) true Try.f3.params.toList args.toList ds p := hA0
  rw [Try.params3] at hA hval
  obtain ⟨v0, vs0, d0, ds0, p0, q0, hargs, rfl, rfl, h0, r0⟩ := trodAll_cons hA
  obtain ⟨v1, vs1, d1, ds1, p1, q1, rfl, rfl, rfl, h1, r1⟩ := trodAll_cons r0
  obtain ⟨rfl, rfl, rfl⟩ := trodAll_nil r1
  obtain rfl : args = #[v0, v1] := by cases args; simp_all
  obtain ⟨rfl, rfl⟩ := trodVars_none hV
  have k0 := h0
  have lt0 : ∀ x ∈ p0, x.block < W.heap.size := by obtain ⟨m, hm⟩ := k0; exact DataW.trod_lt m _ _ _ hm
  obtain ⟨b0a, s0a, yb0, ys0, m0, rfl, _, _, tb0a, ts0a⟩ := open_agg2 Try.underlying24 (by kernel_rfl) (by kernel_rfl) (hval 0 24 v0 rfl rfl) h0
  obtain ⟨ub0, hub0, _, wub0⟩ := DataW.trod_int Try.underlying2 tb0a
  obtain rfl : b0a = .int .i64 ub0 := by simpa using hub0
  obtain ⟨qa0, qlen0, qcap0, pz0, hcs0, ple0, prd0⟩ := open_pts (fun _ => rfl) ts0a
  obtain rfl : s0a = .slice qa0 qlen0 qcap0 := by simpa using hcs0
  have k1 := h1
  have lt1 : ∀ x ∈ p1, x.block < W.heap.size := by obtain ⟨m, hm⟩ := k1; exact DataW.trod_lt m _ _ _ hm
  obtain ⟨b1a, s1a, yb1, ys1, m1, rfl, _, _, tb1a, ts1a⟩ := open_agg2 Try.underlying24 (by kernel_rfl) (by kernel_rfl) (hval 1 24 v1 rfl rfl) h1
  obtain ⟨ub1, hub1, _, wub1⟩ := DataW.trod_int Try.underlying2 tb1a
  obtain rfl : b1a = .int .i64 ub1 := by simpa using hub1
  obtain ⟨qa1, qlen1, qcap1, pz1, hcs1, ple1, prd1⟩ := open_pts (fun _ => rfl) ts1a
  obtain rfl : s1a = .slice qa1 qlen1 qcap1 := by simpa using hcs1
  clear hA0 hval0
  refine (walk ub0 qa0 qlen0 qcap0 pz0 ub1 qa1 qlen1 qcap1 pz1 W wub0 ple0 prd0 wub1 ple1 prd1).mono fun e W' ⟨he, bel⟩ => ?_
  subst he
  exact ⟨_, rfl, _, _, _, [], _, [], hW', trodAll_mk1 (shut_bool Try.underlying4 _), (trodAll_cons_mk (Below.trod laidOut (by kernel_rfl) (of_decide_eq_true (by kernel_rfl)) k0 bel lt0) (trodAll_cons_mk (Below.trod laidOut (by kernel_rfl) (of_decide_eq_true (by kernel_rfl)) k1 bel lt1) trodAll_mk0)), rfl, bel.frame _, fun h => by cases h⟩

theorem over : Rows.fnExactSameShapesRow.holds Try.pinned (OpenSpec.ofChange Rows.fnExactSameShapesSpec) :=
  OpenClaim.holds_of_wide 3 Try.f3 rfl rfl rfl rfl rfl rfl rfl ⟨rfl, rfl, rfl, rfl, rfl⟩ rfl rfl rfl rfl rfl (by kernel_rfl) Try.func3 (by unfold joinedFacts; rw [fEnter, fLifts, fMake]; kernel_rfl)
    (of_decide_eq_true (by kernel_rfl)) (by unfold Func.isWrapper; first | (rw [if_pos (by decide +kernel)]; kernel_rfl) | (rw [if_neg (by decide +kernel)]; exact ⟨rfl, rfl⟩))
    (fun os started H enc _ => lifted os started H enc)

/-- The statement. -/
theorem proved : Rows.FnExactSameShapesSaid := over
#print axioms proved
end Go.Proofs.Ytfchcppgnfckmaf.fnExactSameShapes
