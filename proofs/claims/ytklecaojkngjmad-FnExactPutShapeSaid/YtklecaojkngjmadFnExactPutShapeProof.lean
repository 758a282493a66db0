/-
  PutShape answers as its model at every input, changes nothing and owns its answer; no condition.
-/
import Derived.Test.YtklecaojkngjmadRows
import Derived.Test.YtklecaojkngjmadLawPutShape
import Derived.Test.YtklecaojkngjmadJ1
import Derived.Test.YtklecaojkngjmadStoO
import Derived.WalkKit
import Derived.ProofKit
import Derived.OpenShut
import Derived.ShutString
import Derived.ChangeOld
import Derived.Below
import Derived.Lib.SmallJoins
import Derived.Test.YtklecaojkngjmadFacts
namespace Go.Proofs.Ytklecaojkngjmad.fnExactPutShape
open Go.ChangeShapes Go.WideShapes Go.ChangeAt Go.RowKit Go.Joins
open Go.ChangeMaps (open_string shut_string)
set_option linter.unusedVariables false

theorem own : ownKnob Try.prog.godebug = none := by kernel_rfl
theorem laidOut : laidOutB Try.prog = true := by kernel_rfl

/-- A slice of integers that came in. -/
def IsRow (k : IntKind) (w : World) (a : Option Addr) (len cap : Nat) (zs : List Int) : Prop :=
  (a = none ∧ len = 0 ∧ cap = 0 ∧ zs = []) ∨
  ∃ x, a = some x ∧ len ≤ cap ∧ cap ≤ maxLen ∧ zs.length = cap ∧ (∀ i, i < zs.length → w.cell? (x.add i) = some (.int k (zs.getD i 0))) ∧ ∀ n ∈ zs, (Lit.int k n).wf = true

theorem walk (sa0 : Option Addr) (sn0 sc0 : Nat) (sL0 : List Sh) (a1 : ByteArray) (ub2 : Int) (pa2 : Option Addr) (plen2 pcap2 : Nat) (pz2 : List Int) (w : World) (sg0 : ArgSt w sa0 sn0 sL0) (w1 : a1.size ≤ maxLen) (wub2 : (Lit.int .i64 ub2).wf = true) (ple2 : plen2 ≤ 9223372036854775807) (prd2 : plen2 ≤ 1048576 → Rd w pa2 (plen2 * 2) pz2) :
    Calls Try.prog 3 #[.agg #[.slice sa0 sn0 sc0], .string a1, .agg #[.int .i64 ub2, .slice pa2 plen2 pcap2]] w fun e w' => e = .returned (.bool true) ∧ Below w.heap.size w w' := by
  exact (FnExactPutShape_walk sa0 sn0 sc0 sL0 a1 ub2 pa2 plen2 pcap2 pz2 w sg0 w1 wub2 ple2 prd2).mono fun e w' ⟨he, hk⟩ => ⟨he, hk.below⟩

set_option maxRecDepth 100000 in
theorem lifted (os : Os) (started : os.Started) (H : Type) (enc : TypeId × Value → H) :
    ReturnsInHanded {} Try.checked os 3 .any (Rows.fnExactPutShapeSpec.pre6 enc Try.prog Try.f3 Rows.fnExactPutShapeRow.domain false) (Rows.fnExactPutShapeSpec.post enc Try.prog Try.f3 false true false false) := by
  refine returnsInHanded_of_change (C := Try.checked) own started (by kernel_rfl) Try.func3
    (ChangeSpec.witness6 (enc := enc) (C := Try.checked) false ⟨#[], #[.agg #[.slice none 0 0], .string ByteArray.empty, .agg #[.int .i64 0, .slice none 0 0]], []⟩ 8 (by kernel_rfl) (by kernel_rfl) (by kernel_rfl) (by kernel_rfl)) ?_
  intro W base args ds gs before hval0 hW hcnd _
  have hval : ∀ (j : Nat) t v, Try.f3.params[j]? = some t → args[j]? = some v → Value.okWide Try.prog W .any base t v := hval0
  have hW' := hW
  obtain ⟨p, q, hA0, hV, rfl, hfz, hnd⟩ := hW
  have hA : DataW.TrodAll enc Try.prog W 0 (fun _ => true) true Try.f3.params.toList args.toList ds p := hA0
  rw [Try.params3] at hA hval
  obtain ⟨v0, vs0, d0, ds0, p0, q0, hargs, rfl, rfl, h0, r0⟩ := trodAll_cons hA
  obtain ⟨v1, vs1, d1, ds1, p1, q1, rfl, rfl, rfl, h1, r1⟩ := trodAll_cons r0
  obtain ⟨v2, vs2, d2, ds2, p2, q2, rfl, rfl, rfl, h2, r2⟩ := trodAll_cons r1
  obtain ⟨rfl, rfl, rfl⟩ := trodAll_nil r2
  obtain rfl : args = #[v0, v1, v2] := by cases args; simp_all
  obtain ⟨rfl, rfl⟩ := trodVars_none hV
  have k0 := h0
  have lt0 : ∀ x ∈ p0, x.block < W.heap.size := by obtain ⟨m, hm⟩ := k0; exact DataW.trod_lt m _ _ _ hm
  obtain ⟨cs0, rfl, sz0⟩ := okWide_struct Try.underlying24 (hval 0 24 v0 rfl rfl)
  obtain ⟨m0, hm0⟩ := h0
  obtain ⟨sa0, sn0, sc0, sL0, hcs0, sg0⟩ := open_store (fun _ => rfl) hm0
  obtain rfl : cs0 = #[.slice sa0 sn0 sc0] := by
    have : cs0.toList = [.slice sa0 sn0 sc0] := hcs0
    exact Array.toList_inj.1 this
  obtain ⟨a1, rfl, rfl, rfl, w1⟩ := open_string Try.underlying9 (hval 1 9 v1 rfl rfl) h1
  have k2 := h2
  have lt2 : ∀ x ∈ p2, x.block < W.heap.size := by obtain ⟨m, hm⟩ := k2; exact DataW.trod_lt m _ _ _ hm
  obtain ⟨b2a, s2a, yb2, ys2, m2, rfl, _, _, tb2a, ts2a⟩ := open_agg2 Try.underlying27 (by kernel_rfl) (by kernel_rfl) (hval 2 27 v2 rfl rfl) h2
  obtain ⟨ub2, hub2, _, wub2⟩ := DataW.trod_int Try.underlying2 tb2a
  obtain rfl : b2a = .int .i64 ub2 := by simpa using hub2
  obtain ⟨qa2, qlen2, qcap2, pz2, hcs2, ple2, prd2⟩ := open_pts (fun _ => rfl) ts2a
  obtain rfl : s2a = .slice qa2 qlen2 qcap2 := by simpa using hcs2
  clear hA0 hval0
  refine (walk sa0 sn0 sc0 sL0 a1 ub2 qa2 qlen2 qcap2 pz2 W sg0 w1 wub2 ple2 prd2).mono fun e W' ⟨he, bel⟩ => ?_
  subst he
  exact ⟨_, rfl, _, _, _, [], _, [], hW', trodAll_mk1 (shut_bool Try.underlying4 _), (trodAll_cons_mk (Below.trod laidOut (by kernel_rfl) (of_decide_eq_true (by kernel_rfl)) k0 bel lt0) (trodAll_cons_mk (shut_string Try.underlying9 w1) (trodAll_cons_mk (Below.trod laidOut (by kernel_rfl) (of_decide_eq_true (by kernel_rfl)) k2 bel lt2) trodAll_mk0))), rfl, bel.frame _, fun h => by cases h⟩

theorem over : Rows.fnExactPutShapeRow.holds Try.pinned (OpenSpec.ofChange Rows.fnExactPutShapeSpec) :=
  OpenClaim.holds_of_wide 3 Try.f3 rfl rfl rfl rfl rfl rfl rfl ⟨rfl, rfl, rfl, rfl, rfl⟩ rfl rfl rfl rfl rfl (by kernel_rfl) Try.func3 (by unfold joinedFacts; rw [fEnter, fLifts, fMake]; kernel_rfl)
    (of_decide_eq_true (by kernel_rfl)) (by unfold Func.isWrapper; first | (rw [if_pos (by decide +kernel)]; kernel_rfl) | (rw [if_neg (by decide +kernel)]; exact ⟨rfl, rfl⟩))
    (fun os started H enc _ => lifted os started H enc)

/-- The statement. -/
theorem proved : Rows.FnExactPutShapeSaid := over
#print axioms proved
end Go.Proofs.Ytklecaojkngjmad.fnExactPutShape
