/-
  No cell of these rows narrows 'for every input' (looked for: loops, veiled, ifaces, maps, wideKeys, modest, calm, conditions, laid).
  DERIVED. THE GIVEN ROWS OF THIS SEAT. 7 by the template 'for every input the law returns true; each argument reads behind the call as it read before'; 0 by the template 'total and deterministic' (their statements: YteghldihmkinfaaTotals.lean).
  GIVEN WITH THE SEED: the statements are not yours to turn. If you find one false, say at which input.
  Laid BY PROGRAM, IN A SANDBOX (cutbox-rows.mjs): the forced cells as the released guide's own fill.sh prints them over the translation 4d6002c6f46d7e7c… (all of the seat's roots in one cut). By AI agents, Wed Nov 11 2026. No macro, syntax, notation, axiom, sorry.
-/
import Derived.Test.YteghldihmkinfaaChecked
import GoSem.Claim
import GoSem.ClaimJoined
import GoSem.ClaimMapViews
import Derived.JoinedTies
import Derived.KernelRfl
namespace Go.Proofs.Yteghldihmkinfaa
/- THE CELL 'sum', in the pinned program and in every row, IS THE sha256 OF THE DUMP (.gsa) THAT YteghldihmkinfaaProg.lean LOADS. Nothing in Lean hashes anything: it is a label: what it is worth is what the hold of that sum in a sandbox is worth. -/
noncomputable def Try.pinned : Pinned := { name := "yteghldihmkinfaa", sum := "4d6002c6f46d7e7c6df9e0acec6caed436e448834e73e15b63b8dbe95ad1ea8d", checked := Try.checked }
namespace Rows
def none {H : Type} : Left H := { results := [], args := [] }

/-- 'laws.FnExactNatText': WHATEVER THE INPUT: true; the input reads as it did. -/
def fnExactNatTextSpec : ChangeSpec := { name := "fnExactNatText", fn := fun _ => fun
  | [d] => { results := [.lit (.bool true)], args := [d] }
  | _ => none }
def fnExactNatTextRow : OpenClaim := { program := "yteghldihmkinfaa", sum := "4d6002c6f46d7e7c6df9e0acec6caed436e448834e73e15b63b8dbe95ad1ea8d", func := "loop.example/g00742/laws.FnExactNatText", spec := "fnExactNatText", apart := false }
def FnExactNatTextSaid : Prop := fnExactNatTextRow.holds Try.pinned (OpenSpec.ofChange fnExactNatTextSpec)

/-- ITS FALSE NEIGHBOUR: 'it returns false'. Refute it at one input. -/
def fnExactNatTextWrong : ChangeSpec := { name := "fnExactNatText", fn := fun _ => fun
  | [d] => { results := [.lit (.bool false)], args := [d] }
  | _ => none }
def FnExactNatTextWrongFalsely : Prop := fnExactNatTextRow.holds Try.pinned (OpenSpec.ofChange fnExactNatTextWrong)

/-- 'laws.FnExactNatOf': WHATEVER THE INPUT: true; the input reads as it did. -/
def fnExactNatOfSpec : ChangeSpec := { name := "fnExactNatOf", fn := fun _ => fun
  | [d] => { results := [.lit (.bool true)], args := [d] }
  | _ => none }
def fnExactNatOfRow : OpenClaim := { program := "yteghldihmkinfaa", sum := "4d6002c6f46d7e7c6df9e0acec6caed436e448834e73e15b63b8dbe95ad1ea8d", func := "loop.example/g00742/laws.FnExactNatOf", spec := "fnExactNatOf", apart := false }
def FnExactNatOfSaid : Prop := fnExactNatOfRow.holds Try.pinned (OpenSpec.ofChange fnExactNatOfSpec)

/-- ITS FALSE NEIGHBOUR: 'it returns false'. Refute it at one input. -/
def fnExactNatOfWrong : ChangeSpec := { name := "fnExactNatOf", fn := fun _ => fun
  | [d] => { results := [.lit (.bool false)], args := [d] }
  | _ => none }
def FnExactNatOfWrongFalsely : Prop := fnExactNatOfRow.holds Try.pinned (OpenSpec.ofChange fnExactNatOfWrong)

/-- 'laws.FnExactAddNats': WHATEVER THE INPUT: true; the input reads as it did. -/
def fnExactAddNatsSpec : ChangeSpec := { name := "fnExactAddNats", fn := fun _ => fun
  | [d1, d2] => { results := [.lit (.bool true)], args := [d1, d2] }
  | _ => none }
def fnExactAddNatsRow : OpenClaim := { program := "yteghldihmkinfaa", sum := "4d6002c6f46d7e7c6df9e0acec6caed436e448834e73e15b63b8dbe95ad1ea8d", func := "loop.example/g00742/laws.FnExactAddNats", spec := "fnExactAddNats", apart := false }
def FnExactAddNatsSaid : Prop := fnExactAddNatsRow.holds Try.pinned (OpenSpec.ofChange fnExactAddNatsSpec)

/-- ITS FALSE NEIGHBOUR: 'it returns false'. Refute it at one input. -/
def fnExactAddNatsWrong : ChangeSpec := { name := "fnExactAddNats", fn := fun _ => fun
  | [d1, d2] => { results := [.lit (.bool false)], args := [d1, d2] }
  | _ => none }
def FnExactAddNatsWrongFalsely : Prop := fnExactAddNatsRow.holds Try.pinned (OpenSpec.ofChange fnExactAddNatsWrong)

/-- 'laws.FnExactSubNats': WHATEVER THE INPUT: true; the input reads as it did. -/
def fnExactSubNatsSpec : ChangeSpec := { name := "fnExactSubNats", fn := fun _ => fun
  | [d1, d2] => { results := [.lit (.bool true)], args := [d1, d2] }
  | _ => none }
def fnExactSubNatsRow : OpenClaim := { program := "yteghldihmkinfaa", sum := "4d6002c6f46d7e7c6df9e0acec6caed436e448834e73e15b63b8dbe95ad1ea8d", func := "loop.example/g00742/laws.FnExactSubNats", spec := "fnExactSubNats", apart := false }
def FnExactSubNatsSaid : Prop := fnExactSubNatsRow.holds Try.pinned (OpenSpec.ofChange fnExactSubNatsSpec)

/-- ITS FALSE NEIGHBOUR: 'it returns false'. Refute it at one input. -/
def fnExactSubNatsWrong : ChangeSpec := { name := "fnExactSubNats", fn := fun _ => fun
  | [d1, d2] => { results := [.lit (.bool false)], args := [d1, d2] }
  | _ => none }
def FnExactSubNatsWrongFalsely : Prop := fnExactSubNatsRow.holds Try.pinned (OpenSpec.ofChange fnExactSubNatsWrong)

/-- 'laws.FnExactMulNats': WHATEVER THE INPUT: true; the input reads as it did. -/
def fnExactMulNatsSpec : ChangeSpec := { name := "fnExactMulNats", fn := fun _ => fun
  | [d1, d2] => { results := [.lit (.bool true)], args := [d1, d2] }
  | _ => none }
def fnExactMulNatsRow : OpenClaim := { program := "yteghldihmkinfaa", sum := "4d6002c6f46d7e7c6df9e0acec6caed436e448834e73e15b63b8dbe95ad1ea8d", func := "loop.example/g00742/laws.FnExactMulNats", spec := "fnExactMulNats", apart := false }
def FnExactMulNatsSaid : Prop := fnExactMulNatsRow.holds Try.pinned (OpenSpec.ofChange fnExactMulNatsSpec)

/-- ITS FALSE NEIGHBOUR: 'it returns false'. Refute it at one input. -/
def fnExactMulNatsWrong : ChangeSpec := { name := "fnExactMulNats", fn := fun _ => fun
  | [d1, d2] => { results := [.lit (.bool false)], args := [d1, d2] }
  | _ => none }
def FnExactMulNatsWrongFalsely : Prop := fnExactMulNatsRow.holds Try.pinned (OpenSpec.ofChange fnExactMulNatsWrong)

/-- 'laws.FnExactDivNats': WHATEVER THE INPUT: true; the input reads as it did. -/
def fnExactDivNatsSpec : ChangeSpec := { name := "fnExactDivNats", fn := fun _ => fun
  | [d1, d2] => { results := [.lit (.bool true)], args := [d1, d2] }
  | _ => none }
def fnExactDivNatsRow : OpenClaim := { program := "yteghldihmkinfaa", sum := "4d6002c6f46d7e7c6df9e0acec6caed436e448834e73e15b63b8dbe95ad1ea8d", func := "loop.example/g00742/laws.FnExactDivNats", spec := "fnExactDivNats", apart := false }
def FnExactDivNatsSaid : Prop := fnExactDivNatsRow.holds Try.pinned (OpenSpec.ofChange fnExactDivNatsSpec)

/-- ITS FALSE NEIGHBOUR: 'it returns false'. Refute it at one input. -/
def fnExactDivNatsWrong : ChangeSpec := { name := "fnExactDivNats", fn := fun _ => fun
  | [d1, d2] => { results := [.lit (.bool false)], args := [d1, d2] }
  | _ => none }
def FnExactDivNatsWrongFalsely : Prop := fnExactDivNatsRow.holds Try.pinned (OpenSpec.ofChange fnExactDivNatsWrong)

/-- 'laws.FnExactCompareNats': WHATEVER THE INPUT: true; the input reads as it did. -/
def fnExactCompareNatsSpec : ChangeSpec := { name := "fnExactCompareNats", fn := fun _ => fun
  | [d1, d2] => { results := [.lit (.bool true)], args := [d1, d2] }
  | _ => none }
def fnExactCompareNatsRow : OpenClaim := { program := "yteghldihmkinfaa", sum := "4d6002c6f46d7e7c6df9e0acec6caed436e448834e73e15b63b8dbe95ad1ea8d", func := "loop.example/g00742/laws.FnExactCompareNats", spec := "fnExactCompareNats", apart := false }
def FnExactCompareNatsSaid : Prop := fnExactCompareNatsRow.holds Try.pinned (OpenSpec.ofChange fnExactCompareNatsSpec)

/-- ITS FALSE NEIGHBOUR: 'it returns false'. Refute it at one input. -/
def fnExactCompareNatsWrong : ChangeSpec := { name := "fnExactCompareNats", fn := fun _ => fun
  | [d1, d2] => { results := [.lit (.bool false)], args := [d1, d2] }
  | _ => none }
def FnExactCompareNatsWrongFalsely : Prop := fnExactCompareNatsRow.holds Try.pinned (OpenSpec.ofChange fnExactCompareNatsWrong)

/- THE SECOND FORM. 'bulk': how many values and letters a reading holds, each counted each time it is reached (what is shared counts as often as it is met; a slice's spare places count too). A statement '..UptoSaid' is the law's where the arguments, and the package variables that the reading takes, are together of bulk at most 1048576: NARROWER than '..Said'. Prove '..Said' where nothing that the law and all that it calls make is longer than what came in: it says more and counts as full. Else prove '..UptoSaid'. A law counts once. -/
mutual
def uptoBulk {H : Type} : DataW H → Nat
  | .lit (.string bytes) => bytes.length + 1
  | .lit _ => 1
  | .nil => 1
  | .ptr d => uptoBulk d + 1
  | .slice elems spare => uptoBulkAll elems + uptoBulkAll spare + 1
  | .agg parts => uptoBulkAll parts + 1
  | .iface _ d => uptoBulk d + 1
  | .map entries => uptoBulkEntries entries + 1
  | .held _ => 1
def uptoBulkAll {H : Type} : List (DataW H) → Nat
  | [] => 0
  | d :: r => uptoBulk d + uptoBulkAll r
def uptoBulkEntries {H : Type} : List (Lit × DataW H) → Nat
  | [] => 0
  | x :: r => uptoBulkEntry x + uptoBulkEntries r
def uptoBulkEntry {H : Type} : Lit × DataW H → Nat
  | (.string bytes, d) => bytes.length + uptoBulk d + 1
  | (_, d) => uptoBulk d + 1
 end
def uptoSmall : (H : Type) → List (DataW H) → Bool := fun _ ds => decide (uptoBulkAll ds ≤ 1048576)
def OpenSpec.upto (s : _root_.Go.ChangeSpec) : _root_.Go.OpenSpec := { _root_.Go.OpenSpec.ofChange s with cond := some uptoSmall }

/-- 'laws.FnExactNatText', WHERE WHAT IT READS IS OF BULK AT MOST 1048576: true; the input reads as it did. -/
def fnExactNatTextUptoRow : OpenClaim := { program := "yteghldihmkinfaa", sum := "4d6002c6f46d7e7c6df9e0acec6caed436e448834e73e15b63b8dbe95ad1ea8d", func := "loop.example/g00742/laws.FnExactNatText", spec := "fnExactNatText", apart := false, narrowed := true }
def FnExactNatTextUptoSaid : Prop := fnExactNatTextUptoRow.holds Try.pinned (OpenSpec.upto fnExactNatTextSpec)

/-- 'laws.FnExactNatOf', WHERE WHAT IT READS IS OF BULK AT MOST 1048576: true; the input reads as it did. -/
def fnExactNatOfUptoRow : OpenClaim := { program := "yteghldihmkinfaa", sum := "4d6002c6f46d7e7c6df9e0acec6caed436e448834e73e15b63b8dbe95ad1ea8d", func := "loop.example/g00742/laws.FnExactNatOf", spec := "fnExactNatOf", apart := false, narrowed := true }
def FnExactNatOfUptoSaid : Prop := fnExactNatOfUptoRow.holds Try.pinned (OpenSpec.upto fnExactNatOfSpec)

/-- 'laws.FnExactAddNats', WHERE WHAT IT READS IS OF BULK AT MOST 1048576: true; the input reads as it did. -/
def fnExactAddNatsUptoRow : OpenClaim := { program := "yteghldihmkinfaa", sum := "4d6002c6f46d7e7c6df9e0acec6caed436e448834e73e15b63b8dbe95ad1ea8d", func := "loop.example/g00742/laws.FnExactAddNats", spec := "fnExactAddNats", apart := false, narrowed := true }
def FnExactAddNatsUptoSaid : Prop := fnExactAddNatsUptoRow.holds Try.pinned (OpenSpec.upto fnExactAddNatsSpec)

/-- 'laws.FnExactSubNats', WHERE WHAT IT READS IS OF BULK AT MOST 1048576: true; the input reads as it did. -/
def fnExactSubNatsUptoRow : OpenClaim := { program := "yteghldihmkinfaa", sum := "4d6002c6f46d7e7c6df9e0acec6caed436e448834e73e15b63b8dbe95ad1ea8d", func := "loop.example/g00742/laws.FnExactSubNats", spec := "fnExactSubNats", apart := false, narrowed := true }
def FnExactSubNatsUptoSaid : Prop := fnExactSubNatsUptoRow.holds Try.pinned (OpenSpec.upto fnExactSubNatsSpec)

/-- 'laws.FnExactMulNats', WHERE WHAT IT READS IS OF BULK AT MOST 1048576: true; the input reads as it did. -/
def fnExactMulNatsUptoRow : OpenClaim := { program := "yteghldihmkinfaa", sum := "4d6002c6f46d7e7c6df9e0acec6caed436e448834e73e15b63b8dbe95ad1ea8d", func := "loop.example/g00742/laws.FnExactMulNats", spec := "fnExactMulNats", apart := false, narrowed := true }
def FnExactMulNatsUptoSaid : Prop := fnExactMulNatsUptoRow.holds Try.pinned (OpenSpec.upto fnExactMulNatsSpec)

/-- 'laws.FnExactDivNats', WHERE WHAT IT READS IS OF BULK AT MOST 1048576: true; the input reads as it did. -/
def fnExactDivNatsUptoRow : OpenClaim := { program := "yteghldihmkinfaa", sum := "4d6002c6f46d7e7c6df9e0acec6caed436e448834e73e15b63b8dbe95ad1ea8d", func := "loop.example/g00742/laws.FnExactDivNats", spec := "fnExactDivNats", apart := false, narrowed := true }
def FnExactDivNatsUptoSaid : Prop := fnExactDivNatsUptoRow.holds Try.pinned (OpenSpec.upto fnExactDivNatsSpec)

/-- 'laws.FnExactCompareNats', WHERE WHAT IT READS IS OF BULK AT MOST 1048576: true; the input reads as it did. -/
def fnExactCompareNatsUptoRow : OpenClaim := { program := "yteghldihmkinfaa", sum := "4d6002c6f46d7e7c6df9e0acec6caed436e448834e73e15b63b8dbe95ad1ea8d", func := "loop.example/g00742/laws.FnExactCompareNats", spec := "fnExactCompareNats", apart := false, narrowed := true }
def FnExactCompareNatsUptoSaid : Prop := fnExactCompareNatsUptoRow.holds Try.pinned (OpenSpec.upto fnExactCompareNatsSpec)

end Rows
end Go.Proofs.Yteghldihmkinfaa
