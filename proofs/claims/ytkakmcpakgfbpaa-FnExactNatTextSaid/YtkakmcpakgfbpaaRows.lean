/-
  No cell of these rows narrows 'for every input' (looked for: loops, veiled, ifaces, maps, wideKeys, modest, calm, conditions, laid).
  DERIVED. THE GIVEN ROWS OF THIS SEAT. 12 by the template 'for every input the law returns true; each argument reads behind the call as it read before'; 0 by the template 'total and deterministic' (their statements: YtkakmcpakgfbpaaTotals.lean).
  GIVEN WITH THE SEED: the statements are not yours to turn. If you find one false, say at which input.
  Laid BY PROGRAM, IN A SANDBOX (cutbox-rows.mjs): the forced cells as the released guide's own fill.sh prints them over the translation d572ddf1477bf10b… (all of the seat's roots in one cut). By AI agents, Wed Nov 11 2026. No macro, syntax, notation, axiom, sorry.
-/
import Derived.Test.YtkakmcpakgfbpaaChecked
import GoSem.Claim
import GoSem.ClaimJoined
import GoSem.ClaimMapViews
import Derived.JoinedTies
import Derived.KernelRfl
namespace Go.Proofs.Ytkakmcpakgfbpaa
/- THE CELL 'sum', in the pinned program and in every row, IS THE sha256 OF THE DUMP (.gsa) THAT YtkakmcpakgfbpaaProg.lean LOADS. Nothing in Lean hashes anything: it is a label: what it is worth is what the hold of that sum in a sandbox is worth. -/
noncomputable def Try.pinned : Pinned := { name := "ytkakmcpakgfbpaa", sum := "d572ddf1477bf10b70a296baee776866a7dfb2ab12e8c1c0f48dfef763eb72a9", checked := Try.checked }
namespace Rows
def none {H : Type} : Left H := { results := [], args := [] }

/-- 'laws.FnNats': WHATEVER THE INPUT: true; the input reads as it did. -/
def fnNatsSpec : ChangeSpec := { name := "fnNats", fn := fun _ => fun
  | [d] => { results := [.lit (.bool true)], args := [d] }
  | _ => none }
def fnNatsRow : OpenClaim := { program := "ytkakmcpakgfbpaa", sum := "d572ddf1477bf10b70a296baee776866a7dfb2ab12e8c1c0f48dfef763eb72a9", func := "loop.example/g00742/laws.FnNats", spec := "fnNats", apart := false }
def FnNatsSaid : Prop := fnNatsRow.holds Try.pinned (OpenSpec.ofChange fnNatsSpec)

/-- ITS FALSE NEIGHBOUR: 'it returns false'. Refute it at one input. -/
def fnNatsWrong : ChangeSpec := { name := "fnNats", fn := fun _ => fun
  | [d] => { results := [.lit (.bool false)], args := [d] }
  | _ => none }
def FnNatsWrongFalsely : Prop := fnNatsRow.holds Try.pinned (OpenSpec.ofChange fnNatsWrong)

/-- 'laws.FnDivs': WHATEVER THE INPUT: true; the input reads as it did. -/
def fnDivsSpec : ChangeSpec := { name := "fnDivs", fn := fun _ => fun
  | [d] => { results := [.lit (.bool true)], args := [d] }
  | _ => none }
def fnDivsRow : OpenClaim := { program := "ytkakmcpakgfbpaa", sum := "d572ddf1477bf10b70a296baee776866a7dfb2ab12e8c1c0f48dfef763eb72a9", func := "loop.example/g00742/laws.FnDivs", spec := "fnDivs", apart := false }
def FnDivsSaid : Prop := fnDivsRow.holds Try.pinned (OpenSpec.ofChange fnDivsSpec)

/-- ITS FALSE NEIGHBOUR: 'it returns false'. Refute it at one input. -/
def fnDivsWrong : ChangeSpec := { name := "fnDivs", fn := fun _ => fun
  | [d] => { results := [.lit (.bool false)], args := [d] }
  | _ => none }
def FnDivsWrongFalsely : Prop := fnDivsRow.holds Try.pinned (OpenSpec.ofChange fnDivsWrong)

/-- 'laws.FnExactNatFault': WHATEVER THE INPUT: true; the input reads as it did. -/
def fnExactNatFaultSpec : ChangeSpec := { name := "fnExactNatFault", fn := fun _ => fun
  | [d] => { results := [.lit (.bool true)], args := [d] }
  | _ => none }
def fnExactNatFaultRow : OpenClaim := { program := "ytkakmcpakgfbpaa", sum := "d572ddf1477bf10b70a296baee776866a7dfb2ab12e8c1c0f48dfef763eb72a9", func := "loop.example/g00742/laws.FnExactNatFault", spec := "fnExactNatFault", apart := false }
def FnExactNatFaultSaid : Prop := fnExactNatFaultRow.holds Try.pinned (OpenSpec.ofChange fnExactNatFaultSpec)

/-- ITS FALSE NEIGHBOUR: 'it returns false'. Refute it at one input. -/
def fnExactNatFaultWrong : ChangeSpec := { name := "fnExactNatFault", fn := fun _ => fun
  | [d] => { results := [.lit (.bool false)], args := [d] }
  | _ => none }
def FnExactNatFaultWrongFalsely : Prop := fnExactNatFaultRow.holds Try.pinned (OpenSpec.ofChange fnExactNatFaultWrong)

/-- 'laws.FnExactNatOf': WHATEVER THE INPUT: true; the input reads as it did. -/
def fnExactNatOfSpec : ChangeSpec := { name := "fnExactNatOf", fn := fun _ => fun
  | [d] => { results := [.lit (.bool true)], args := [d] }
  | _ => none }
def fnExactNatOfRow : OpenClaim := { program := "ytkakmcpakgfbpaa", sum := "d572ddf1477bf10b70a296baee776866a7dfb2ab12e8c1c0f48dfef763eb72a9", func := "loop.example/g00742/laws.FnExactNatOf", spec := "fnExactNatOf", apart := false }
def FnExactNatOfSaid : Prop := fnExactNatOfRow.holds Try.pinned (OpenSpec.ofChange fnExactNatOfSpec)

/-- ITS FALSE NEIGHBOUR: 'it returns false'. Refute it at one input. -/
def fnExactNatOfWrong : ChangeSpec := { name := "fnExactNatOf", fn := fun _ => fun
  | [d] => { results := [.lit (.bool false)], args := [d] }
  | _ => none }
def FnExactNatOfWrongFalsely : Prop := fnExactNatOfRow.holds Try.pinned (OpenSpec.ofChange fnExactNatOfWrong)

/-- 'laws.FnExactNatValue': WHATEVER THE INPUT: true; the input reads as it did. -/
def fnExactNatValueSpec : ChangeSpec := { name := "fnExactNatValue", fn := fun _ => fun
  | [d] => { results := [.lit (.bool true)], args := [d] }
  | _ => none }
def fnExactNatValueRow : OpenClaim := { program := "ytkakmcpakgfbpaa", sum := "d572ddf1477bf10b70a296baee776866a7dfb2ab12e8c1c0f48dfef763eb72a9", func := "loop.example/g00742/laws.FnExactNatValue", spec := "fnExactNatValue", apart := false }
def FnExactNatValueSaid : Prop := fnExactNatValueRow.holds Try.pinned (OpenSpec.ofChange fnExactNatValueSpec)

/-- ITS FALSE NEIGHBOUR: 'it returns false'. Refute it at one input. -/
def fnExactNatValueWrong : ChangeSpec := { name := "fnExactNatValue", fn := fun _ => fun
  | [d] => { results := [.lit (.bool false)], args := [d] }
  | _ => none }
def FnExactNatValueWrongFalsely : Prop := fnExactNatValueRow.holds Try.pinned (OpenSpec.ofChange fnExactNatValueWrong)

/-- 'laws.FnExactAddNats': WHATEVER THE INPUT: true; the input reads as it did. -/
def fnExactAddNatsSpec : ChangeSpec := { name := "fnExactAddNats", fn := fun _ => fun
  | [d1, d2] => { results := [.lit (.bool true)], args := [d1, d2] }
  | _ => none }
def fnExactAddNatsRow : OpenClaim := { program := "ytkakmcpakgfbpaa", sum := "d572ddf1477bf10b70a296baee776866a7dfb2ab12e8c1c0f48dfef763eb72a9", func := "loop.example/g00742/laws.FnExactAddNats", spec := "fnExactAddNats", apart := false }
def FnExactAddNatsSaid : Prop := fnExactAddNatsRow.holds Try.pinned (OpenSpec.ofChange fnExactAddNatsSpec)

/-- ITS FALSE NEIGHBOUR: 'it returns false'. Refute it at one input. -/
def fnExactAddNatsWrong : ChangeSpec := { name := "fnExactAddNats", fn := fun _ => fun
  | [d1, d2] => { results := [.lit (.bool false)], args := [d1, d2] }
  | _ => none }
def FnExactAddNatsWrongFalsely : Prop := fnExactAddNatsRow.holds Try.pinned (OpenSpec.ofChange fnExactAddNatsWrong)

/-- 'laws.FnExactSubNats': WHATEVER THE INPUT: true; the input reads as it did. -/
def fnExactSubNatsSpec : ChangeSpec := { name := "fnExactSubNats", fn := fun _ => fun
  | [d1, d2] => { results := [.lit (.bool true)], args := [d1, d2] }
  | _ => none }
def fnExactSubNatsRow : OpenClaim := { program := "ytkakmcpakgfbpaa", sum := "d572ddf1477bf10b70a296baee776866a7dfb2ab12e8c1c0f48dfef763eb72a9", func := "loop.example/g00742/laws.FnExactSubNats", spec := "fnExactSubNats", apart := false }
def FnExactSubNatsSaid : Prop := fnExactSubNatsRow.holds Try.pinned (OpenSpec.ofChange fnExactSubNatsSpec)

/-- ITS FALSE NEIGHBOUR: 'it returns false'. Refute it at one input. -/
def fnExactSubNatsWrong : ChangeSpec := { name := "fnExactSubNats", fn := fun _ => fun
  | [d1, d2] => { results := [.lit (.bool false)], args := [d1, d2] }
  | _ => none }
def FnExactSubNatsWrongFalsely : Prop := fnExactSubNatsRow.holds Try.pinned (OpenSpec.ofChange fnExactSubNatsWrong)

/-- 'laws.FnExactMulNats': WHATEVER THE INPUT: true; the input reads as it did. -/
def fnExactMulNatsSpec : ChangeSpec := { name := "fnExactMulNats", fn := fun _ => fun
  | [d1, d2] => { results := [.lit (.bool true)], args := [d1, d2] }
  | _ => none }
def fnExactMulNatsRow : OpenClaim := { program := "ytkakmcpakgfbpaa", sum := "d572ddf1477bf10b70a296baee776866a7dfb2ab12e8c1c0f48dfef763eb72a9", func := "loop.example/g00742/laws.FnExactMulNats", spec := "fnExactMulNats", apart := false }
def FnExactMulNatsSaid : Prop := fnExactMulNatsRow.holds Try.pinned (OpenSpec.ofChange fnExactMulNatsSpec)

/-- ITS FALSE NEIGHBOUR: 'it returns false'. Refute it at one input. -/
def fnExactMulNatsWrong : ChangeSpec := { name := "fnExactMulNats", fn := fun _ => fun
  | [d1, d2] => { results := [.lit (.bool false)], args := [d1, d2] }
  | _ => none }
def FnExactMulNatsWrongFalsely : Prop := fnExactMulNatsRow.holds Try.pinned (OpenSpec.ofChange fnExactMulNatsWrong)

/-- 'laws.FnExactDivNats': WHATEVER THE INPUT: true; the input reads as it did. -/
def fnExactDivNatsSpec : ChangeSpec := { name := "fnExactDivNats", fn := fun _ => fun
  | [d1, d2] => { results := [.lit (.bool true)], args := [d1, d2] }
  | _ => none }
def fnExactDivNatsRow : OpenClaim := { program := "ytkakmcpakgfbpaa", sum := "d572ddf1477bf10b70a296baee776866a7dfb2ab12e8c1c0f48dfef763eb72a9", func := "loop.example/g00742/laws.FnExactDivNats", spec := "fnExactDivNats", apart := false }
def FnExactDivNatsSaid : Prop := fnExactDivNatsRow.holds Try.pinned (OpenSpec.ofChange fnExactDivNatsSpec)

/-- ITS FALSE NEIGHBOUR: 'it returns false'. Refute it at one input. -/
def fnExactDivNatsWrong : ChangeSpec := { name := "fnExactDivNats", fn := fun _ => fun
  | [d1, d2] => { results := [.lit (.bool false)], args := [d1, d2] }
  | _ => none }
def FnExactDivNatsWrongFalsely : Prop := fnExactDivNatsRow.holds Try.pinned (OpenSpec.ofChange fnExactDivNatsWrong)

/-- 'laws.FnExactCompareNats': WHATEVER THE INPUT: true; the input reads as it did. -/
def fnExactCompareNatsSpec : ChangeSpec := { name := "fnExactCompareNats", fn := fun _ => fun
  | [d1, d2] => { results := [.lit (.bool true)], args := [d1, d2] }
  | _ => none }
def fnExactCompareNatsRow : OpenClaim := { program := "ytkakmcpakgfbpaa", sum := "d572ddf1477bf10b70a296baee776866a7dfb2ab12e8c1c0f48dfef763eb72a9", func := "loop.example/g00742/laws.FnExactCompareNats", spec := "fnExactCompareNats", apart := false }
def FnExactCompareNatsSaid : Prop := fnExactCompareNatsRow.holds Try.pinned (OpenSpec.ofChange fnExactCompareNatsSpec)

/-- ITS FALSE NEIGHBOUR: 'it returns false'. Refute it at one input. -/
def fnExactCompareNatsWrong : ChangeSpec := { name := "fnExactCompareNats", fn := fun _ => fun
  | [d1, d2] => { results := [.lit (.bool false)], args := [d1, d2] }
  | _ => none }
def FnExactCompareNatsWrongFalsely : Prop := fnExactCompareNatsRow.holds Try.pinned (OpenSpec.ofChange fnExactCompareNatsWrong)

/-- 'laws.FnExactNatText': WHATEVER THE INPUT: true; the input reads as it did. -/
def fnExactNatTextSpec : ChangeSpec := { name := "fnExactNatText", fn := fun _ => fun
  | [d] => { results := [.lit (.bool true)], args := [d] }
  | _ => none }
def fnExactNatTextRow : OpenClaim := { program := "ytkakmcpakgfbpaa", sum := "d572ddf1477bf10b70a296baee776866a7dfb2ab12e8c1c0f48dfef763eb72a9", func := "loop.example/g00742/laws.FnExactNatText", spec := "fnExactNatText", apart := false }
def FnExactNatTextSaid : Prop := fnExactNatTextRow.holds Try.pinned (OpenSpec.ofChange fnExactNatTextSpec)

/-- ITS FALSE NEIGHBOUR: 'it returns false'. Refute it at one input. -/
def fnExactNatTextWrong : ChangeSpec := { name := "fnExactNatText", fn := fun _ => fun
  | [d] => { results := [.lit (.bool false)], args := [d] }
  | _ => none }
def FnExactNatTextWrongFalsely : Prop := fnExactNatTextRow.holds Try.pinned (OpenSpec.ofChange fnExactNatTextWrong)

/-- 'laws.FnExactReadNat': WHATEVER THE INPUT: true; the input reads as it did. -/
def fnExactReadNatSpec : ChangeSpec := { name := "fnExactReadNat", fn := fun _ => fun
  | [d] => { results := [.lit (.bool true)], args := [d] }
  | _ => none }
def fnExactReadNatRow : OpenClaim := { program := "ytkakmcpakgfbpaa", sum := "d572ddf1477bf10b70a296baee776866a7dfb2ab12e8c1c0f48dfef763eb72a9", func := "loop.example/g00742/laws.FnExactReadNat", spec := "fnExactReadNat", apart := false }
def FnExactReadNatSaid : Prop := fnExactReadNatRow.holds Try.pinned (OpenSpec.ofChange fnExactReadNatSpec)

/-- ITS FALSE NEIGHBOUR: 'it returns false'. Refute it at one input. -/
def fnExactReadNatWrong : ChangeSpec := { name := "fnExactReadNat", fn := fun _ => fun
  | [d] => { results := [.lit (.bool false)], args := [d] }
  | _ => none }
def FnExactReadNatWrongFalsely : Prop := fnExactReadNatRow.holds Try.pinned (OpenSpec.ofChange fnExactReadNatWrong)

/- THE SECOND FORM. 'bulk': how many values and letters a reading holds, each counted each time it is reached (what is shared counts as often as it is met; a slice's spare places count too). A statement '..UptoSaid' is the law's where the arguments, and the package variables that the reading takes, are together of bulk at most 1048576: NARROWER than '..Said'. Prove '..Said' where nothing that the law and all that it calls make is longer than what came in: it says more and counts as full. Else prove '..UptoSaid'. A law counts once. -/
mutual
def uptoBulk {H : Type} : DataW H → Nat
  | .lit (.string bytes) => bytes.length + 1
  | .lit _ => 1
  | .nil => 1
  | .ptr d => uptoBulk d + 1
  | .slice elems spare => uptoBulkAll elems + uptoBulkAll spare + 1
  | .agg parts => uptoBulkAll parts + 1
  | .iface _ d => uptoBulk d + 1
  | .map entries => uptoBulkEntries entries + 1
  | .held _ => 1
def uptoBulkAll {H : Type} : List (DataW H) → Nat
  | [] => 0
  | d :: r => uptoBulk d + uptoBulkAll r
def uptoBulkEntries {H : Type} : List (Lit × DataW H) → Nat
  | [] => 0
  | x :: r => uptoBulkEntry x + uptoBulkEntries r
def uptoBulkEntry {H : Type} : Lit × DataW H → Nat
  | (.string bytes, d) => bytes.length + uptoBulk d + 1
  | (_, d) => uptoBulk d + 1
 end
def uptoSmall : (H : Type) → List (DataW H) → Bool := fun _ ds => decide (uptoBulkAll ds ≤ 1048576)
def OpenSpec.upto (s : _root_.Go.ChangeSpec) : _root_.Go.OpenSpec := { _root_.Go.OpenSpec.ofChange s with cond := some uptoSmall }

/-- 'laws.FnNats', WHERE WHAT IT READS IS OF BULK AT MOST 1048576: true; the input reads as it did. -/
def fnNatsUptoRow : OpenClaim := { program := "ytkakmcpakgfbpaa", sum := "d572ddf1477bf10b70a296baee776866a7dfb2ab12e8c1c0f48dfef763eb72a9", func := "loop.example/g00742/laws.FnNats", spec := "fnNats", apart := false, narrowed := true }
def FnNatsUptoSaid : Prop := fnNatsUptoRow.holds Try.pinned (OpenSpec.upto fnNatsSpec)

/-- 'laws.FnDivs', WHERE WHAT IT READS IS OF BULK AT MOST 1048576: true; the input reads as it did. -/
def fnDivsUptoRow : OpenClaim := { program := "ytkakmcpakgfbpaa", sum := "d572ddf1477bf10b70a296baee776866a7dfb2ab12e8c1c0f48dfef763eb72a9", func := "loop.example/g00742/laws.FnDivs", spec := "fnDivs", apart := false, narrowed := true }
def FnDivsUptoSaid : Prop := fnDivsUptoRow.holds Try.pinned (OpenSpec.upto fnDivsSpec)

/-- 'laws.FnExactNatFault', WHERE WHAT IT READS IS OF BULK AT MOST 1048576: true; the input reads as it did. -/
def fnExactNatFaultUptoRow : OpenClaim := { program := "ytkakmcpakgfbpaa", sum := "d572ddf1477bf10b70a296baee776866a7dfb2ab12e8c1c0f48dfef763eb72a9", func := "loop.example/g00742/laws.FnExactNatFault", spec := "fnExactNatFault", apart := false, narrowed := true }
def FnExactNatFaultUptoSaid : Prop := fnExactNatFaultUptoRow.holds Try.pinned (OpenSpec.upto fnExactNatFaultSpec)

/-- 'laws.FnExactNatOf', WHERE WHAT IT READS IS OF BULK AT MOST 1048576: true; the input reads as it did. -/
def fnExactNatOfUptoRow : OpenClaim := { program := "ytkakmcpakgfbpaa", sum := "d572ddf1477bf10b70a296baee776866a7dfb2ab12e8c1c0f48dfef763eb72a9", func := "loop.example/g00742/laws.FnExactNatOf", spec := "fnExactNatOf", apart := false, narrowed := true }
def FnExactNatOfUptoSaid : Prop := fnExactNatOfUptoRow.holds Try.pinned (OpenSpec.upto fnExactNatOfSpec)

/-- 'laws.FnExactNatValue', WHERE WHAT IT READS IS OF BULK AT MOST 1048576: true; the input reads as it did. -/
def fnExactNatValueUptoRow : OpenClaim := { program := "ytkakmcpakgfbpaa", sum := "d572ddf1477bf10b70a296baee776866a7dfb2ab12e8c1c0f48dfef763eb72a9", func := "loop.example/g00742/laws.FnExactNatValue", spec := "fnExactNatValue", apart := false, narrowed := true }
def FnExactNatValueUptoSaid : Prop := fnExactNatValueUptoRow.holds Try.pinned (OpenSpec.upto fnExactNatValueSpec)

/-- 'laws.FnExactAddNats', WHERE WHAT IT READS IS OF BULK AT MOST 1048576: true; the input reads as it did. -/
def fnExactAddNatsUptoRow : OpenClaim := { program := "ytkakmcpakgfbpaa", sum := "d572ddf1477bf10b70a296baee776866a7dfb2ab12e8c1c0f48dfef763eb72a9", func := "loop.example/g00742/laws.FnExactAddNats", spec := "fnExactAddNats", apart := false, narrowed := true }
def FnExactAddNatsUptoSaid : Prop := fnExactAddNatsUptoRow.holds Try.pinned (OpenSpec.upto fnExactAddNatsSpec)

/-- 'laws.FnExactSubNats', WHERE WHAT IT READS IS OF BULK AT MOST 1048576: true; the input reads as it did. -/
def fnExactSubNatsUptoRow : OpenClaim := { program := "ytkakmcpakgfbpaa", sum := "d572ddf1477bf10b70a296baee776866a7dfb2ab12e8c1c0f48dfef763eb72a9", func := "loop.example/g00742/laws.FnExactSubNats", spec := "fnExactSubNats", apart := false, narrowed := true }
def FnExactSubNatsUptoSaid : Prop := fnExactSubNatsUptoRow.holds Try.pinned (OpenSpec.upto fnExactSubNatsSpec)

/-- 'laws.FnExactMulNats', WHERE WHAT IT READS IS OF BULK AT MOST 1048576: true; the input reads as it did. -/
def fnExactMulNatsUptoRow : OpenClaim := { program := "ytkakmcpakgfbpaa", sum := "d572ddf1477bf10b70a296baee776866a7dfb2ab12e8c1c0f48dfef763eb72a9", func := "loop.example/g00742/laws.FnExactMulNats", spec := "fnExactMulNats", apart := false, narrowed := true }
def FnExactMulNatsUptoSaid : Prop := fnExactMulNatsUptoRow.holds Try.pinned (OpenSpec.upto fnExactMulNatsSpec)

/-- 'laws.FnExactDivNats', WHERE WHAT IT READS IS OF BULK AT MOST 1048576: true; the input reads as it did. -/
def fnExactDivNatsUptoRow : OpenClaim := { program := "ytkakmcpakgfbpaa", sum := "d572ddf1477bf10b70a296baee776866a7dfb2ab12e8c1c0f48dfef763eb72a9", func := "loop.example/g00742/laws.FnExactDivNats", spec := "fnExactDivNats", apart := false, narrowed := true }
def FnExactDivNatsUptoSaid : Prop := fnExactDivNatsUptoRow.holds Try.pinned (OpenSpec.upto fnExactDivNatsSpec)

/-- 'laws.FnExactCompareNats', WHERE WHAT IT READS IS OF BULK AT MOST 1048576: true; the input reads as it did. -/
def fnExactCompareNatsUptoRow : OpenClaim := { program := "ytkakmcpakgfbpaa", sum := "d572ddf1477bf10b70a296baee776866a7dfb2ab12e8c1c0f48dfef763eb72a9", func := "loop.example/g00742/laws.FnExactCompareNats", spec := "fnExactCompareNats", apart := false, narrowed := true }
def FnExactCompareNatsUptoSaid : Prop := fnExactCompareNatsUptoRow.holds Try.pinned (OpenSpec.upto fnExactCompareNatsSpec)

/-- 'laws.FnExactNatText', WHERE WHAT IT READS IS OF BULK AT MOST 1048576: true; the input reads as it did. -/
def fnExactNatTextUptoRow : OpenClaim := { program := "ytkakmcpakgfbpaa", sum := "d572ddf1477bf10b70a296baee776866a7dfb2ab12e8c1c0f48dfef763eb72a9", func := "loop.example/g00742/laws.FnExactNatText", spec := "fnExactNatText", apart := false, narrowed := true }
def FnExactNatTextUptoSaid : Prop := fnExactNatTextUptoRow.holds Try.pinned (OpenSpec.upto fnExactNatTextSpec)

/-- 'laws.FnExactReadNat', WHERE WHAT IT READS IS OF BULK AT MOST 1048576: true; the input reads as it did. -/
def fnExactReadNatUptoRow : OpenClaim := { program := "ytkakmcpakgfbpaa", sum := "d572ddf1477bf10b70a296baee776866a7dfb2ab12e8c1c0f48dfef763eb72a9", func := "loop.example/g00742/laws.FnExactReadNat", spec := "fnExactReadNat", apart := false, narrowed := true }
def FnExactReadNatUptoSaid : Prop := fnExactReadNatUptoRow.holds Try.pinned (OpenSpec.upto fnExactReadNatSpec)

end Rows
end Go.Proofs.Ytkakmcpakgfbpaa
