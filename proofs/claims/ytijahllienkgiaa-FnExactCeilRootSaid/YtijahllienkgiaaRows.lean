/-
  No cell of these rows narrows 'for every input' (looked for: loops, veiled, ifaces, maps, wideKeys, modest, calm, conditions, laid).
  DERIVED. THE GIVEN ROWS OF THIS SEAT. 18 by the template 'for every input the law returns true; each argument reads behind the call as it read before'; 0 by the template 'total and deterministic' (their statements: YtijahllienkgiaaTotals.lean).
  GIVEN WITH THE SEED: the statements are not yours to turn. If you find one false, say at which input.
  Laid BY PROGRAM, IN A SANDBOX (cutbox-rows.mjs): the forced cells as the released guide's own fill.sh prints them over the translation 4c4aaee37792d405… (all of the seat's roots in one cut). By AI agents, Wed Nov 11 2026. No macro, syntax, notation, axiom, sorry.
-/
import Derived.Test.YtijahllienkgiaaChecked
import GoSem.Claim
import GoSem.ClaimJoined
import GoSem.ClaimMapViews
import Derived.JoinedTies
import Derived.KernelRfl
namespace Go.Proofs.Ytijahllienkgiaa
/- THE CELL 'sum', in the pinned program and in every row, IS THE sha256 OF THE DUMP (.gsa) THAT YtijahllienkgiaaProg.lean LOADS. Nothing in Lean hashes anything: it is a label: what it is worth is what the hold of that sum in a sandbox is worth. -/
noncomputable def Try.pinned : Pinned := { name := "ytijahllienkgiaa", sum := "4c4aaee37792d405aecc0494637166f1b0875c57a41d29aa7620d2e0f2fab706", checked := Try.checked }
namespace Rows
def none {H : Type} : Left H := { results := [], args := [] }

/-- 'laws.FnNats': WHATEVER THE INPUT: true; the input reads as it did. -/
def fnNatsSpec : ChangeSpec := { name := "fnNats", fn := fun _ => fun
  | [d] => { results := [.lit (.bool true)], args := [d] }
  | _ => none }
def fnNatsRow : OpenClaim := { program := "ytijahllienkgiaa", sum := "4c4aaee37792d405aecc0494637166f1b0875c57a41d29aa7620d2e0f2fab706", func := "loop.example/g00742/laws.FnNats", spec := "fnNats", apart := false }
def FnNatsSaid : Prop := fnNatsRow.holds Try.pinned (OpenSpec.ofChange fnNatsSpec)

/-- ITS FALSE NEIGHBOUR: 'it returns false'. Refute it at one input. -/
def fnNatsWrong : ChangeSpec := { name := "fnNats", fn := fun _ => fun
  | [d] => { results := [.lit (.bool false)], args := [d] }
  | _ => none }
def FnNatsWrongFalsely : Prop := fnNatsRow.holds Try.pinned (OpenSpec.ofChange fnNatsWrong)

/-- 'laws.FnDivs': WHATEVER THE INPUT: true; the input reads as it did. -/
def fnDivsSpec : ChangeSpec := { name := "fnDivs", fn := fun _ => fun
  | [d] => { results := [.lit (.bool true)], args := [d] }
  | _ => none }
def fnDivsRow : OpenClaim := { program := "ytijahllienkgiaa", sum := "4c4aaee37792d405aecc0494637166f1b0875c57a41d29aa7620d2e0f2fab706", func := "loop.example/g00742/laws.FnDivs", spec := "fnDivs", apart := false }
def FnDivsSaid : Prop := fnDivsRow.holds Try.pinned (OpenSpec.ofChange fnDivsSpec)

/-- ITS FALSE NEIGHBOUR: 'it returns false'. Refute it at one input. -/
def fnDivsWrong : ChangeSpec := { name := "fnDivs", fn := fun _ => fun
  | [d] => { results := [.lit (.bool false)], args := [d] }
  | _ => none }
def FnDivsWrongFalsely : Prop := fnDivsRow.holds Try.pinned (OpenSpec.ofChange fnDivsWrong)

/-- 'laws.FnExactReadNat': WHATEVER THE INPUT: true; the input reads as it did. -/
def fnExactReadNatSpec : ChangeSpec := { name := "fnExactReadNat", fn := fun _ => fun
  | [d] => { results := [.lit (.bool true)], args := [d] }
  | _ => none }
def fnExactReadNatRow : OpenClaim := { program := "ytijahllienkgiaa", sum := "4c4aaee37792d405aecc0494637166f1b0875c57a41d29aa7620d2e0f2fab706", func := "loop.example/g00742/laws.FnExactReadNat", spec := "fnExactReadNat", apart := false }
def FnExactReadNatSaid : Prop := fnExactReadNatRow.holds Try.pinned (OpenSpec.ofChange fnExactReadNatSpec)

/-- ITS FALSE NEIGHBOUR: 'it returns false'. Refute it at one input. -/
def fnExactReadNatWrong : ChangeSpec := { name := "fnExactReadNat", fn := fun _ => fun
  | [d] => { results := [.lit (.bool false)], args := [d] }
  | _ => none }
def FnExactReadNatWrongFalsely : Prop := fnExactReadNatRow.holds Try.pinned (OpenSpec.ofChange fnExactReadNatWrong)

/-- 'laws.FnBigs': WHATEVER THE INPUT: true; the input reads as it did. -/
def fnBigsSpec : ChangeSpec := { name := "fnBigs", fn := fun _ => fun
  | [d] => { results := [.lit (.bool true)], args := [d] }
  | _ => none }
def fnBigsRow : OpenClaim := { program := "ytijahllienkgiaa", sum := "4c4aaee37792d405aecc0494637166f1b0875c57a41d29aa7620d2e0f2fab706", func := "loop.example/g00742/laws.FnBigs", spec := "fnBigs", apart := false }
def FnBigsSaid : Prop := fnBigsRow.holds Try.pinned (OpenSpec.ofChange fnBigsSpec)

/-- ITS FALSE NEIGHBOUR: 'it returns false'. Refute it at one input. -/
def fnBigsWrong : ChangeSpec := { name := "fnBigs", fn := fun _ => fun
  | [d] => { results := [.lit (.bool false)], args := [d] }
  | _ => none }
def FnBigsWrongFalsely : Prop := fnBigsRow.holds Try.pinned (OpenSpec.ofChange fnBigsWrong)

/-- 'laws.FnRoots': WHATEVER THE INPUT: true; the input reads as it did. -/
def fnRootsSpec : ChangeSpec := { name := "fnRoots", fn := fun _ => fun
  | [d] => { results := [.lit (.bool true)], args := [d] }
  | _ => none }
def fnRootsRow : OpenClaim := { program := "ytijahllienkgiaa", sum := "4c4aaee37792d405aecc0494637166f1b0875c57a41d29aa7620d2e0f2fab706", func := "loop.example/g00742/laws.FnRoots", spec := "fnRoots", inPlace := ["internal/abi.NoEscape", "internal/bytealg.MakeNoZero"], apart := false }
def FnRootsSaid : Prop := fnRootsRow.holds Try.pinned (OpenSpec.ofChange fnRootsSpec)

/-- ITS FALSE NEIGHBOUR: 'it returns false'. Refute it at one input. -/
def fnRootsWrong : ChangeSpec := { name := "fnRoots", fn := fun _ => fun
  | [d] => { results := [.lit (.bool false)], args := [d] }
  | _ => none }
def FnRootsWrongFalsely : Prop := fnRootsRow.holds Try.pinned (OpenSpec.ofChange fnRootsWrong)

/-- 'laws.FnExactBigFault': WHATEVER THE INPUT: true; the input reads as it did. -/
def fnExactBigFaultSpec : ChangeSpec := { name := "fnExactBigFault", fn := fun _ => fun
  | [d] => { results := [.lit (.bool true)], args := [d] }
  | _ => none }
def fnExactBigFaultRow : OpenClaim := { program := "ytijahllienkgiaa", sum := "4c4aaee37792d405aecc0494637166f1b0875c57a41d29aa7620d2e0f2fab706", func := "loop.example/g00742/laws.FnExactBigFault", spec := "fnExactBigFault", apart := false }
def FnExactBigFaultSaid : Prop := fnExactBigFaultRow.holds Try.pinned (OpenSpec.ofChange fnExactBigFaultSpec)

/-- ITS FALSE NEIGHBOUR: 'it returns false'. Refute it at one input. -/
def fnExactBigFaultWrong : ChangeSpec := { name := "fnExactBigFault", fn := fun _ => fun
  | [d] => { results := [.lit (.bool false)], args := [d] }
  | _ => none }
def FnExactBigFaultWrongFalsely : Prop := fnExactBigFaultRow.holds Try.pinned (OpenSpec.ofChange fnExactBigFaultWrong)

/-- 'laws.FnExactBigOf': WHATEVER THE INPUT: true; the input reads as it did. -/
def fnExactBigOfSpec : ChangeSpec := { name := "fnExactBigOf", fn := fun _ => fun
  | [d] => { results := [.lit (.bool true)], args := [d] }
  | _ => none }
def fnExactBigOfRow : OpenClaim := { program := "ytijahllienkgiaa", sum := "4c4aaee37792d405aecc0494637166f1b0875c57a41d29aa7620d2e0f2fab706", func := "loop.example/g00742/laws.FnExactBigOf", spec := "fnExactBigOf", apart := false }
def FnExactBigOfSaid : Prop := fnExactBigOfRow.holds Try.pinned (OpenSpec.ofChange fnExactBigOfSpec)

/-- ITS FALSE NEIGHBOUR: 'it returns false'. Refute it at one input. -/
def fnExactBigOfWrong : ChangeSpec := { name := "fnExactBigOf", fn := fun _ => fun
  | [d] => { results := [.lit (.bool false)], args := [d] }
  | _ => none }
def FnExactBigOfWrongFalsely : Prop := fnExactBigOfRow.holds Try.pinned (OpenSpec.ofChange fnExactBigOfWrong)

/-- 'laws.FnExactBigValue': WHATEVER THE INPUT: true; the input reads as it did. -/
def fnExactBigValueSpec : ChangeSpec := { name := "fnExactBigValue", fn := fun _ => fun
  | [d] => { results := [.lit (.bool true)], args := [d] }
  | _ => none }
def fnExactBigValueRow : OpenClaim := { program := "ytijahllienkgiaa", sum := "4c4aaee37792d405aecc0494637166f1b0875c57a41d29aa7620d2e0f2fab706", func := "loop.example/g00742/laws.FnExactBigValue", spec := "fnExactBigValue", apart := false }
def FnExactBigValueSaid : Prop := fnExactBigValueRow.holds Try.pinned (OpenSpec.ofChange fnExactBigValueSpec)

/-- ITS FALSE NEIGHBOUR: 'it returns false'. Refute it at one input. -/
def fnExactBigValueWrong : ChangeSpec := { name := "fnExactBigValue", fn := fun _ => fun
  | [d] => { results := [.lit (.bool false)], args := [d] }
  | _ => none }
def FnExactBigValueWrongFalsely : Prop := fnExactBigValueRow.holds Try.pinned (OpenSpec.ofChange fnExactBigValueWrong)

/-- 'laws.FnExactAddBigs': WHATEVER THE INPUT: true; the input reads as it did. -/
def fnExactAddBigsSpec : ChangeSpec := { name := "fnExactAddBigs", fn := fun _ => fun
  | [d1, d2] => { results := [.lit (.bool true)], args := [d1, d2] }
  | _ => none }
def fnExactAddBigsRow : OpenClaim := { program := "ytijahllienkgiaa", sum := "4c4aaee37792d405aecc0494637166f1b0875c57a41d29aa7620d2e0f2fab706", func := "loop.example/g00742/laws.FnExactAddBigs", spec := "fnExactAddBigs", apart := false }
def FnExactAddBigsSaid : Prop := fnExactAddBigsRow.holds Try.pinned (OpenSpec.ofChange fnExactAddBigsSpec)

/-- ITS FALSE NEIGHBOUR: 'it returns false'. Refute it at one input. -/
def fnExactAddBigsWrong : ChangeSpec := { name := "fnExactAddBigs", fn := fun _ => fun
  | [d1, d2] => { results := [.lit (.bool false)], args := [d1, d2] }
  | _ => none }
def FnExactAddBigsWrongFalsely : Prop := fnExactAddBigsRow.holds Try.pinned (OpenSpec.ofChange fnExactAddBigsWrong)

/-- 'laws.FnExactSubBigs': WHATEVER THE INPUT: true; the input reads as it did. -/
def fnExactSubBigsSpec : ChangeSpec := { name := "fnExactSubBigs", fn := fun _ => fun
  | [d1, d2] => { results := [.lit (.bool true)], args := [d1, d2] }
  | _ => none }
def fnExactSubBigsRow : OpenClaim := { program := "ytijahllienkgiaa", sum := "4c4aaee37792d405aecc0494637166f1b0875c57a41d29aa7620d2e0f2fab706", func := "loop.example/g00742/laws.FnExactSubBigs", spec := "fnExactSubBigs", apart := false }
def FnExactSubBigsSaid : Prop := fnExactSubBigsRow.holds Try.pinned (OpenSpec.ofChange fnExactSubBigsSpec)

/-- ITS FALSE NEIGHBOUR: 'it returns false'. Refute it at one input. -/
def fnExactSubBigsWrong : ChangeSpec := { name := "fnExactSubBigs", fn := fun _ => fun
  | [d1, d2] => { results := [.lit (.bool false)], args := [d1, d2] }
  | _ => none }
def FnExactSubBigsWrongFalsely : Prop := fnExactSubBigsRow.holds Try.pinned (OpenSpec.ofChange fnExactSubBigsWrong)

/-- 'laws.FnExactMulBigs': WHATEVER THE INPUT: true; the input reads as it did. -/
def fnExactMulBigsSpec : ChangeSpec := { name := "fnExactMulBigs", fn := fun _ => fun
  | [d1, d2] => { results := [.lit (.bool true)], args := [d1, d2] }
  | _ => none }
def fnExactMulBigsRow : OpenClaim := { program := "ytijahllienkgiaa", sum := "4c4aaee37792d405aecc0494637166f1b0875c57a41d29aa7620d2e0f2fab706", func := "loop.example/g00742/laws.FnExactMulBigs", spec := "fnExactMulBigs", apart := false }
def FnExactMulBigsSaid : Prop := fnExactMulBigsRow.holds Try.pinned (OpenSpec.ofChange fnExactMulBigsSpec)

/-- ITS FALSE NEIGHBOUR: 'it returns false'. Refute it at one input. -/
def fnExactMulBigsWrong : ChangeSpec := { name := "fnExactMulBigs", fn := fun _ => fun
  | [d1, d2] => { results := [.lit (.bool false)], args := [d1, d2] }
  | _ => none }
def FnExactMulBigsWrongFalsely : Prop := fnExactMulBigsRow.holds Try.pinned (OpenSpec.ofChange fnExactMulBigsWrong)

/-- 'laws.FnExactFloorDiv': WHATEVER THE INPUT: true; the input reads as it did. -/
def fnExactFloorDivSpec : ChangeSpec := { name := "fnExactFloorDiv", fn := fun _ => fun
  | [d1, d2] => { results := [.lit (.bool true)], args := [d1, d2] }
  | _ => none }
def fnExactFloorDivRow : OpenClaim := { program := "ytijahllienkgiaa", sum := "4c4aaee37792d405aecc0494637166f1b0875c57a41d29aa7620d2e0f2fab706", func := "loop.example/g00742/laws.FnExactFloorDiv", spec := "fnExactFloorDiv", apart := false }
def FnExactFloorDivSaid : Prop := fnExactFloorDivRow.holds Try.pinned (OpenSpec.ofChange fnExactFloorDivSpec)

/-- ITS FALSE NEIGHBOUR: 'it returns false'. Refute it at one input. -/
def fnExactFloorDivWrong : ChangeSpec := { name := "fnExactFloorDiv", fn := fun _ => fun
  | [d1, d2] => { results := [.lit (.bool false)], args := [d1, d2] }
  | _ => none }
def FnExactFloorDivWrongFalsely : Prop := fnExactFloorDivRow.holds Try.pinned (OpenSpec.ofChange fnExactFloorDivWrong)

/-- 'laws.FnExactCeilDiv': WHATEVER THE INPUT: true; the input reads as it did. -/
def fnExactCeilDivSpec : ChangeSpec := { name := "fnExactCeilDiv", fn := fun _ => fun
  | [d1, d2] => { results := [.lit (.bool true)], args := [d1, d2] }
  | _ => none }
def fnExactCeilDivRow : OpenClaim := { program := "ytijahllienkgiaa", sum := "4c4aaee37792d405aecc0494637166f1b0875c57a41d29aa7620d2e0f2fab706", func := "loop.example/g00742/laws.FnExactCeilDiv", spec := "fnExactCeilDiv", apart := false }
def FnExactCeilDivSaid : Prop := fnExactCeilDivRow.holds Try.pinned (OpenSpec.ofChange fnExactCeilDivSpec)

/-- ITS FALSE NEIGHBOUR: 'it returns false'. Refute it at one input. -/
def fnExactCeilDivWrong : ChangeSpec := { name := "fnExactCeilDiv", fn := fun _ => fun
  | [d1, d2] => { results := [.lit (.bool false)], args := [d1, d2] }
  | _ => none }
def FnExactCeilDivWrongFalsely : Prop := fnExactCeilDivRow.holds Try.pinned (OpenSpec.ofChange fnExactCeilDivWrong)

/-- 'laws.FnExactFloorRoot': WHATEVER THE INPUT: true; the input reads as it did. -/
def fnExactFloorRootSpec : ChangeSpec := { name := "fnExactFloorRoot", fn := fun _ => fun
  | [d] => { results := [.lit (.bool true)], args := [d] }
  | _ => none }
def fnExactFloorRootRow : OpenClaim := { program := "ytijahllienkgiaa", sum := "4c4aaee37792d405aecc0494637166f1b0875c57a41d29aa7620d2e0f2fab706", func := "loop.example/g00742/laws.FnExactFloorRoot", spec := "fnExactFloorRoot", apart := false }
def FnExactFloorRootSaid : Prop := fnExactFloorRootRow.holds Try.pinned (OpenSpec.ofChange fnExactFloorRootSpec)

/-- ITS FALSE NEIGHBOUR: 'it returns false'. Refute it at one input. -/
def fnExactFloorRootWrong : ChangeSpec := { name := "fnExactFloorRoot", fn := fun _ => fun
  | [d] => { results := [.lit (.bool false)], args := [d] }
  | _ => none }
def FnExactFloorRootWrongFalsely : Prop := fnExactFloorRootRow.holds Try.pinned (OpenSpec.ofChange fnExactFloorRootWrong)

/-- 'laws.FnExactCeilRoot': WHATEVER THE INPUT: true; the input reads as it did. -/
def fnExactCeilRootSpec : ChangeSpec := { name := "fnExactCeilRoot", fn := fun _ => fun
  | [d] => { results := [.lit (.bool true)], args := [d] }
  | _ => none }
def fnExactCeilRootRow : OpenClaim := { program := "ytijahllienkgiaa", sum := "4c4aaee37792d405aecc0494637166f1b0875c57a41d29aa7620d2e0f2fab706", func := "loop.example/g00742/laws.FnExactCeilRoot", spec := "fnExactCeilRoot", apart := false }
def FnExactCeilRootSaid : Prop := fnExactCeilRootRow.holds Try.pinned (OpenSpec.ofChange fnExactCeilRootSpec)

/-- ITS FALSE NEIGHBOUR: 'it returns false'. Refute it at one input. -/
def fnExactCeilRootWrong : ChangeSpec := { name := "fnExactCeilRoot", fn := fun _ => fun
  | [d] => { results := [.lit (.bool false)], args := [d] }
  | _ => none }
def FnExactCeilRootWrongFalsely : Prop := fnExactCeilRootRow.holds Try.pinned (OpenSpec.ofChange fnExactCeilRootWrong)

/-- 'laws.FnExactCompareBigs': WHATEVER THE INPUT: true; the input reads as it did. -/
def fnExactCompareBigsSpec : ChangeSpec := { name := "fnExactCompareBigs", fn := fun _ => fun
  | [d1, d2] => { results := [.lit (.bool true)], args := [d1, d2] }
  | _ => none }
def fnExactCompareBigsRow : OpenClaim := { program := "ytijahllienkgiaa", sum := "4c4aaee37792d405aecc0494637166f1b0875c57a41d29aa7620d2e0f2fab706", func := "loop.example/g00742/laws.FnExactCompareBigs", spec := "fnExactCompareBigs", apart := false }
def FnExactCompareBigsSaid : Prop := fnExactCompareBigsRow.holds Try.pinned (OpenSpec.ofChange fnExactCompareBigsSpec)

/-- ITS FALSE NEIGHBOUR: 'it returns false'. Refute it at one input. -/
def fnExactCompareBigsWrong : ChangeSpec := { name := "fnExactCompareBigs", fn := fun _ => fun
  | [d1, d2] => { results := [.lit (.bool false)], args := [d1, d2] }
  | _ => none }
def FnExactCompareBigsWrongFalsely : Prop := fnExactCompareBigsRow.holds Try.pinned (OpenSpec.ofChange fnExactCompareBigsWrong)

/-- 'laws.FnExactBigText': WHATEVER THE INPUT: true; the input reads as it did. -/
def fnExactBigTextSpec : ChangeSpec := { name := "fnExactBigText", fn := fun _ => fun
  | [d] => { results := [.lit (.bool true)], args := [d] }
  | _ => none }
def fnExactBigTextRow : OpenClaim := { program := "ytijahllienkgiaa", sum := "4c4aaee37792d405aecc0494637166f1b0875c57a41d29aa7620d2e0f2fab706", func := "loop.example/g00742/laws.FnExactBigText", spec := "fnExactBigText", apart := false }
def FnExactBigTextSaid : Prop := fnExactBigTextRow.holds Try.pinned (OpenSpec.ofChange fnExactBigTextSpec)

/-- ITS FALSE NEIGHBOUR: 'it returns false'. Refute it at one input. -/
def fnExactBigTextWrong : ChangeSpec := { name := "fnExactBigText", fn := fun _ => fun
  | [d] => { results := [.lit (.bool false)], args := [d] }
  | _ => none }
def FnExactBigTextWrongFalsely : Prop := fnExactBigTextRow.holds Try.pinned (OpenSpec.ofChange fnExactBigTextWrong)

/-- 'laws.FnExactSameBigs': WHATEVER THE INPUT: true; the input reads as it did. -/
def fnExactSameBigsSpec : ChangeSpec := { name := "fnExactSameBigs", fn := fun _ => fun
  | [d1, d2] => { results := [.lit (.bool true)], args := [d1, d2] }
  | _ => none }
def fnExactSameBigsRow : OpenClaim := { program := "ytijahllienkgiaa", sum := "4c4aaee37792d405aecc0494637166f1b0875c57a41d29aa7620d2e0f2fab706", func := "loop.example/g00742/laws.FnExactSameBigs", spec := "fnExactSameBigs", inPlace := ["internal/abi.NoEscape", "internal/bytealg.MakeNoZero"], apart := false }
def FnExactSameBigsSaid : Prop := fnExactSameBigsRow.holds Try.pinned (OpenSpec.ofChange fnExactSameBigsSpec)

/-- ITS FALSE NEIGHBOUR: 'it returns false'. Refute it at one input. -/
def fnExactSameBigsWrong : ChangeSpec := { name := "fnExactSameBigs", fn := fun _ => fun
  | [d1, d2] => { results := [.lit (.bool false)], args := [d1, d2] }
  | _ => none }
def FnExactSameBigsWrongFalsely : Prop := fnExactSameBigsRow.holds Try.pinned (OpenSpec.ofChange fnExactSameBigsWrong)

/- THE SECOND FORM. 'bulk': how many values and letters a reading holds, each counted each time it is reached (what is shared counts as often as it is met; a slice's spare places count too). A statement '..UptoSaid' is the law's where the arguments, and the package variables that the reading takes, are together of bulk at most 1048576: NARROWER than '..Said'. Prove '..Said' where nothing that the law and all that it calls make is longer than what came in: it says more and counts as full. Else prove '..UptoSaid'. A law counts once. -/
mutual
def uptoBulk {H : Type} : DataW H → Nat
  | .lit (.string bytes) => bytes.length + 1
  | .lit _ => 1
  | .nil => 1
  | .ptr d => uptoBulk d + 1
  | .slice elems spare => uptoBulkAll elems + uptoBulkAll spare + 1
  | .agg parts => uptoBulkAll parts + 1
  | .iface _ d => uptoBulk d + 1
  | .map entries => uptoBulkEntries entries + 1
  | .held _ => 1
def uptoBulkAll {H : Type} : List (DataW H) → Nat
  | [] => 0
  | d :: r => uptoBulk d + uptoBulkAll r
def uptoBulkEntries {H : Type} : List (Lit × DataW H) → Nat
  | [] => 0
  | x :: r => uptoBulkEntry x + uptoBulkEntries r
def uptoBulkEntry {H : Type} : Lit × DataW H → Nat
  | (.string bytes, d) => bytes.length + uptoBulk d + 1
  | (_, d) => uptoBulk d + 1
 end
def uptoSmall : (H : Type) → List (DataW H) → Bool := fun _ ds => decide (uptoBulkAll ds ≤ 1048576)
def OpenSpec.upto (s : _root_.Go.ChangeSpec) : _root_.Go.OpenSpec := { _root_.Go.OpenSpec.ofChange s with cond := some uptoSmall }

/-- 'laws.FnNats', WHERE WHAT IT READS IS OF BULK AT MOST 1048576: true; the input reads as it did. -/
def fnNatsUptoRow : OpenClaim := { program := "ytijahllienkgiaa", sum := "4c4aaee37792d405aecc0494637166f1b0875c57a41d29aa7620d2e0f2fab706", func := "loop.example/g00742/laws.FnNats", spec := "fnNats", apart := false, narrowed := true }
def FnNatsUptoSaid : Prop := fnNatsUptoRow.holds Try.pinned (OpenSpec.upto fnNatsSpec)

/-- 'laws.FnDivs', WHERE WHAT IT READS IS OF BULK AT MOST 1048576: true; the input reads as it did. -/
def fnDivsUptoRow : OpenClaim := { program := "ytijahllienkgiaa", sum := "4c4aaee37792d405aecc0494637166f1b0875c57a41d29aa7620d2e0f2fab706", func := "loop.example/g00742/laws.FnDivs", spec := "fnDivs", apart := false, narrowed := true }
def FnDivsUptoSaid : Prop := fnDivsUptoRow.holds Try.pinned (OpenSpec.upto fnDivsSpec)

/-- 'laws.FnExactReadNat', WHERE WHAT IT READS IS OF BULK AT MOST 1048576: true; the input reads as it did. -/
def fnExactReadNatUptoRow : OpenClaim := { program := "ytijahllienkgiaa", sum := "4c4aaee37792d405aecc0494637166f1b0875c57a41d29aa7620d2e0f2fab706", func := "loop.example/g00742/laws.FnExactReadNat", spec := "fnExactReadNat", apart := false, narrowed := true }
def FnExactReadNatUptoSaid : Prop := fnExactReadNatUptoRow.holds Try.pinned (OpenSpec.upto fnExactReadNatSpec)

/-- 'laws.FnBigs', WHERE WHAT IT READS IS OF BULK AT MOST 1048576: true; the input reads as it did. -/
def fnBigsUptoRow : OpenClaim := { program := "ytijahllienkgiaa", sum := "4c4aaee37792d405aecc0494637166f1b0875c57a41d29aa7620d2e0f2fab706", func := "loop.example/g00742/laws.FnBigs", spec := "fnBigs", apart := false, narrowed := true }
def FnBigsUptoSaid : Prop := fnBigsUptoRow.holds Try.pinned (OpenSpec.upto fnBigsSpec)

/-- 'laws.FnRoots', WHERE WHAT IT READS IS OF BULK AT MOST 1048576: true; the input reads as it did. -/
def fnRootsUptoRow : OpenClaim := { program := "ytijahllienkgiaa", sum := "4c4aaee37792d405aecc0494637166f1b0875c57a41d29aa7620d2e0f2fab706", func := "loop.example/g00742/laws.FnRoots", spec := "fnRoots", inPlace := ["internal/abi.NoEscape", "internal/bytealg.MakeNoZero"], apart := false, narrowed := true }
def FnRootsUptoSaid : Prop := fnRootsUptoRow.holds Try.pinned (OpenSpec.upto fnRootsSpec)

/-- 'laws.FnExactBigFault', WHERE WHAT IT READS IS OF BULK AT MOST 1048576: true; the input reads as it did. -/
def fnExactBigFaultUptoRow : OpenClaim := { program := "ytijahllienkgiaa", sum := "4c4aaee37792d405aecc0494637166f1b0875c57a41d29aa7620d2e0f2fab706", func := "loop.example/g00742/laws.FnExactBigFault", spec := "fnExactBigFault", apart := false, narrowed := true }
def FnExactBigFaultUptoSaid : Prop := fnExactBigFaultUptoRow.holds Try.pinned (OpenSpec.upto fnExactBigFaultSpec)

/-- 'laws.FnExactBigOf', WHERE WHAT IT READS IS OF BULK AT MOST 1048576: true; the input reads as it did. -/
def fnExactBigOfUptoRow : OpenClaim := { program := "ytijahllienkgiaa", sum := "4c4aaee37792d405aecc0494637166f1b0875c57a41d29aa7620d2e0f2fab706", func := "loop.example/g00742/laws.FnExactBigOf", spec := "fnExactBigOf", apart := false, narrowed := true }
def FnExactBigOfUptoSaid : Prop := fnExactBigOfUptoRow.holds Try.pinned (OpenSpec.upto fnExactBigOfSpec)

/-- 'laws.FnExactBigValue', WHERE WHAT IT READS IS OF BULK AT MOST 1048576: true; the input reads as it did. -/
def fnExactBigValueUptoRow : OpenClaim := { program := "ytijahllienkgiaa", sum := "4c4aaee37792d405aecc0494637166f1b0875c57a41d29aa7620d2e0f2fab706", func := "loop.example/g00742/laws.FnExactBigValue", spec := "fnExactBigValue", apart := false, narrowed := true }
def FnExactBigValueUptoSaid : Prop := fnExactBigValueUptoRow.holds Try.pinned (OpenSpec.upto fnExactBigValueSpec)

/-- 'laws.FnExactAddBigs', WHERE WHAT IT READS IS OF BULK AT MOST 1048576: true; the input reads as it did. -/
def fnExactAddBigsUptoRow : OpenClaim := { program := "ytijahllienkgiaa", sum := "4c4aaee37792d405aecc0494637166f1b0875c57a41d29aa7620d2e0f2fab706", func := "loop.example/g00742/laws.FnExactAddBigs", spec := "fnExactAddBigs", apart := false, narrowed := true }
def FnExactAddBigsUptoSaid : Prop := fnExactAddBigsUptoRow.holds Try.pinned (OpenSpec.upto fnExactAddBigsSpec)

/-- 'laws.FnExactSubBigs', WHERE WHAT IT READS IS OF BULK AT MOST 1048576: true; the input reads as it did. -/
def fnExactSubBigsUptoRow : OpenClaim := { program := "ytijahllienkgiaa", sum := "4c4aaee37792d405aecc0494637166f1b0875c57a41d29aa7620d2e0f2fab706", func := "loop.example/g00742/laws.FnExactSubBigs", spec := "fnExactSubBigs", apart := false, narrowed := true }
def FnExactSubBigsUptoSaid : Prop := fnExactSubBigsUptoRow.holds Try.pinned (OpenSpec.upto fnExactSubBigsSpec)

/-- 'laws.FnExactMulBigs', WHERE WHAT IT READS IS OF BULK AT MOST 1048576: true; the input reads as it did. -/
def fnExactMulBigsUptoRow : OpenClaim := { program := "ytijahllienkgiaa", sum := "4c4aaee37792d405aecc0494637166f1b0875c57a41d29aa7620d2e0f2fab706", func := "loop.example/g00742/laws.FnExactMulBigs", spec := "fnExactMulBigs", apart := false, narrowed := true }
def FnExactMulBigsUptoSaid : Prop := fnExactMulBigsUptoRow.holds Try.pinned (OpenSpec.upto fnExactMulBigsSpec)

/-- 'laws.FnExactFloorDiv', WHERE WHAT IT READS IS OF BULK AT MOST 1048576: true; the input reads as it did. -/
def fnExactFloorDivUptoRow : OpenClaim := { program := "ytijahllienkgiaa", sum := "4c4aaee37792d405aecc0494637166f1b0875c57a41d29aa7620d2e0f2fab706", func := "loop.example/g00742/laws.FnExactFloorDiv", spec := "fnExactFloorDiv", apart := false, narrowed := true }
def FnExactFloorDivUptoSaid : Prop := fnExactFloorDivUptoRow.holds Try.pinned (OpenSpec.upto fnExactFloorDivSpec)

/-- 'laws.FnExactCeilDiv', WHERE WHAT IT READS IS OF BULK AT MOST 1048576: true; the input reads as it did. -/
def fnExactCeilDivUptoRow : OpenClaim := { program := "ytijahllienkgiaa", sum := "4c4aaee37792d405aecc0494637166f1b0875c57a41d29aa7620d2e0f2fab706", func := "loop.example/g00742/laws.FnExactCeilDiv", spec := "fnExactCeilDiv", apart := false, narrowed := true }
def FnExactCeilDivUptoSaid : Prop := fnExactCeilDivUptoRow.holds Try.pinned (OpenSpec.upto fnExactCeilDivSpec)

/-- 'laws.FnExactFloorRoot', WHERE WHAT IT READS IS OF BULK AT MOST 1048576: true; the input reads as it did. -/
def fnExactFloorRootUptoRow : OpenClaim := { program := "ytijahllienkgiaa", sum := "4c4aaee37792d405aecc0494637166f1b0875c57a41d29aa7620d2e0f2fab706", func := "loop.example/g00742/laws.FnExactFloorRoot", spec := "fnExactFloorRoot", apart := false, narrowed := true }
def FnExactFloorRootUptoSaid : Prop := fnExactFloorRootUptoRow.holds Try.pinned (OpenSpec.upto fnExactFloorRootSpec)

/-- 'laws.FnExactCeilRoot', WHERE WHAT IT READS IS OF BULK AT MOST 1048576: true; the input reads as it did. -/
def fnExactCeilRootUptoRow : OpenClaim := { program := "ytijahllienkgiaa", sum := "4c4aaee37792d405aecc0494637166f1b0875c57a41d29aa7620d2e0f2fab706", func := "loop.example/g00742/laws.FnExactCeilRoot", spec := "fnExactCeilRoot", apart := false, narrowed := true }
def FnExactCeilRootUptoSaid : Prop := fnExactCeilRootUptoRow.holds Try.pinned (OpenSpec.upto fnExactCeilRootSpec)

/-- 'laws.FnExactCompareBigs', WHERE WHAT IT READS IS OF BULK AT MOST 1048576: true; the input reads as it did. -/
def fnExactCompareBigsUptoRow : OpenClaim := { program := "ytijahllienkgiaa", sum := "4c4aaee37792d405aecc0494637166f1b0875c57a41d29aa7620d2e0f2fab706", func := "loop.example/g00742/laws.FnExactCompareBigs", spec := "fnExactCompareBigs", apart := false, narrowed := true }
def FnExactCompareBigsUptoSaid : Prop := fnExactCompareBigsUptoRow.holds Try.pinned (OpenSpec.upto fnExactCompareBigsSpec)

/-- 'laws.FnExactBigText', WHERE WHAT IT READS IS OF BULK AT MOST 1048576: true; the input reads as it did. -/
def fnExactBigTextUptoRow : OpenClaim := { program := "ytijahllienkgiaa", sum := "4c4aaee37792d405aecc0494637166f1b0875c57a41d29aa7620d2e0f2fab706", func := "loop.example/g00742/laws.FnExactBigText", spec := "fnExactBigText", apart := false, narrowed := true }
def FnExactBigTextUptoSaid : Prop := fnExactBigTextUptoRow.holds Try.pinned (OpenSpec.upto fnExactBigTextSpec)

/-- 'laws.FnExactSameBigs', WHERE WHAT IT READS IS OF BULK AT MOST 1048576: true; the input reads as it did. -/
def fnExactSameBigsUptoRow : OpenClaim := { program := "ytijahllienkgiaa", sum := "4c4aaee37792d405aecc0494637166f1b0875c57a41d29aa7620d2e0f2fab706", func := "loop.example/g00742/laws.FnExactSameBigs", spec := "fnExactSameBigs", inPlace := ["internal/abi.NoEscape", "internal/bytealg.MakeNoZero"], apart := false, narrowed := true }
def FnExactSameBigsUptoSaid : Prop := fnExactSameBigsUptoRow.holds Try.pinned (OpenSpec.upto fnExactSameBigsSpec)

end Rows
end Go.Proofs.Ytijahllienkgiaa
