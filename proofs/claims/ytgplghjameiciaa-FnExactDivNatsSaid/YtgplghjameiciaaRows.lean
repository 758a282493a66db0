/-
  No cell of these rows narrows 'for every input' (looked for: loops, veiled, ifaces, maps, wideKeys, modest, calm, conditions, laid).
  DERIVED. THE GIVEN ROWS OF THIS SEAT. 13 by the template 'for every input the law returns true; each argument reads behind the call as it read before'; 0 by the template 'total and deterministic' (their statements: YtgplghjameiciaaTotals.lean).
  GIVEN WITH THE SEED: the statements are not yours to turn. If you find one false, say at which input.
  Laid BY PROGRAM, IN A SANDBOX (cutbox-rows.mjs): the forced cells as the released guide's own fill.sh prints them over the translation 8b3ad821b51e2a74… (all of the seat's roots in one cut). By AI agents, Wed Nov 11 2026. No macro, syntax, notation, axiom, sorry.
-/
import Derived.Test.YtgplghjameiciaaChecked
import GoSem.Claim
import GoSem.ClaimJoined
import GoSem.ClaimMapViews
import Derived.JoinedTies
import Derived.KernelRfl
namespace Go.Proofs.Ytgplghjameiciaa
/- THE CELL 'sum', in the pinned program and in every row, IS THE sha256 OF THE DUMP (.gsa) THAT YtgplghjameiciaaProg.lean LOADS. Nothing in Lean hashes anything: it is a label: what it is worth is what the hold of that sum in a sandbox is worth. -/
noncomputable def Try.pinned : Pinned := { name := "ytgplghjameiciaa", sum := "8b3ad821b51e2a7446b7c3fdfba7c5dd3666c9bc289abb8fda1115e1d281936c", checked := Try.checked }
namespace Rows
def none {H : Type} : Left H := { results := [], args := [] }

/-- 'laws.FnExactAddNats': WHATEVER THE INPUT: true; the input reads as it did. -/
def fnExactAddNatsSpec : ChangeSpec := { name := "fnExactAddNats", fn := fun _ => fun
  | [d1, d2] => { results := [.lit (.bool true)], args := [d1, d2] }
  | _ => none }
def fnExactAddNatsRow : OpenClaim := { program := "ytgplghjameiciaa", sum := "8b3ad821b51e2a7446b7c3fdfba7c5dd3666c9bc289abb8fda1115e1d281936c", func := "loop.example/g00742/laws.FnExactAddNats", spec := "fnExactAddNats", unfollowed := true, recurses := true, apart := false }
def FnExactAddNatsSaid : Prop := fnExactAddNatsRow.holds Try.pinned (OpenSpec.ofChange fnExactAddNatsSpec)

/-- ITS FALSE NEIGHBOUR: 'it returns false'. Refute it at one input. -/
def fnExactAddNatsWrong : ChangeSpec := { name := "fnExactAddNats", fn := fun _ => fun
  | [d1, d2] => { results := [.lit (.bool false)], args := [d1, d2] }
  | _ => none }
def FnExactAddNatsWrongFalsely : Prop := fnExactAddNatsRow.holds Try.pinned (OpenSpec.ofChange fnExactAddNatsWrong)

/-- 'laws.FnExactSubNats': WHATEVER THE INPUT: true; the input reads as it did. -/
def fnExactSubNatsSpec : ChangeSpec := { name := "fnExactSubNats", fn := fun _ => fun
  | [d1, d2] => { results := [.lit (.bool true)], args := [d1, d2] }
  | _ => none }
def fnExactSubNatsRow : OpenClaim := { program := "ytgplghjameiciaa", sum := "8b3ad821b51e2a7446b7c3fdfba7c5dd3666c9bc289abb8fda1115e1d281936c", func := "loop.example/g00742/laws.FnExactSubNats", spec := "fnExactSubNats", unfollowed := true, recurses := true, apart := false }
def FnExactSubNatsSaid : Prop := fnExactSubNatsRow.holds Try.pinned (OpenSpec.ofChange fnExactSubNatsSpec)

/-- ITS FALSE NEIGHBOUR: 'it returns false'. Refute it at one input. -/
def fnExactSubNatsWrong : ChangeSpec := { name := "fnExactSubNats", fn := fun _ => fun
  | [d1, d2] => { results := [.lit (.bool false)], args := [d1, d2] }
  | _ => none }
def FnExactSubNatsWrongFalsely : Prop := fnExactSubNatsRow.holds Try.pinned (OpenSpec.ofChange fnExactSubNatsWrong)

/-- 'laws.FnExactMulNats': WHATEVER THE INPUT: true; the input reads as it did. -/
def fnExactMulNatsSpec : ChangeSpec := { name := "fnExactMulNats", fn := fun _ => fun
  | [d1, d2] => { results := [.lit (.bool true)], args := [d1, d2] }
  | _ => none }
def fnExactMulNatsRow : OpenClaim := { program := "ytgplghjameiciaa", sum := "8b3ad821b51e2a7446b7c3fdfba7c5dd3666c9bc289abb8fda1115e1d281936c", func := "loop.example/g00742/laws.FnExactMulNats", spec := "fnExactMulNats", unfollowed := true, recurses := true, apart := false }
def FnExactMulNatsSaid : Prop := fnExactMulNatsRow.holds Try.pinned (OpenSpec.ofChange fnExactMulNatsSpec)

/-- ITS FALSE NEIGHBOUR: 'it returns false'. Refute it at one input. -/
def fnExactMulNatsWrong : ChangeSpec := { name := "fnExactMulNats", fn := fun _ => fun
  | [d1, d2] => { results := [.lit (.bool false)], args := [d1, d2] }
  | _ => none }
def FnExactMulNatsWrongFalsely : Prop := fnExactMulNatsRow.holds Try.pinned (OpenSpec.ofChange fnExactMulNatsWrong)

/-- 'laws.FnExactDivNats': WHATEVER THE INPUT: true; the input reads as it did. -/
def fnExactDivNatsSpec : ChangeSpec := { name := "fnExactDivNats", fn := fun _ => fun
  | [d1, d2] => { results := [.lit (.bool true)], args := [d1, d2] }
  | _ => none }
def fnExactDivNatsRow : OpenClaim := { program := "ytgplghjameiciaa", sum := "8b3ad821b51e2a7446b7c3fdfba7c5dd3666c9bc289abb8fda1115e1d281936c", func := "loop.example/g00742/laws.FnExactDivNats", spec := "fnExactDivNats", unfollowed := true, recurses := true, apart := false }
def FnExactDivNatsSaid : Prop := fnExactDivNatsRow.holds Try.pinned (OpenSpec.ofChange fnExactDivNatsSpec)

/-- ITS FALSE NEIGHBOUR: 'it returns false'. Refute it at one input. -/
def fnExactDivNatsWrong : ChangeSpec := { name := "fnExactDivNats", fn := fun _ => fun
  | [d1, d2] => { results := [.lit (.bool false)], args := [d1, d2] }
  | _ => none }
def FnExactDivNatsWrongFalsely : Prop := fnExactDivNatsRow.holds Try.pinned (OpenSpec.ofChange fnExactDivNatsWrong)

/-- 'laws.FnExactCompareNats': WHATEVER THE INPUT: true; the input reads as it did. -/
def fnExactCompareNatsSpec : ChangeSpec := { name := "fnExactCompareNats", fn := fun _ => fun
  | [d1, d2] => { results := [.lit (.bool true)], args := [d1, d2] }
  | _ => none }
def fnExactCompareNatsRow : OpenClaim := { program := "ytgplghjameiciaa", sum := "8b3ad821b51e2a7446b7c3fdfba7c5dd3666c9bc289abb8fda1115e1d281936c", func := "loop.example/g00742/laws.FnExactCompareNats", spec := "fnExactCompareNats", unfollowed := true, recurses := true, apart := false }
def FnExactCompareNatsSaid : Prop := fnExactCompareNatsRow.holds Try.pinned (OpenSpec.ofChange fnExactCompareNatsSpec)

/-- ITS FALSE NEIGHBOUR: 'it returns false'. Refute it at one input. -/
def fnExactCompareNatsWrong : ChangeSpec := { name := "fnExactCompareNats", fn := fun _ => fun
  | [d1, d2] => { results := [.lit (.bool false)], args := [d1, d2] }
  | _ => none }
def FnExactCompareNatsWrongFalsely : Prop := fnExactCompareNatsRow.holds Try.pinned (OpenSpec.ofChange fnExactCompareNatsWrong)

/-- 'laws.FnExactAddBigs': WHATEVER THE INPUT: true; the input reads as it did. -/
def fnExactAddBigsSpec : ChangeSpec := { name := "fnExactAddBigs", fn := fun _ => fun
  | [d1, d2] => { results := [.lit (.bool true)], args := [d1, d2] }
  | _ => none }
def fnExactAddBigsRow : OpenClaim := { program := "ytgplghjameiciaa", sum := "8b3ad821b51e2a7446b7c3fdfba7c5dd3666c9bc289abb8fda1115e1d281936c", func := "loop.example/g00742/laws.FnExactAddBigs", spec := "fnExactAddBigs", unfollowed := true, recurses := true, apart := false }
def FnExactAddBigsSaid : Prop := fnExactAddBigsRow.holds Try.pinned (OpenSpec.ofChange fnExactAddBigsSpec)

/-- ITS FALSE NEIGHBOUR: 'it returns false'. Refute it at one input. -/
def fnExactAddBigsWrong : ChangeSpec := { name := "fnExactAddBigs", fn := fun _ => fun
  | [d1, d2] => { results := [.lit (.bool false)], args := [d1, d2] }
  | _ => none }
def FnExactAddBigsWrongFalsely : Prop := fnExactAddBigsRow.holds Try.pinned (OpenSpec.ofChange fnExactAddBigsWrong)

/-- 'laws.FnExactSubBigs': WHATEVER THE INPUT: true; the input reads as it did. -/
def fnExactSubBigsSpec : ChangeSpec := { name := "fnExactSubBigs", fn := fun _ => fun
  | [d1, d2] => { results := [.lit (.bool true)], args := [d1, d2] }
  | _ => none }
def fnExactSubBigsRow : OpenClaim := { program := "ytgplghjameiciaa", sum := "8b3ad821b51e2a7446b7c3fdfba7c5dd3666c9bc289abb8fda1115e1d281936c", func := "loop.example/g00742/laws.FnExactSubBigs", spec := "fnExactSubBigs", unfollowed := true, recurses := true, apart := false }
def FnExactSubBigsSaid : Prop := fnExactSubBigsRow.holds Try.pinned (OpenSpec.ofChange fnExactSubBigsSpec)

/-- ITS FALSE NEIGHBOUR: 'it returns false'. Refute it at one input. -/
def fnExactSubBigsWrong : ChangeSpec := { name := "fnExactSubBigs", fn := fun _ => fun
  | [d1, d2] => { results := [.lit (.bool false)], args := [d1, d2] }
  | _ => none }
def FnExactSubBigsWrongFalsely : Prop := fnExactSubBigsRow.holds Try.pinned (OpenSpec.ofChange fnExactSubBigsWrong)

/-- 'laws.FnExactMulBigs': WHATEVER THE INPUT: true; the input reads as it did. -/
def fnExactMulBigsSpec : ChangeSpec := { name := "fnExactMulBigs", fn := fun _ => fun
  | [d1, d2] => { results := [.lit (.bool true)], args := [d1, d2] }
  | _ => none }
def fnExactMulBigsRow : OpenClaim := { program := "ytgplghjameiciaa", sum := "8b3ad821b51e2a7446b7c3fdfba7c5dd3666c9bc289abb8fda1115e1d281936c", func := "loop.example/g00742/laws.FnExactMulBigs", spec := "fnExactMulBigs", unfollowed := true, recurses := true, apart := false }
def FnExactMulBigsSaid : Prop := fnExactMulBigsRow.holds Try.pinned (OpenSpec.ofChange fnExactMulBigsSpec)

/-- ITS FALSE NEIGHBOUR: 'it returns false'. Refute it at one input. -/
def fnExactMulBigsWrong : ChangeSpec := { name := "fnExactMulBigs", fn := fun _ => fun
  | [d1, d2] => { results := [.lit (.bool false)], args := [d1, d2] }
  | _ => none }
def FnExactMulBigsWrongFalsely : Prop := fnExactMulBigsRow.holds Try.pinned (OpenSpec.ofChange fnExactMulBigsWrong)

/-- 'laws.FnExactCompareBigs': WHATEVER THE INPUT: true; the input reads as it did. -/
def fnExactCompareBigsSpec : ChangeSpec := { name := "fnExactCompareBigs", fn := fun _ => fun
  | [d1, d2] => { results := [.lit (.bool true)], args := [d1, d2] }
  | _ => none }
def fnExactCompareBigsRow : OpenClaim := { program := "ytgplghjameiciaa", sum := "8b3ad821b51e2a7446b7c3fdfba7c5dd3666c9bc289abb8fda1115e1d281936c", func := "loop.example/g00742/laws.FnExactCompareBigs", spec := "fnExactCompareBigs", unfollowed := true, recurses := true, apart := false }
def FnExactCompareBigsSaid : Prop := fnExactCompareBigsRow.holds Try.pinned (OpenSpec.ofChange fnExactCompareBigsSpec)

/-- ITS FALSE NEIGHBOUR: 'it returns false'. Refute it at one input. -/
def fnExactCompareBigsWrong : ChangeSpec := { name := "fnExactCompareBigs", fn := fun _ => fun
  | [d1, d2] => { results := [.lit (.bool false)], args := [d1, d2] }
  | _ => none }
def FnExactCompareBigsWrongFalsely : Prop := fnExactCompareBigsRow.holds Try.pinned (OpenSpec.ofChange fnExactCompareBigsWrong)

/-- 'laws.FnExactFloorDiv': WHATEVER THE INPUT: true; the input reads as it did. -/
def fnExactFloorDivSpec : ChangeSpec := { name := "fnExactFloorDiv", fn := fun _ => fun
  | [d1, d2] => { results := [.lit (.bool true)], args := [d1, d2] }
  | _ => none }
def fnExactFloorDivRow : OpenClaim := { program := "ytgplghjameiciaa", sum := "8b3ad821b51e2a7446b7c3fdfba7c5dd3666c9bc289abb8fda1115e1d281936c", func := "loop.example/g00742/laws.FnExactFloorDiv", spec := "fnExactFloorDiv", unfollowed := true, recurses := true, apart := false }
def FnExactFloorDivSaid : Prop := fnExactFloorDivRow.holds Try.pinned (OpenSpec.ofChange fnExactFloorDivSpec)

/-- ITS FALSE NEIGHBOUR: 'it returns false'. Refute it at one input. -/
def fnExactFloorDivWrong : ChangeSpec := { name := "fnExactFloorDiv", fn := fun _ => fun
  | [d1, d2] => { results := [.lit (.bool false)], args := [d1, d2] }
  | _ => none }
def FnExactFloorDivWrongFalsely : Prop := fnExactFloorDivRow.holds Try.pinned (OpenSpec.ofChange fnExactFloorDivWrong)

/-- 'laws.FnExactCeilDiv': WHATEVER THE INPUT: true; the input reads as it did. -/
def fnExactCeilDivSpec : ChangeSpec := { name := "fnExactCeilDiv", fn := fun _ => fun
  | [d1, d2] => { results := [.lit (.bool true)], args := [d1, d2] }
  | _ => none }
def fnExactCeilDivRow : OpenClaim := { program := "ytgplghjameiciaa", sum := "8b3ad821b51e2a7446b7c3fdfba7c5dd3666c9bc289abb8fda1115e1d281936c", func := "loop.example/g00742/laws.FnExactCeilDiv", spec := "fnExactCeilDiv", unfollowed := true, recurses := true, apart := false }
def FnExactCeilDivSaid : Prop := fnExactCeilDivRow.holds Try.pinned (OpenSpec.ofChange fnExactCeilDivSpec)

/-- ITS FALSE NEIGHBOUR: 'it returns false'. Refute it at one input. -/
def fnExactCeilDivWrong : ChangeSpec := { name := "fnExactCeilDiv", fn := fun _ => fun
  | [d1, d2] => { results := [.lit (.bool false)], args := [d1, d2] }
  | _ => none }
def FnExactCeilDivWrongFalsely : Prop := fnExactCeilDivRow.holds Try.pinned (OpenSpec.ofChange fnExactCeilDivWrong)

/-- 'laws.FnExactFloorRoot': WHATEVER THE INPUT: true; the input reads as it did. -/
def fnExactFloorRootSpec : ChangeSpec := { name := "fnExactFloorRoot", fn := fun _ => fun
  | [d] => { results := [.lit (.bool true)], args := [d] }
  | _ => none }
def fnExactFloorRootRow : OpenClaim := { program := "ytgplghjameiciaa", sum := "8b3ad821b51e2a7446b7c3fdfba7c5dd3666c9bc289abb8fda1115e1d281936c", func := "loop.example/g00742/laws.FnExactFloorRoot", spec := "fnExactFloorRoot", unfollowed := true, recurses := true, apart := false }
def FnExactFloorRootSaid : Prop := fnExactFloorRootRow.holds Try.pinned (OpenSpec.ofChange fnExactFloorRootSpec)

/-- ITS FALSE NEIGHBOUR: 'it returns false'. Refute it at one input. -/
def fnExactFloorRootWrong : ChangeSpec := { name := "fnExactFloorRoot", fn := fun _ => fun
  | [d] => { results := [.lit (.bool false)], args := [d] }
  | _ => none }
def FnExactFloorRootWrongFalsely : Prop := fnExactFloorRootRow.holds Try.pinned (OpenSpec.ofChange fnExactFloorRootWrong)

/-- 'laws.FnExactCeilRoot': WHATEVER THE INPUT: true; the input reads as it did. -/
def fnExactCeilRootSpec : ChangeSpec := { name := "fnExactCeilRoot", fn := fun _ => fun
  | [d] => { results := [.lit (.bool true)], args := [d] }
  | _ => none }
def fnExactCeilRootRow : OpenClaim := { program := "ytgplghjameiciaa", sum := "8b3ad821b51e2a7446b7c3fdfba7c5dd3666c9bc289abb8fda1115e1d281936c", func := "loop.example/g00742/laws.FnExactCeilRoot", spec := "fnExactCeilRoot", unfollowed := true, recurses := true, apart := false }
def FnExactCeilRootSaid : Prop := fnExactCeilRootRow.holds Try.pinned (OpenSpec.ofChange fnExactCeilRootSpec)

/-- ITS FALSE NEIGHBOUR: 'it returns false'. Refute it at one input. -/
def fnExactCeilRootWrong : ChangeSpec := { name := "fnExactCeilRoot", fn := fun _ => fun
  | [d] => { results := [.lit (.bool false)], args := [d] }
  | _ => none }
def FnExactCeilRootWrongFalsely : Prop := fnExactCeilRootRow.holds Try.pinned (OpenSpec.ofChange fnExactCeilRootWrong)

/- THE SECOND FORM. 'bulk': how many values and letters a reading holds, each counted each time it is reached (what is shared counts as often as it is met; a slice's spare places count too). A statement '..UptoSaid' is the law's where the arguments, and the package variables that the reading takes, are together of bulk at most 1048576: NARROWER than '..Said'. Prove '..Said' where nothing that the law and all that it calls make is longer than what came in: it says more and counts as full. Else prove '..UptoSaid'. A law counts once. -/
mutual
def uptoBulk {H : Type} : DataW H → Nat
  | .lit (.string bytes) => bytes.length + 1
  | .lit _ => 1
  | .nil => 1
  | .ptr d => uptoBulk d + 1
  | .slice elems spare => uptoBulkAll elems + uptoBulkAll spare + 1
  | .agg parts => uptoBulkAll parts + 1
  | .iface _ d => uptoBulk d + 1
  | .map entries => uptoBulkEntries entries + 1
  | .held _ => 1
def uptoBulkAll {H : Type} : List (DataW H) → Nat
  | [] => 0
  | d :: r => uptoBulk d + uptoBulkAll r
def uptoBulkEntries {H : Type} : List (Lit × DataW H) → Nat
  | [] => 0
  | x :: r => uptoBulkEntry x + uptoBulkEntries r
def uptoBulkEntry {H : Type} : Lit × DataW H → Nat
  | (.string bytes, d) => bytes.length + uptoBulk d + 1
  | (_, d) => uptoBulk d + 1
 end
def uptoSmall : (H : Type) → List (DataW H) → Bool := fun _ ds => decide (uptoBulkAll ds ≤ 1048576)
def OpenSpec.upto (s : _root_.Go.ChangeSpec) : _root_.Go.OpenSpec := { _root_.Go.OpenSpec.ofChange s with cond := some uptoSmall }

/-- 'laws.FnExactAddNats', WHERE WHAT IT READS IS OF BULK AT MOST 1048576: true; the input reads as it did. -/
def fnExactAddNatsUptoRow : OpenClaim := { program := "ytgplghjameiciaa", sum := "8b3ad821b51e2a7446b7c3fdfba7c5dd3666c9bc289abb8fda1115e1d281936c", func := "loop.example/g00742/laws.FnExactAddNats", spec := "fnExactAddNats", unfollowed := true, recurses := true, apart := false, narrowed := true }
def FnExactAddNatsUptoSaid : Prop := fnExactAddNatsUptoRow.holds Try.pinned (OpenSpec.upto fnExactAddNatsSpec)

/-- 'laws.FnExactSubNats', WHERE WHAT IT READS IS OF BULK AT MOST 1048576: true; the input reads as it did. -/
def fnExactSubNatsUptoRow : OpenClaim := { program := "ytgplghjameiciaa", sum := "8b3ad821b51e2a7446b7c3fdfba7c5dd3666c9bc289abb8fda1115e1d281936c", func := "loop.example/g00742/laws.FnExactSubNats", spec := "fnExactSubNats", unfollowed := true, recurses := true, apart := false, narrowed := true }
def FnExactSubNatsUptoSaid : Prop := fnExactSubNatsUptoRow.holds Try.pinned (OpenSpec.upto fnExactSubNatsSpec)

/-- 'laws.FnExactMulNats', WHERE WHAT IT READS IS OF BULK AT MOST 1048576: true; the input reads as it did. -/
def fnExactMulNatsUptoRow : OpenClaim := { program := "ytgplghjameiciaa", sum := "8b3ad821b51e2a7446b7c3fdfba7c5dd3666c9bc289abb8fda1115e1d281936c", func := "loop.example/g00742/laws.FnExactMulNats", spec := "fnExactMulNats", unfollowed := true, recurses := true, apart := false, narrowed := true }
def FnExactMulNatsUptoSaid : Prop := fnExactMulNatsUptoRow.holds Try.pinned (OpenSpec.upto fnExactMulNatsSpec)

/-- 'laws.FnExactDivNats', WHERE WHAT IT READS IS OF BULK AT MOST 1048576: true; the input reads as it did. -/
def fnExactDivNatsUptoRow : OpenClaim := { program := "ytgplghjameiciaa", sum := "8b3ad821b51e2a7446b7c3fdfba7c5dd3666c9bc289abb8fda1115e1d281936c", func := "loop.example/g00742/laws.FnExactDivNats", spec := "fnExactDivNats", unfollowed := true, recurses := true, apart := false, narrowed := true }
def FnExactDivNatsUptoSaid : Prop := fnExactDivNatsUptoRow.holds Try.pinned (OpenSpec.upto fnExactDivNatsSpec)

/-- 'laws.FnExactCompareNats', WHERE WHAT IT READS IS OF BULK AT MOST 1048576: true; the input reads as it did. -/
def fnExactCompareNatsUptoRow : OpenClaim := { program := "ytgplghjameiciaa", sum := "8b3ad821b51e2a7446b7c3fdfba7c5dd3666c9bc289abb8fda1115e1d281936c", func := "loop.example/g00742/laws.FnExactCompareNats", spec := "fnExactCompareNats", unfollowed := true, recurses := true, apart := false, narrowed := true }
def FnExactCompareNatsUptoSaid : Prop := fnExactCompareNatsUptoRow.holds Try.pinned (OpenSpec.upto fnExactCompareNatsSpec)

/-- 'laws.FnExactAddBigs', WHERE WHAT IT READS IS OF BULK AT MOST 1048576: true; the input reads as it did. -/
def fnExactAddBigsUptoRow : OpenClaim := { program := "ytgplghjameiciaa", sum := "8b3ad821b51e2a7446b7c3fdfba7c5dd3666c9bc289abb8fda1115e1d281936c", func := "loop.example/g00742/laws.FnExactAddBigs", spec := "fnExactAddBigs", unfollowed := true, recurses := true, apart := false, narrowed := true }
def FnExactAddBigsUptoSaid : Prop := fnExactAddBigsUptoRow.holds Try.pinned (OpenSpec.upto fnExactAddBigsSpec)

/-- 'laws.FnExactSubBigs', WHERE WHAT IT READS IS OF BULK AT MOST 1048576: true; the input reads as it did. -/
def fnExactSubBigsUptoRow : OpenClaim := { program := "ytgplghjameiciaa", sum := "8b3ad821b51e2a7446b7c3fdfba7c5dd3666c9bc289abb8fda1115e1d281936c", func := "loop.example/g00742/laws.FnExactSubBigs", spec := "fnExactSubBigs", unfollowed := true, recurses := true, apart := false, narrowed := true }
def FnExactSubBigsUptoSaid : Prop := fnExactSubBigsUptoRow.holds Try.pinned (OpenSpec.upto fnExactSubBigsSpec)

/-- 'laws.FnExactMulBigs', WHERE WHAT IT READS IS OF BULK AT MOST 1048576: true; the input reads as it did. -/
def fnExactMulBigsUptoRow : OpenClaim := { program := "ytgplghjameiciaa", sum := "8b3ad821b51e2a7446b7c3fdfba7c5dd3666c9bc289abb8fda1115e1d281936c", func := "loop.example/g00742/laws.FnExactMulBigs", spec := "fnExactMulBigs", unfollowed := true, recurses := true, apart := false, narrowed := true }
def FnExactMulBigsUptoSaid : Prop := fnExactMulBigsUptoRow.holds Try.pinned (OpenSpec.upto fnExactMulBigsSpec)

/-- 'laws.FnExactCompareBigs', WHERE WHAT IT READS IS OF BULK AT MOST 1048576: true; the input reads as it did. -/
def fnExactCompareBigsUptoRow : OpenClaim := { program := "ytgplghjameiciaa", sum := "8b3ad821b51e2a7446b7c3fdfba7c5dd3666c9bc289abb8fda1115e1d281936c", func := "loop.example/g00742/laws.FnExactCompareBigs", spec := "fnExactCompareBigs", unfollowed := true, recurses := true, apart := false, narrowed := true }
def FnExactCompareBigsUptoSaid : Prop := fnExactCompareBigsUptoRow.holds Try.pinned (OpenSpec.upto fnExactCompareBigsSpec)

/-- 'laws.FnExactFloorDiv', WHERE WHAT IT READS IS OF BULK AT MOST 1048576: true; the input reads as it did. -/
def fnExactFloorDivUptoRow : OpenClaim := { program := "ytgplghjameiciaa", sum := "8b3ad821b51e2a7446b7c3fdfba7c5dd3666c9bc289abb8fda1115e1d281936c", func := "loop.example/g00742/laws.FnExactFloorDiv", spec := "fnExactFloorDiv", unfollowed := true, recurses := true, apart := false, narrowed := true }
def FnExactFloorDivUptoSaid : Prop := fnExactFloorDivUptoRow.holds Try.pinned (OpenSpec.upto fnExactFloorDivSpec)

/-- 'laws.FnExactCeilDiv', WHERE WHAT IT READS IS OF BULK AT MOST 1048576: true; the input reads as it did. -/
def fnExactCeilDivUptoRow : OpenClaim := { program := "ytgplghjameiciaa", sum := "8b3ad821b51e2a7446b7c3fdfba7c5dd3666c9bc289abb8fda1115e1d281936c", func := "loop.example/g00742/laws.FnExactCeilDiv", spec := "fnExactCeilDiv", unfollowed := true, recurses := true, apart := false, narrowed := true }
def FnExactCeilDivUptoSaid : Prop := fnExactCeilDivUptoRow.holds Try.pinned (OpenSpec.upto fnExactCeilDivSpec)

/-- 'laws.FnExactFloorRoot', WHERE WHAT IT READS IS OF BULK AT MOST 1048576: true; the input reads as it did. -/
def fnExactFloorRootUptoRow : OpenClaim := { program := "ytgplghjameiciaa", sum := "8b3ad821b51e2a7446b7c3fdfba7c5dd3666c9bc289abb8fda1115e1d281936c", func := "loop.example/g00742/laws.FnExactFloorRoot", spec := "fnExactFloorRoot", unfollowed := true, recurses := true, apart := false, narrowed := true }
def FnExactFloorRootUptoSaid : Prop := fnExactFloorRootUptoRow.holds Try.pinned (OpenSpec.upto fnExactFloorRootSpec)

/-- 'laws.FnExactCeilRoot', WHERE WHAT IT READS IS OF BULK AT MOST 1048576: true; the input reads as it did. -/
def fnExactCeilRootUptoRow : OpenClaim := { program := "ytgplghjameiciaa", sum := "8b3ad821b51e2a7446b7c3fdfba7c5dd3666c9bc289abb8fda1115e1d281936c", func := "loop.example/g00742/laws.FnExactCeilRoot", spec := "fnExactCeilRoot", unfollowed := true, recurses := true, apart := false, narrowed := true }
def FnExactCeilRootUptoSaid : Prop := fnExactCeilRootUptoRow.holds Try.pinned (OpenSpec.upto fnExactCeilRootSpec)

end Rows
end Go.Proofs.Ytgplghjameiciaa
