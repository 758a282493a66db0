/-
  No cell of these rows narrows 'for every input' (looked for: loops, veiled, ifaces, maps, wideKeys, modest, calm, conditions, laid).
  DERIVED. THE GIVEN ROWS OF THIS SEAT. 4 by the template 'for every input the law returns true; each argument reads behind the call as it read before'; 0 by the template 'total and deterministic' (their statements: YtledbpiaipmgkaaTotals.lean).
  GIVEN WITH THE SEED: the statements are not yours to turn. If you find one false, say at which input.
  Laid BY PROGRAM, IN A SANDBOX (cutbox-rows.mjs): the forced cells as the released guide's own fill.sh prints them over the translation b87e6fe5602fdc40… (all of the seat's roots in one cut). By AI agents, Wed Nov 11 2026. No macro, syntax, notation, axiom, sorry.
-/
import Derived.Test.YtledbpiaipmgkaaChecked
import GoSem.Claim
import GoSem.ClaimJoined
import GoSem.ClaimMapViews
import Derived.JoinedTies
import Derived.KernelRfl
namespace Go.Proofs.Ytledbpiaipmgkaa
/- THE CELL 'sum', in the pinned program and in every row, IS THE sha256 OF THE DUMP (.gsa) THAT YtledbpiaipmgkaaProg.lean LOADS. Nothing in Lean hashes anything: it is a label: what it is worth is what the hold of that sum in a sandbox is worth. -/
noncomputable def Try.pinned : Pinned := { name := "ytledbpiaipmgkaa", sum := "b87e6fe5602fdc4056a85c5ce7d19ca95c2796bb272df47b3d615b25b5f0cd8c", checked := Try.checked }
namespace Rows
def none {H : Type} : Left H := { results := [], args := [] }

/-- 'laws.FnNats': WHATEVER THE INPUT: true; the input reads as it did. -/
def fnNatsSpec : ChangeSpec := { name := "fnNats", fn := fun _ => fun
  | [d] => { results := [.lit (.bool true)], args := [d] }
  | _ => none }
def fnNatsRow : OpenClaim := { program := "ytledbpiaipmgkaa", sum := "b87e6fe5602fdc4056a85c5ce7d19ca95c2796bb272df47b3d615b25b5f0cd8c", func := "loop.example/g00742/laws.FnNats", spec := "fnNats", unfollowed := true, recurses := true, apart := false }
def FnNatsSaid : Prop := fnNatsRow.holds Try.pinned (OpenSpec.ofChange fnNatsSpec)

/-- ITS FALSE NEIGHBOUR: 'it returns false'. Refute it at one input. -/
def fnNatsWrong : ChangeSpec := { name := "fnNats", fn := fun _ => fun
  | [d] => { results := [.lit (.bool false)], args := [d] }
  | _ => none }
def FnNatsWrongFalsely : Prop := fnNatsRow.holds Try.pinned (OpenSpec.ofChange fnNatsWrong)

/-- 'laws.FnDivs': WHATEVER THE INPUT: true; the input reads as it did. -/
def fnDivsSpec : ChangeSpec := { name := "fnDivs", fn := fun _ => fun
  | [d] => { results := [.lit (.bool true)], args := [d] }
  | _ => none }
def fnDivsRow : OpenClaim := { program := "ytledbpiaipmgkaa", sum := "b87e6fe5602fdc4056a85c5ce7d19ca95c2796bb272df47b3d615b25b5f0cd8c", func := "loop.example/g00742/laws.FnDivs", spec := "fnDivs", unfollowed := true, recurses := true, apart := false }
def FnDivsSaid : Prop := fnDivsRow.holds Try.pinned (OpenSpec.ofChange fnDivsSpec)

/-- ITS FALSE NEIGHBOUR: 'it returns false'. Refute it at one input. -/
def fnDivsWrong : ChangeSpec := { name := "fnDivs", fn := fun _ => fun
  | [d] => { results := [.lit (.bool false)], args := [d] }
  | _ => none }
def FnDivsWrongFalsely : Prop := fnDivsRow.holds Try.pinned (OpenSpec.ofChange fnDivsWrong)

/-- 'laws.FnExactThreeOf': WHATEVER THE INPUT: true; the input reads as it did. -/
def fnExactThreeOfSpec : ChangeSpec := { name := "fnExactThreeOf", fn := fun _ => fun
  | [d1, d2] => { results := [.lit (.bool true)], args := [d1, d2] }
  | _ => none }
def fnExactThreeOfRow : OpenClaim := { program := "ytledbpiaipmgkaa", sum := "b87e6fe5602fdc4056a85c5ce7d19ca95c2796bb272df47b3d615b25b5f0cd8c", func := "loop.example/g00742/laws.FnExactThreeOf", spec := "fnExactThreeOf", apart := false }
def FnExactThreeOfSaid : Prop := fnExactThreeOfRow.holds Try.pinned (OpenSpec.ofChange fnExactThreeOfSpec)

/-- ITS FALSE NEIGHBOUR: 'it returns false'. Refute it at one input. -/
def fnExactThreeOfWrong : ChangeSpec := { name := "fnExactThreeOf", fn := fun _ => fun
  | [d1, d2] => { results := [.lit (.bool false)], args := [d1, d2] }
  | _ => none }
def FnExactThreeOfWrongFalsely : Prop := fnExactThreeOfRow.holds Try.pinned (OpenSpec.ofChange fnExactThreeOfWrong)

/-- 'laws.FnExactAskText': WHATEVER THE INPUT: true; the input reads as it did. -/
def fnExactAskTextSpec : ChangeSpec := { name := "fnExactAskText", fn := fun _ => fun
  | [d] => { results := [.lit (.bool true)], args := [d] }
  | _ => none }
def fnExactAskTextRow : OpenClaim := { program := "ytledbpiaipmgkaa", sum := "b87e6fe5602fdc4056a85c5ce7d19ca95c2796bb272df47b3d615b25b5f0cd8c", func := "loop.example/g00742/laws.FnExactAskText", spec := "fnExactAskText", apart := false }
def FnExactAskTextSaid : Prop := fnExactAskTextRow.holds Try.pinned (OpenSpec.ofChange fnExactAskTextSpec)

/-- ITS FALSE NEIGHBOUR: 'it returns false'. Refute it at one input. -/
def fnExactAskTextWrong : ChangeSpec := { name := "fnExactAskText", fn := fun _ => fun
  | [d] => { results := [.lit (.bool false)], args := [d] }
  | _ => none }
def FnExactAskTextWrongFalsely : Prop := fnExactAskTextRow.holds Try.pinned (OpenSpec.ofChange fnExactAskTextWrong)

/- THE SECOND FORM. 'bulk': how many values and letters a reading holds, each counted each time it is reached (what is shared counts as often as it is met; a slice's spare places count too). A statement '..UptoSaid' is the law's where the arguments, and the package variables that the reading takes, are together of bulk at most 1048576: NARROWER than '..Said'. Prove '..Said' where nothing that the law and all that it calls make is longer than what came in: it says more and counts as full. Else prove '..UptoSaid'. A law counts once. -/
mutual
def uptoBulk {H : Type} : DataW H → Nat
  | .lit (.string bytes) => bytes.length + 1
  | .lit _ => 1
  | .nil => 1
  | .ptr d => uptoBulk d + 1
  | .slice elems spare => uptoBulkAll elems + uptoBulkAll spare + 1
  | .agg parts => uptoBulkAll parts + 1
  | .iface _ d => uptoBulk d + 1
  | .map entries => uptoBulkEntries entries + 1
  | .held _ => 1
def uptoBulkAll {H : Type} : List (DataW H) → Nat
  | [] => 0
  | d :: r => uptoBulk d + uptoBulkAll r
def uptoBulkEntries {H : Type} : List (Lit × DataW H) → Nat
  | [] => 0
  | x :: r => uptoBulkEntry x + uptoBulkEntries r
def uptoBulkEntry {H : Type} : Lit × DataW H → Nat
  | (.string bytes, d) => bytes.length + uptoBulk d + 1
  | (_, d) => uptoBulk d + 1
 end
def uptoSmall : (H : Type) → List (DataW H) → Bool := fun _ ds => decide (uptoBulkAll ds ≤ 1048576)
def OpenSpec.upto (s : _root_.Go.ChangeSpec) : _root_.Go.OpenSpec := { _root_.Go.OpenSpec.ofChange s with cond := some uptoSmall }

/-- 'laws.FnNats', WHERE WHAT IT READS IS OF BULK AT MOST 1048576: true; the input reads as it did. -/
def fnNatsUptoRow : OpenClaim := { program := "ytledbpiaipmgkaa", sum := "b87e6fe5602fdc4056a85c5ce7d19ca95c2796bb272df47b3d615b25b5f0cd8c", func := "loop.example/g00742/laws.FnNats", spec := "fnNats", unfollowed := true, recurses := true, apart := false, narrowed := true }
def FnNatsUptoSaid : Prop := fnNatsUptoRow.holds Try.pinned (OpenSpec.upto fnNatsSpec)

/-- 'laws.FnDivs', WHERE WHAT IT READS IS OF BULK AT MOST 1048576: true; the input reads as it did. -/
def fnDivsUptoRow : OpenClaim := { program := "ytledbpiaipmgkaa", sum := "b87e6fe5602fdc4056a85c5ce7d19ca95c2796bb272df47b3d615b25b5f0cd8c", func := "loop.example/g00742/laws.FnDivs", spec := "fnDivs", unfollowed := true, recurses := true, apart := false, narrowed := true }
def FnDivsUptoSaid : Prop := fnDivsUptoRow.holds Try.pinned (OpenSpec.upto fnDivsSpec)

/-- 'laws.FnExactThreeOf', WHERE WHAT IT READS IS OF BULK AT MOST 1048576: true; the input reads as it did. -/
def fnExactThreeOfUptoRow : OpenClaim := { program := "ytledbpiaipmgkaa", sum := "b87e6fe5602fdc4056a85c5ce7d19ca95c2796bb272df47b3d615b25b5f0cd8c", func := "loop.example/g00742/laws.FnExactThreeOf", spec := "fnExactThreeOf", apart := false, narrowed := true }
def FnExactThreeOfUptoSaid : Prop := fnExactThreeOfUptoRow.holds Try.pinned (OpenSpec.upto fnExactThreeOfSpec)

/-- 'laws.FnExactAskText', WHERE WHAT IT READS IS OF BULK AT MOST 1048576: true; the input reads as it did. -/
def fnExactAskTextUptoRow : OpenClaim := { program := "ytledbpiaipmgkaa", sum := "b87e6fe5602fdc4056a85c5ce7d19ca95c2796bb272df47b3d615b25b5f0cd8c", func := "loop.example/g00742/laws.FnExactAskText", spec := "fnExactAskText", apart := false, narrowed := true }
def FnExactAskTextUptoSaid : Prop := fnExactAskTextUptoRow.holds Try.pinned (OpenSpec.upto fnExactAskTextSpec)

end Rows
end Go.Proofs.Ytledbpiaipmgkaa
