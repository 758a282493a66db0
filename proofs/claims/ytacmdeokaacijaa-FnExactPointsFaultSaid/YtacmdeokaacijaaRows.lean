/-
  No cell of these rows narrows 'for every input' (looked for: loops, veiled, ifaces, maps, wideKeys, modest, calm, conditions, laid).
  DERIVED. THE GIVEN ROWS OF THIS SEAT. 2 by the template 'for every input the law returns true; each argument reads behind the call as it read before'; 0 by the template 'total and deterministic' (their statements: YtacmdeokaacijaaTotals.lean).
  GIVEN WITH THE SEED: the statements are not yours to turn. If you find one false, say at which input.
  Laid BY PROGRAM, IN A SANDBOX (cutbox-rows.mjs): the forced cells as the released guide's own fill.sh prints them over the translation 0ba085d768ba464e… (all of the seat's roots in one cut). By AI agents, Wed Nov 11 2026. No macro, syntax, notation, axiom, sorry.
-/
import Derived.Test.YtacmdeokaacijaaChecked
import GoSem.Claim
import GoSem.ClaimJoined
import GoSem.ClaimMapViews
import Derived.JoinedTies
import Derived.KernelRfl
namespace Go.Proofs.Ytacmdeokaacijaa
/- THE CELL 'sum', in the pinned program and in every row, IS THE sha256 OF THE DUMP (.gsa) THAT YtacmdeokaacijaaProg.lean LOADS. Nothing in Lean hashes anything: it is a label: what it is worth is what the hold of that sum in a sandbox is worth. -/
noncomputable def Try.pinned : Pinned := { name := "ytacmdeokaacijaa", sum := "0ba085d768ba464e8ef4978b9f72898cd0c2ec2be95c1965444ac74d88c3fef5", checked := Try.checked }
namespace Rows
def none {H : Type} : Left H := { results := [], args := [] }

/-- 'laws.FnExactIsInRange': WHATEVER THE INPUT: true; the input reads as it did. -/
def fnExactIsInRangeSpec : ChangeSpec := { name := "fnExactIsInRange", fn := fun _ => fun
  | [d1, d2] => { results := [.lit (.bool true)], args := [d1, d2] }
  | _ => none }
def fnExactIsInRangeRow : OpenClaim := { program := "ytacmdeokaacijaa", sum := "0ba085d768ba464e8ef4978b9f72898cd0c2ec2be95c1965444ac74d88c3fef5", func := "loop.example/g00742/laws.FnExactIsInRange", spec := "fnExactIsInRange", apart := false }
def FnExactIsInRangeSaid : Prop := fnExactIsInRangeRow.holds Try.pinned (OpenSpec.ofChange fnExactIsInRangeSpec)

/-- ITS FALSE NEIGHBOUR: 'it returns false'. Refute it at one input. -/
def fnExactIsInRangeWrong : ChangeSpec := { name := "fnExactIsInRange", fn := fun _ => fun
  | [d1, d2] => { results := [.lit (.bool false)], args := [d1, d2] }
  | _ => none }
def FnExactIsInRangeWrongFalsely : Prop := fnExactIsInRangeRow.holds Try.pinned (OpenSpec.ofChange fnExactIsInRangeWrong)

/-- 'laws.FnExactPointsFault': WHATEVER THE INPUT: true; the input reads as it did. -/
def fnExactPointsFaultSpec : ChangeSpec := { name := "fnExactPointsFault", fn := fun _ => fun
  | [d] => { results := [.lit (.bool true)], args := [d] }
  | _ => none }
def fnExactPointsFaultRow : OpenClaim := { program := "ytacmdeokaacijaa", sum := "0ba085d768ba464e8ef4978b9f72898cd0c2ec2be95c1965444ac74d88c3fef5", func := "loop.example/g00742/laws.FnExactPointsFault", spec := "fnExactPointsFault", unfollowed := true, recurses := true, apart := false }
def FnExactPointsFaultSaid : Prop := fnExactPointsFaultRow.holds Try.pinned (OpenSpec.ofChange fnExactPointsFaultSpec)

/-- ITS FALSE NEIGHBOUR: 'it returns false'. Refute it at one input. -/
def fnExactPointsFaultWrong : ChangeSpec := { name := "fnExactPointsFault", fn := fun _ => fun
  | [d] => { results := [.lit (.bool false)], args := [d] }
  | _ => none }
def FnExactPointsFaultWrongFalsely : Prop := fnExactPointsFaultRow.holds Try.pinned (OpenSpec.ofChange fnExactPointsFaultWrong)

/- THE SECOND FORM. 'bulk': how many values and letters a reading holds, each counted each time it is reached (what is shared counts as often as it is met; a slice's spare places count too). A statement '..UptoSaid' is the law's where the arguments, and the package variables that the reading takes, are together of bulk at most 1048576: NARROWER than '..Said'. Prove '..Said' where nothing that the law and all that it calls make is longer than what came in: it says more and counts as full. Else prove '..UptoSaid'. A law counts once. -/
mutual
def uptoBulk {H : Type} : DataW H → Nat
  | .lit (.string bytes) => bytes.length + 1
  | .lit _ => 1
  | .nil => 1
  | .ptr d => uptoBulk d + 1
  | .slice elems spare => uptoBulkAll elems + uptoBulkAll spare + 1
  | .agg parts => uptoBulkAll parts + 1
  | .iface _ d => uptoBulk d + 1
  | .map entries => uptoBulkEntries entries + 1
  | .held _ => 1
def uptoBulkAll {H : Type} : List (DataW H) → Nat
  | [] => 0
  | d :: r => uptoBulk d + uptoBulkAll r
def uptoBulkEntries {H : Type} : List (Lit × DataW H) → Nat
  | [] => 0
  | x :: r => uptoBulkEntry x + uptoBulkEntries r
def uptoBulkEntry {H : Type} : Lit × DataW H → Nat
  | (.string bytes, d) => bytes.length + uptoBulk d + 1
  | (_, d) => uptoBulk d + 1
 end
def uptoSmall : (H : Type) → List (DataW H) → Bool := fun _ ds => decide (uptoBulkAll ds ≤ 1048576)
def OpenSpec.upto (s : _root_.Go.ChangeSpec) : _root_.Go.OpenSpec := { _root_.Go.OpenSpec.ofChange s with cond := some uptoSmall }

/-- 'laws.FnExactIsInRange', WHERE WHAT IT READS IS OF BULK AT MOST 1048576: true; the input reads as it did. -/
def fnExactIsInRangeUptoRow : OpenClaim := { program := "ytacmdeokaacijaa", sum := "0ba085d768ba464e8ef4978b9f72898cd0c2ec2be95c1965444ac74d88c3fef5", func := "loop.example/g00742/laws.FnExactIsInRange", spec := "fnExactIsInRange", apart := false, narrowed := true }
def FnExactIsInRangeUptoSaid : Prop := fnExactIsInRangeUptoRow.holds Try.pinned (OpenSpec.upto fnExactIsInRangeSpec)

/-- 'laws.FnExactPointsFault', WHERE WHAT IT READS IS OF BULK AT MOST 1048576: true; the input reads as it did. -/
def fnExactPointsFaultUptoRow : OpenClaim := { program := "ytacmdeokaacijaa", sum := "0ba085d768ba464e8ef4978b9f72898cd0c2ec2be95c1965444ac74d88c3fef5", func := "loop.example/g00742/laws.FnExactPointsFault", spec := "fnExactPointsFault", unfollowed := true, recurses := true, apart := false, narrowed := true }
def FnExactPointsFaultUptoSaid : Prop := fnExactPointsFaultUptoRow.holds Try.pinned (OpenSpec.upto fnExactPointsFaultSpec)

end Rows
end Go.Proofs.Ytacmdeokaacijaa
