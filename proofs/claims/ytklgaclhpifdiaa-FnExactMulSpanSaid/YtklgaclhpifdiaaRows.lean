/-
  No cell of these rows narrows 'for every input' (looked for: loops, veiled, ifaces, maps, wideKeys, modest, calm, conditions, laid).
  DERIVED. THE GIVEN ROWS OF THIS SEAT. 5 by the template 'for every input the law returns true; each argument reads behind the call as it read before'; 0 by the template 'total and deterministic' (their statements: YtklgaclhpifdiaaTotals.lean).
  GIVEN WITH THE SEED: the statements are not yours to turn. If you find one false, say at which input.
  Laid BY PROGRAM, IN A SANDBOX (cutbox-rows.mjs): the forced cells as the released guide's own fill.sh prints them over the translation ad46f8cb2ac4fc6a… (all of the seat's roots in one cut). By AI agents, Wed Nov 11 2026. No macro, syntax, notation, axiom, sorry.
-/
import Derived.Test.YtklgaclhpifdiaaChecked
import GoSem.Claim
import GoSem.ClaimJoined
import GoSem.ClaimMapViews
import Derived.JoinedTies
import Derived.KernelRfl
namespace Go.Proofs.Ytklgaclhpifdiaa
/- THE CELL 'sum', in the pinned program and in every row, IS THE sha256 OF THE DUMP (.gsa) THAT YtklgaclhpifdiaaProg.lean LOADS. Nothing in Lean hashes anything: it is a label: what it is worth is what the hold of that sum in a sandbox is worth. -/
noncomputable def Try.pinned : Pinned := { name := "ytklgaclhpifdiaa", sum := "ad46f8cb2ac4fc6a61955c90513267e9d0c2825a7876f11742d1e2a4ca591ed8", checked := Try.checked }
namespace Rows
def none {H : Type} : Left H := { results := [], args := [] }

/-- 'laws.FnExactMeetSpan': WHATEVER THE INPUT: true; the input reads as it did. -/
def fnExactMeetSpanSpec : ChangeSpec := { name := "fnExactMeetSpan", fn := fun _ => fun
  | [d1, d2] => { results := [.lit (.bool true)], args := [d1, d2] }
  | _ => none }
def fnExactMeetSpanRow : OpenClaim := { program := "ytklgaclhpifdiaa", sum := "ad46f8cb2ac4fc6a61955c90513267e9d0c2825a7876f11742d1e2a4ca591ed8", func := "loop.example/g00742/laws.FnExactMeetSpan", spec := "fnExactMeetSpan", unfollowed := true, recurses := true, apart := false }
def FnExactMeetSpanSaid : Prop := fnExactMeetSpanRow.holds Try.pinned (OpenSpec.ofChange fnExactMeetSpanSpec)

/-- ITS FALSE NEIGHBOUR: 'it returns false'. Refute it at one input. -/
def fnExactMeetSpanWrong : ChangeSpec := { name := "fnExactMeetSpan", fn := fun _ => fun
  | [d1, d2] => { results := [.lit (.bool false)], args := [d1, d2] }
  | _ => none }
def FnExactMeetSpanWrongFalsely : Prop := fnExactMeetSpanRow.holds Try.pinned (OpenSpec.ofChange fnExactMeetSpanWrong)

/-- 'laws.FnExactMulSpan': WHATEVER THE INPUT: true; the input reads as it did. -/
def fnExactMulSpanSpec : ChangeSpec := { name := "fnExactMulSpan", fn := fun _ => fun
  | [d1, d2, d3] => { results := [.lit (.bool true)], args := [d1, d2, d3] }
  | _ => none }
def fnExactMulSpanRow : OpenClaim := { program := "ytklgaclhpifdiaa", sum := "ad46f8cb2ac4fc6a61955c90513267e9d0c2825a7876f11742d1e2a4ca591ed8", func := "loop.example/g00742/laws.FnExactMulSpan", spec := "fnExactMulSpan", unfollowed := true, recurses := true, apart := false }
def FnExactMulSpanSaid : Prop := fnExactMulSpanRow.holds Try.pinned (OpenSpec.ofChange fnExactMulSpanSpec)

/-- ITS FALSE NEIGHBOUR: 'it returns false'. Refute it at one input. -/
def fnExactMulSpanWrong : ChangeSpec := { name := "fnExactMulSpan", fn := fun _ => fun
  | [d1, d2, d3] => { results := [.lit (.bool false)], args := [d1, d2, d3] }
  | _ => none }
def FnExactMulSpanWrongFalsely : Prop := fnExactMulSpanRow.holds Try.pinned (OpenSpec.ofChange fnExactMulSpanWrong)

/-- 'laws.FnExactSquareSpan': WHATEVER THE INPUT: true; the input reads as it did. -/
def fnExactSquareSpanSpec : ChangeSpec := { name := "fnExactSquareSpan", fn := fun _ => fun
  | [d1, d2] => { results := [.lit (.bool true)], args := [d1, d2] }
  | _ => none }
def fnExactSquareSpanRow : OpenClaim := { program := "ytklgaclhpifdiaa", sum := "ad46f8cb2ac4fc6a61955c90513267e9d0c2825a7876f11742d1e2a4ca591ed8", func := "loop.example/g00742/laws.FnExactSquareSpan", spec := "fnExactSquareSpan", unfollowed := true, recurses := true, apart := false }
def FnExactSquareSpanSaid : Prop := fnExactSquareSpanRow.holds Try.pinned (OpenSpec.ofChange fnExactSquareSpanSpec)

/-- ITS FALSE NEIGHBOUR: 'it returns false'. Refute it at one input. -/
def fnExactSquareSpanWrong : ChangeSpec := { name := "fnExactSquareSpan", fn := fun _ => fun
  | [d1, d2] => { results := [.lit (.bool false)], args := [d1, d2] }
  | _ => none }
def FnExactSquareSpanWrongFalsely : Prop := fnExactSquareSpanRow.holds Try.pinned (OpenSpec.ofChange fnExactSquareSpanWrong)

/-- 'laws.FnExactDivSpan': WHATEVER THE INPUT: true; the input reads as it did. -/
def fnExactDivSpanSpec : ChangeSpec := { name := "fnExactDivSpan", fn := fun _ => fun
  | [d1, d2, d3] => { results := [.lit (.bool true)], args := [d1, d2, d3] }
  | _ => none }
def fnExactDivSpanRow : OpenClaim := { program := "ytklgaclhpifdiaa", sum := "ad46f8cb2ac4fc6a61955c90513267e9d0c2825a7876f11742d1e2a4ca591ed8", func := "loop.example/g00742/laws.FnExactDivSpan", spec := "fnExactDivSpan", unfollowed := true, recurses := true, apart := false }
def FnExactDivSpanSaid : Prop := fnExactDivSpanRow.holds Try.pinned (OpenSpec.ofChange fnExactDivSpanSpec)

/-- ITS FALSE NEIGHBOUR: 'it returns false'. Refute it at one input. -/
def fnExactDivSpanWrong : ChangeSpec := { name := "fnExactDivSpan", fn := fun _ => fun
  | [d1, d2, d3] => { results := [.lit (.bool false)], args := [d1, d2, d3] }
  | _ => none }
def FnExactDivSpanWrongFalsely : Prop := fnExactDivSpanRow.holds Try.pinned (OpenSpec.ofChange fnExactDivSpanWrong)

/-- 'laws.FnExactOneSpan': WHATEVER THE INPUT: true; the input reads as it did. -/
def fnExactOneSpanSpec : ChangeSpec := { name := "fnExactOneSpan", fn := fun _ => fun
  | [d] => { results := [.lit (.bool true)], args := [d] }
  | _ => none }
def fnExactOneSpanRow : OpenClaim := { program := "ytklgaclhpifdiaa", sum := "ad46f8cb2ac4fc6a61955c90513267e9d0c2825a7876f11742d1e2a4ca591ed8", func := "loop.example/g00742/laws.FnExactOneSpan", spec := "fnExactOneSpan", apart := false }
def FnExactOneSpanSaid : Prop := fnExactOneSpanRow.holds Try.pinned (OpenSpec.ofChange fnExactOneSpanSpec)

/-- ITS FALSE NEIGHBOUR: 'it returns false'. Refute it at one input. -/
def fnExactOneSpanWrong : ChangeSpec := { name := "fnExactOneSpan", fn := fun _ => fun
  | [d] => { results := [.lit (.bool false)], args := [d] }
  | _ => none }
def FnExactOneSpanWrongFalsely : Prop := fnExactOneSpanRow.holds Try.pinned (OpenSpec.ofChange fnExactOneSpanWrong)

/- THE SECOND FORM. 'bulk': how many values and letters a reading holds, each counted each time it is reached (what is shared counts as often as it is met; a slice's spare places count too). A statement '..UptoSaid' is the law's where the arguments, and the package variables that the reading takes, are together of bulk at most 1048576: NARROWER than '..Said'. Prove '..Said' where nothing that the law and all that it calls make is longer than what came in: it says more and counts as full. Else prove '..UptoSaid'. A law counts once. -/
mutual
def uptoBulk {H : Type} : DataW H → Nat
  | .lit (.string bytes) => bytes.length + 1
  | .lit _ => 1
  | .nil => 1
  | .ptr d => uptoBulk d + 1
  | .slice elems spare => uptoBulkAll elems + uptoBulkAll spare + 1
  | .agg parts => uptoBulkAll parts + 1
  | .iface _ d => uptoBulk d + 1
  | .map entries => uptoBulkEntries entries + 1
  | .held _ => 1
def uptoBulkAll {H : Type} : List (DataW H) → Nat
  | [] => 0
  | d :: r => uptoBulk d + uptoBulkAll r
def uptoBulkEntries {H : Type} : List (Lit × DataW H) → Nat
  | [] => 0
  | x :: r => uptoBulkEntry x + uptoBulkEntries r
def uptoBulkEntry {H : Type} : Lit × DataW H → Nat
  | (.string bytes, d) => bytes.length + uptoBulk d + 1
  | (_, d) => uptoBulk d + 1
 end
def uptoSmall : (H : Type) → List (DataW H) → Bool := fun _ ds => decide (uptoBulkAll ds ≤ 1048576)
def OpenSpec.upto (s : _root_.Go.ChangeSpec) : _root_.Go.OpenSpec := { _root_.Go.OpenSpec.ofChange s with cond := some uptoSmall }

/-- 'laws.FnExactMeetSpan', WHERE WHAT IT READS IS OF BULK AT MOST 1048576: true; the input reads as it did. -/
def fnExactMeetSpanUptoRow : OpenClaim := { program := "ytklgaclhpifdiaa", sum := "ad46f8cb2ac4fc6a61955c90513267e9d0c2825a7876f11742d1e2a4ca591ed8", func := "loop.example/g00742/laws.FnExactMeetSpan", spec := "fnExactMeetSpan", unfollowed := true, recurses := true, apart := false, narrowed := true }
def FnExactMeetSpanUptoSaid : Prop := fnExactMeetSpanUptoRow.holds Try.pinned (OpenSpec.upto fnExactMeetSpanSpec)

/-- 'laws.FnExactMulSpan', WHERE WHAT IT READS IS OF BULK AT MOST 1048576: true; the input reads as it did. -/
def fnExactMulSpanUptoRow : OpenClaim := { program := "ytklgaclhpifdiaa", sum := "ad46f8cb2ac4fc6a61955c90513267e9d0c2825a7876f11742d1e2a4ca591ed8", func := "loop.example/g00742/laws.FnExactMulSpan", spec := "fnExactMulSpan", unfollowed := true, recurses := true, apart := false, narrowed := true }
def FnExactMulSpanUptoSaid : Prop := fnExactMulSpanUptoRow.holds Try.pinned (OpenSpec.upto fnExactMulSpanSpec)

/-- 'laws.FnExactSquareSpan', WHERE WHAT IT READS IS OF BULK AT MOST 1048576: true; the input reads as it did. -/
def fnExactSquareSpanUptoRow : OpenClaim := { program := "ytklgaclhpifdiaa", sum := "ad46f8cb2ac4fc6a61955c90513267e9d0c2825a7876f11742d1e2a4ca591ed8", func := "loop.example/g00742/laws.FnExactSquareSpan", spec := "fnExactSquareSpan", unfollowed := true, recurses := true, apart := false, narrowed := true }
def FnExactSquareSpanUptoSaid : Prop := fnExactSquareSpanUptoRow.holds Try.pinned (OpenSpec.upto fnExactSquareSpanSpec)

/-- 'laws.FnExactDivSpan', WHERE WHAT IT READS IS OF BULK AT MOST 1048576: true; the input reads as it did. -/
def fnExactDivSpanUptoRow : OpenClaim := { program := "ytklgaclhpifdiaa", sum := "ad46f8cb2ac4fc6a61955c90513267e9d0c2825a7876f11742d1e2a4ca591ed8", func := "loop.example/g00742/laws.FnExactDivSpan", spec := "fnExactDivSpan", unfollowed := true, recurses := true, apart := false, narrowed := true }
def FnExactDivSpanUptoSaid : Prop := fnExactDivSpanUptoRow.holds Try.pinned (OpenSpec.upto fnExactDivSpanSpec)

/-- 'laws.FnExactOneSpan', WHERE WHAT IT READS IS OF BULK AT MOST 1048576: true; the input reads as it did. -/
def fnExactOneSpanUptoRow : OpenClaim := { program := "ytklgaclhpifdiaa", sum := "ad46f8cb2ac4fc6a61955c90513267e9d0c2825a7876f11742d1e2a4ca591ed8", func := "loop.example/g00742/laws.FnExactOneSpan", spec := "fnExactOneSpan", apart := false, narrowed := true }
def FnExactOneSpanUptoSaid : Prop := fnExactOneSpanUptoRow.holds Try.pinned (OpenSpec.upto fnExactOneSpanSpec)

end Rows
end Go.Proofs.Ytklgaclhpifdiaa
