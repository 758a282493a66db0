/-
  No cell of these rows narrows 'for every input' (looked for: loops, veiled, ifaces, maps, wideKeys, modest, calm, conditions, laid).
  DERIVED. THE GIVEN ROWS OF THIS SEAT. 12 by the template 'for every input the law returns true; each argument reads behind the call as it read before'; 0 by the template 'total and deterministic' (their statements: YtjndjjdffifgcaaTotals.lean).
  GIVEN WITH THE SEED: the statements are not yours to turn. If you find one false, say at which input.
  Laid BY PROGRAM, IN A SANDBOX (cutbox-rows.mjs): the forced cells as the released guide's own fill.sh prints them over the translation ba5bc324709e6967… (all of the seat's roots in one cut). By AI agents, Wed Nov 11 2026. No macro, syntax, notation, axiom, sorry.
-/
import Derived.Test.YtjndjjdffifgcaaChecked
import GoSem.Claim
import GoSem.ClaimJoined
import GoSem.ClaimMapViews
import Derived.JoinedTies
import Derived.KernelRfl
namespace Go.Proofs.Ytjndjjdffifgcaa
/- THE CELL 'sum', in the pinned program and in every row, IS THE sha256 OF THE DUMP (.gsa) THAT YtjndjjdffifgcaaProg.lean LOADS. Nothing in Lean hashes anything: it is a label: what it is worth is what the hold of that sum in a sandbox is worth. -/
noncomputable def Try.pinned : Pinned := { name := "ytjndjjdffifgcaa", sum := "ba5bc324709e696731719edf7bb59c9bb1bd3e68dab9ecb1044e74198b51636f", checked := Try.checked }
namespace Rows
def none {H : Type} : Left H := { results := [], args := [] }

/-- 'laws.FnExactSpanFault': WHATEVER THE INPUT: true; the input reads as it did. -/
def fnExactSpanFaultSpec : ChangeSpec := { name := "fnExactSpanFault", fn := fun _ => fun
  | [d] => { results := [.lit (.bool true)], args := [d] }
  | _ => none }
def fnExactSpanFaultRow : OpenClaim := { program := "ytjndjjdffifgcaa", sum := "ba5bc324709e696731719edf7bb59c9bb1bd3e68dab9ecb1044e74198b51636f", func := "loop.example/g00742/laws.FnExactSpanFault", spec := "fnExactSpanFault", apart := false }
def FnExactSpanFaultSaid : Prop := fnExactSpanFaultRow.holds Try.pinned (OpenSpec.ofChange fnExactSpanFaultSpec)

/-- ITS FALSE NEIGHBOUR: 'it returns false'. Refute it at one input. -/
def fnExactSpanFaultWrong : ChangeSpec := { name := "fnExactSpanFault", fn := fun _ => fun
  | [d] => { results := [.lit (.bool false)], args := [d] }
  | _ => none }
def FnExactSpanFaultWrongFalsely : Prop := fnExactSpanFaultRow.holds Try.pinned (OpenSpec.ofChange fnExactSpanFaultWrong)

/-- 'laws.FnExactOrderSpan': WHATEVER THE INPUT: true; the input reads as it did. -/
def fnExactOrderSpanSpec : ChangeSpec := { name := "fnExactOrderSpan", fn := fun _ => fun
  | [d1, d2] => { results := [.lit (.bool true)], args := [d1, d2] }
  | _ => none }
def fnExactOrderSpanRow : OpenClaim := { program := "ytjndjjdffifgcaa", sum := "ba5bc324709e696731719edf7bb59c9bb1bd3e68dab9ecb1044e74198b51636f", func := "loop.example/g00742/laws.FnExactOrderSpan", spec := "fnExactOrderSpan", apart := false }
def FnExactOrderSpanSaid : Prop := fnExactOrderSpanRow.holds Try.pinned (OpenSpec.ofChange fnExactOrderSpanSpec)

/-- ITS FALSE NEIGHBOUR: 'it returns false'. Refute it at one input. -/
def fnExactOrderSpanWrong : ChangeSpec := { name := "fnExactOrderSpan", fn := fun _ => fun
  | [d1, d2] => { results := [.lit (.bool false)], args := [d1, d2] }
  | _ => none }
def FnExactOrderSpanWrongFalsely : Prop := fnExactOrderSpanRow.holds Try.pinned (OpenSpec.ofChange fnExactOrderSpanWrong)

/-- 'laws.FnExactIsWithin': WHATEVER THE INPUT: true; the input reads as it did. -/
def fnExactIsWithinSpec : ChangeSpec := { name := "fnExactIsWithin", fn := fun _ => fun
  | [d1, d2] => { results := [.lit (.bool true)], args := [d1, d2] }
  | _ => none }
def fnExactIsWithinRow : OpenClaim := { program := "ytjndjjdffifgcaa", sum := "ba5bc324709e696731719edf7bb59c9bb1bd3e68dab9ecb1044e74198b51636f", func := "loop.example/g00742/laws.FnExactIsWithin", spec := "fnExactIsWithin", apart := false }
def FnExactIsWithinSaid : Prop := fnExactIsWithinRow.holds Try.pinned (OpenSpec.ofChange fnExactIsWithinSpec)

/-- ITS FALSE NEIGHBOUR: 'it returns false'. Refute it at one input. -/
def fnExactIsWithinWrong : ChangeSpec := { name := "fnExactIsWithin", fn := fun _ => fun
  | [d1, d2] => { results := [.lit (.bool false)], args := [d1, d2] }
  | _ => none }
def FnExactIsWithinWrongFalsely : Prop := fnExactIsWithinRow.holds Try.pinned (OpenSpec.ofChange fnExactIsWithinWrong)

/-- 'laws.FnExactAddSpan': WHATEVER THE INPUT: true; the input reads as it did. -/
def fnExactAddSpanSpec : ChangeSpec := { name := "fnExactAddSpan", fn := fun _ => fun
  | [d1, d2] => { results := [.lit (.bool true)], args := [d1, d2] }
  | _ => none }
def fnExactAddSpanRow : OpenClaim := { program := "ytjndjjdffifgcaa", sum := "ba5bc324709e696731719edf7bb59c9bb1bd3e68dab9ecb1044e74198b51636f", func := "loop.example/g00742/laws.FnExactAddSpan", spec := "fnExactAddSpan", apart := false }
def FnExactAddSpanSaid : Prop := fnExactAddSpanRow.holds Try.pinned (OpenSpec.ofChange fnExactAddSpanSpec)

/-- ITS FALSE NEIGHBOUR: 'it returns false'. Refute it at one input. -/
def fnExactAddSpanWrong : ChangeSpec := { name := "fnExactAddSpan", fn := fun _ => fun
  | [d1, d2] => { results := [.lit (.bool false)], args := [d1, d2] }
  | _ => none }
def FnExactAddSpanWrongFalsely : Prop := fnExactAddSpanRow.holds Try.pinned (OpenSpec.ofChange fnExactAddSpanWrong)

/-- 'laws.FnExactSubSpan': WHATEVER THE INPUT: true; the input reads as it did. -/
def fnExactSubSpanSpec : ChangeSpec := { name := "fnExactSubSpan", fn := fun _ => fun
  | [d1, d2] => { results := [.lit (.bool true)], args := [d1, d2] }
  | _ => none }
def fnExactSubSpanRow : OpenClaim := { program := "ytjndjjdffifgcaa", sum := "ba5bc324709e696731719edf7bb59c9bb1bd3e68dab9ecb1044e74198b51636f", func := "loop.example/g00742/laws.FnExactSubSpan", spec := "fnExactSubSpan", apart := false }
def FnExactSubSpanSaid : Prop := fnExactSubSpanRow.holds Try.pinned (OpenSpec.ofChange fnExactSubSpanSpec)

/-- ITS FALSE NEIGHBOUR: 'it returns false'. Refute it at one input. -/
def fnExactSubSpanWrong : ChangeSpec := { name := "fnExactSubSpan", fn := fun _ => fun
  | [d1, d2] => { results := [.lit (.bool false)], args := [d1, d2] }
  | _ => none }
def FnExactSubSpanWrongFalsely : Prop := fnExactSubSpanRow.holds Try.pinned (OpenSpec.ofChange fnExactSubSpanWrong)

/-- 'laws.FnExactHullSpan': WHATEVER THE INPUT: true; the input reads as it did. -/
def fnExactHullSpanSpec : ChangeSpec := { name := "fnExactHullSpan", fn := fun _ => fun
  | [d1, d2] => { results := [.lit (.bool true)], args := [d1, d2] }
  | _ => none }
def fnExactHullSpanRow : OpenClaim := { program := "ytjndjjdffifgcaa", sum := "ba5bc324709e696731719edf7bb59c9bb1bd3e68dab9ecb1044e74198b51636f", func := "loop.example/g00742/laws.FnExactHullSpan", spec := "fnExactHullSpan", unfollowed := true, recurses := true, apart := false }
def FnExactHullSpanSaid : Prop := fnExactHullSpanRow.holds Try.pinned (OpenSpec.ofChange fnExactHullSpanSpec)

/-- ITS FALSE NEIGHBOUR: 'it returns false'. Refute it at one input. -/
def fnExactHullSpanWrong : ChangeSpec := { name := "fnExactHullSpan", fn := fun _ => fun
  | [d1, d2] => { results := [.lit (.bool false)], args := [d1, d2] }
  | _ => none }
def FnExactHullSpanWrongFalsely : Prop := fnExactHullSpanRow.holds Try.pinned (OpenSpec.ofChange fnExactHullSpanWrong)

/-- 'laws.FnExactMeetSpan': WHATEVER THE INPUT: true; the input reads as it did. -/
def fnExactMeetSpanSpec : ChangeSpec := { name := "fnExactMeetSpan", fn := fun _ => fun
  | [d1, d2] => { results := [.lit (.bool true)], args := [d1, d2] }
  | _ => none }
def fnExactMeetSpanRow : OpenClaim := { program := "ytjndjjdffifgcaa", sum := "ba5bc324709e696731719edf7bb59c9bb1bd3e68dab9ecb1044e74198b51636f", func := "loop.example/g00742/laws.FnExactMeetSpan", spec := "fnExactMeetSpan", unfollowed := true, recurses := true, apart := false }
def FnExactMeetSpanSaid : Prop := fnExactMeetSpanRow.holds Try.pinned (OpenSpec.ofChange fnExactMeetSpanSpec)

/-- ITS FALSE NEIGHBOUR: 'it returns false'. Refute it at one input. -/
def fnExactMeetSpanWrong : ChangeSpec := { name := "fnExactMeetSpan", fn := fun _ => fun
  | [d1, d2] => { results := [.lit (.bool false)], args := [d1, d2] }
  | _ => none }
def FnExactMeetSpanWrongFalsely : Prop := fnExactMeetSpanRow.holds Try.pinned (OpenSpec.ofChange fnExactMeetSpanWrong)

/-- 'laws.FnExactRatSpan': WHATEVER THE INPUT: true; the input reads as it did. -/
def fnExactRatSpanSpec : ChangeSpec := { name := "fnExactRatSpan", fn := fun _ => fun
  | [d1, d2, d3] => { results := [.lit (.bool true)], args := [d1, d2, d3] }
  | _ => none }
def fnExactRatSpanRow : OpenClaim := { program := "ytjndjjdffifgcaa", sum := "ba5bc324709e696731719edf7bb59c9bb1bd3e68dab9ecb1044e74198b51636f", func := "loop.example/g00742/laws.FnExactRatSpan", spec := "fnExactRatSpan", apart := false }
def FnExactRatSpanSaid : Prop := fnExactRatSpanRow.holds Try.pinned (OpenSpec.ofChange fnExactRatSpanSpec)

/-- ITS FALSE NEIGHBOUR: 'it returns false'. Refute it at one input. -/
def fnExactRatSpanWrong : ChangeSpec := { name := "fnExactRatSpan", fn := fun _ => fun
  | [d1, d2, d3] => { results := [.lit (.bool false)], args := [d1, d2, d3] }
  | _ => none }
def FnExactRatSpanWrongFalsely : Prop := fnExactRatSpanRow.holds Try.pinned (OpenSpec.ofChange fnExactRatSpanWrong)

/-- 'laws.FnExactMulSpan': WHATEVER THE INPUT: true; the input reads as it did. -/
def fnExactMulSpanSpec : ChangeSpec := { name := "fnExactMulSpan", fn := fun _ => fun
  | [d1, d2, d3] => { results := [.lit (.bool true)], args := [d1, d2, d3] }
  | _ => none }
def fnExactMulSpanRow : OpenClaim := { program := "ytjndjjdffifgcaa", sum := "ba5bc324709e696731719edf7bb59c9bb1bd3e68dab9ecb1044e74198b51636f", func := "loop.example/g00742/laws.FnExactMulSpan", spec := "fnExactMulSpan", unfollowed := true, recurses := true, apart := false }
def FnExactMulSpanSaid : Prop := fnExactMulSpanRow.holds Try.pinned (OpenSpec.ofChange fnExactMulSpanSpec)

/-- ITS FALSE NEIGHBOUR: 'it returns false'. Refute it at one input. -/
def fnExactMulSpanWrong : ChangeSpec := { name := "fnExactMulSpan", fn := fun _ => fun
  | [d1, d2, d3] => { results := [.lit (.bool false)], args := [d1, d2, d3] }
  | _ => none }
def FnExactMulSpanWrongFalsely : Prop := fnExactMulSpanRow.holds Try.pinned (OpenSpec.ofChange fnExactMulSpanWrong)

/-- 'laws.FnExactSquareSpan': WHATEVER THE INPUT: true; the input reads as it did. -/
def fnExactSquareSpanSpec : ChangeSpec := { name := "fnExactSquareSpan", fn := fun _ => fun
  | [d1, d2] => { results := [.lit (.bool true)], args := [d1, d2] }
  | _ => none }
def fnExactSquareSpanRow : OpenClaim := { program := "ytjndjjdffifgcaa", sum := "ba5bc324709e696731719edf7bb59c9bb1bd3e68dab9ecb1044e74198b51636f", func := "loop.example/g00742/laws.FnExactSquareSpan", spec := "fnExactSquareSpan", unfollowed := true, recurses := true, apart := false }
def FnExactSquareSpanSaid : Prop := fnExactSquareSpanRow.holds Try.pinned (OpenSpec.ofChange fnExactSquareSpanSpec)

/-- ITS FALSE NEIGHBOUR: 'it returns false'. Refute it at one input. -/
def fnExactSquareSpanWrong : ChangeSpec := { name := "fnExactSquareSpan", fn := fun _ => fun
  | [d1, d2] => { results := [.lit (.bool false)], args := [d1, d2] }
  | _ => none }
def FnExactSquareSpanWrongFalsely : Prop := fnExactSquareSpanRow.holds Try.pinned (OpenSpec.ofChange fnExactSquareSpanWrong)

/-- 'laws.FnExactDivSpan': WHATEVER THE INPUT: true; the input reads as it did. -/
def fnExactDivSpanSpec : ChangeSpec := { name := "fnExactDivSpan", fn := fun _ => fun
  | [d1, d2, d3] => { results := [.lit (.bool true)], args := [d1, d2, d3] }
  | _ => none }
def fnExactDivSpanRow : OpenClaim := { program := "ytjndjjdffifgcaa", sum := "ba5bc324709e696731719edf7bb59c9bb1bd3e68dab9ecb1044e74198b51636f", func := "loop.example/g00742/laws.FnExactDivSpan", spec := "fnExactDivSpan", unfollowed := true, recurses := true, apart := false }
def FnExactDivSpanSaid : Prop := fnExactDivSpanRow.holds Try.pinned (OpenSpec.ofChange fnExactDivSpanSpec)

/-- ITS FALSE NEIGHBOUR: 'it returns false'. Refute it at one input. -/
def fnExactDivSpanWrong : ChangeSpec := { name := "fnExactDivSpan", fn := fun _ => fun
  | [d1, d2, d3] => { results := [.lit (.bool false)], args := [d1, d2, d3] }
  | _ => none }
def FnExactDivSpanWrongFalsely : Prop := fnExactDivSpanRow.holds Try.pinned (OpenSpec.ofChange fnExactDivSpanWrong)

/-- 'laws.FnExactRootSpan': WHATEVER THE INPUT: true; the input reads as it did. -/
def fnExactRootSpanSpec : ChangeSpec := { name := "fnExactRootSpan", fn := fun _ => fun
  | [d1, d2] => { results := [.lit (.bool true)], args := [d1, d2] }
  | _ => none }
def fnExactRootSpanRow : OpenClaim := { program := "ytjndjjdffifgcaa", sum := "ba5bc324709e696731719edf7bb59c9bb1bd3e68dab9ecb1044e74198b51636f", func := "loop.example/g00742/laws.FnExactRootSpan", spec := "fnExactRootSpan", unfollowed := true, recurses := true, apart := false }
def FnExactRootSpanSaid : Prop := fnExactRootSpanRow.holds Try.pinned (OpenSpec.ofChange fnExactRootSpanSpec)

/-- ITS FALSE NEIGHBOUR: 'it returns false'. Refute it at one input. -/
def fnExactRootSpanWrong : ChangeSpec := { name := "fnExactRootSpan", fn := fun _ => fun
  | [d1, d2] => { results := [.lit (.bool false)], args := [d1, d2] }
  | _ => none }
def FnExactRootSpanWrongFalsely : Prop := fnExactRootSpanRow.holds Try.pinned (OpenSpec.ofChange fnExactRootSpanWrong)

/- THE SECOND FORM. 'bulk': how many values and letters a reading holds, each counted each time it is reached (what is shared counts as often as it is met; a slice's spare places count too). A statement '..UptoSaid' is the law's where the arguments, and the package variables that the reading takes, are together of bulk at most 1048576: NARROWER than '..Said'. Prove '..Said' where nothing that the law and all that it calls make is longer than what came in: it says more and counts as full. Else prove '..UptoSaid'. A law counts once. -/
mutual
def uptoBulk {H : Type} : DataW H → Nat
  | .lit (.string bytes) => bytes.length + 1
  | .lit _ => 1
  | .nil => 1
  | .ptr d => uptoBulk d + 1
  | .slice elems spare => uptoBulkAll elems + uptoBulkAll spare + 1
  | .agg parts => uptoBulkAll parts + 1
  | .iface _ d => uptoBulk d + 1
  | .map entries => uptoBulkEntries entries + 1
  | .held _ => 1
def uptoBulkAll {H : Type} : List (DataW H) → Nat
  | [] => 0
  | d :: r => uptoBulk d + uptoBulkAll r
def uptoBulkEntries {H : Type} : List (Lit × DataW H) → Nat
  | [] => 0
  | x :: r => uptoBulkEntry x + uptoBulkEntries r
def uptoBulkEntry {H : Type} : Lit × DataW H → Nat
  | (.string bytes, d) => bytes.length + uptoBulk d + 1
  | (_, d) => uptoBulk d + 1
 end
def uptoSmall : (H : Type) → List (DataW H) → Bool := fun _ ds => decide (uptoBulkAll ds ≤ 1048576)
def OpenSpec.upto (s : _root_.Go.ChangeSpec) : _root_.Go.OpenSpec := { _root_.Go.OpenSpec.ofChange s with cond := some uptoSmall }

/-- 'laws.FnExactSpanFault', WHERE WHAT IT READS IS OF BULK AT MOST 1048576: true; the input reads as it did. -/
def fnExactSpanFaultUptoRow : OpenClaim := { program := "ytjndjjdffifgcaa", sum := "ba5bc324709e696731719edf7bb59c9bb1bd3e68dab9ecb1044e74198b51636f", func := "loop.example/g00742/laws.FnExactSpanFault", spec := "fnExactSpanFault", apart := false, narrowed := true }
def FnExactSpanFaultUptoSaid : Prop := fnExactSpanFaultUptoRow.holds Try.pinned (OpenSpec.upto fnExactSpanFaultSpec)

/-- 'laws.FnExactOrderSpan', WHERE WHAT IT READS IS OF BULK AT MOST 1048576: true; the input reads as it did. -/
def fnExactOrderSpanUptoRow : OpenClaim := { program := "ytjndjjdffifgcaa", sum := "ba5bc324709e696731719edf7bb59c9bb1bd3e68dab9ecb1044e74198b51636f", func := "loop.example/g00742/laws.FnExactOrderSpan", spec := "fnExactOrderSpan", apart := false, narrowed := true }
def FnExactOrderSpanUptoSaid : Prop := fnExactOrderSpanUptoRow.holds Try.pinned (OpenSpec.upto fnExactOrderSpanSpec)

/-- 'laws.FnExactIsWithin', WHERE WHAT IT READS IS OF BULK AT MOST 1048576: true; the input reads as it did. -/
def fnExactIsWithinUptoRow : OpenClaim := { program := "ytjndjjdffifgcaa", sum := "ba5bc324709e696731719edf7bb59c9bb1bd3e68dab9ecb1044e74198b51636f", func := "loop.example/g00742/laws.FnExactIsWithin", spec := "fnExactIsWithin", apart := false, narrowed := true }
def FnExactIsWithinUptoSaid : Prop := fnExactIsWithinUptoRow.holds Try.pinned (OpenSpec.upto fnExactIsWithinSpec)

/-- 'laws.FnExactAddSpan', WHERE WHAT IT READS IS OF BULK AT MOST 1048576: true; the input reads as it did. -/
def fnExactAddSpanUptoRow : OpenClaim := { program := "ytjndjjdffifgcaa", sum := "ba5bc324709e696731719edf7bb59c9bb1bd3e68dab9ecb1044e74198b51636f", func := "loop.example/g00742/laws.FnExactAddSpan", spec := "fnExactAddSpan", apart := false, narrowed := true }
def FnExactAddSpanUptoSaid : Prop := fnExactAddSpanUptoRow.holds Try.pinned (OpenSpec.upto fnExactAddSpanSpec)

/-- 'laws.FnExactSubSpan', WHERE WHAT IT READS IS OF BULK AT MOST 1048576: true; the input reads as it did. -/
def fnExactSubSpanUptoRow : OpenClaim := { program := "ytjndjjdffifgcaa", sum := "ba5bc324709e696731719edf7bb59c9bb1bd3e68dab9ecb1044e74198b51636f", func := "loop.example/g00742/laws.FnExactSubSpan", spec := "fnExactSubSpan", apart := false, narrowed := true }
def FnExactSubSpanUptoSaid : Prop := fnExactSubSpanUptoRow.holds Try.pinned (OpenSpec.upto fnExactSubSpanSpec)

/-- 'laws.FnExactHullSpan', WHERE WHAT IT READS IS OF BULK AT MOST 1048576: true; the input reads as it did. -/
def fnExactHullSpanUptoRow : OpenClaim := { program := "ytjndjjdffifgcaa", sum := "ba5bc324709e696731719edf7bb59c9bb1bd3e68dab9ecb1044e74198b51636f", func := "loop.example/g00742/laws.FnExactHullSpan", spec := "fnExactHullSpan", unfollowed := true, recurses := true, apart := false, narrowed := true }
def FnExactHullSpanUptoSaid : Prop := fnExactHullSpanUptoRow.holds Try.pinned (OpenSpec.upto fnExactHullSpanSpec)

/-- 'laws.FnExactMeetSpan', WHERE WHAT IT READS IS OF BULK AT MOST 1048576: true; the input reads as it did. -/
def fnExactMeetSpanUptoRow : OpenClaim := { program := "ytjndjjdffifgcaa", sum := "ba5bc324709e696731719edf7bb59c9bb1bd3e68dab9ecb1044e74198b51636f", func := "loop.example/g00742/laws.FnExactMeetSpan", spec := "fnExactMeetSpan", unfollowed := true, recurses := true, apart := false, narrowed := true }
def FnExactMeetSpanUptoSaid : Prop := fnExactMeetSpanUptoRow.holds Try.pinned (OpenSpec.upto fnExactMeetSpanSpec)

/-- 'laws.FnExactRatSpan', WHERE WHAT IT READS IS OF BULK AT MOST 1048576: true; the input reads as it did. -/
def fnExactRatSpanUptoRow : OpenClaim := { program := "ytjndjjdffifgcaa", sum := "ba5bc324709e696731719edf7bb59c9bb1bd3e68dab9ecb1044e74198b51636f", func := "loop.example/g00742/laws.FnExactRatSpan", spec := "fnExactRatSpan", apart := false, narrowed := true }
def FnExactRatSpanUptoSaid : Prop := fnExactRatSpanUptoRow.holds Try.pinned (OpenSpec.upto fnExactRatSpanSpec)

/-- 'laws.FnExactMulSpan', WHERE WHAT IT READS IS OF BULK AT MOST 1048576: true; the input reads as it did. -/
def fnExactMulSpanUptoRow : OpenClaim := { program := "ytjndjjdffifgcaa", sum := "ba5bc324709e696731719edf7bb59c9bb1bd3e68dab9ecb1044e74198b51636f", func := "loop.example/g00742/laws.FnExactMulSpan", spec := "fnExactMulSpan", unfollowed := true, recurses := true, apart := false, narrowed := true }
def FnExactMulSpanUptoSaid : Prop := fnExactMulSpanUptoRow.holds Try.pinned (OpenSpec.upto fnExactMulSpanSpec)

/-- 'laws.FnExactSquareSpan', WHERE WHAT IT READS IS OF BULK AT MOST 1048576: true; the input reads as it did. -/
def fnExactSquareSpanUptoRow : OpenClaim := { program := "ytjndjjdffifgcaa", sum := "ba5bc324709e696731719edf7bb59c9bb1bd3e68dab9ecb1044e74198b51636f", func := "loop.example/g00742/laws.FnExactSquareSpan", spec := "fnExactSquareSpan", unfollowed := true, recurses := true, apart := false, narrowed := true }
def FnExactSquareSpanUptoSaid : Prop := fnExactSquareSpanUptoRow.holds Try.pinned (OpenSpec.upto fnExactSquareSpanSpec)

/-- 'laws.FnExactDivSpan', WHERE WHAT IT READS IS OF BULK AT MOST 1048576: true; the input reads as it did. -/
def fnExactDivSpanUptoRow : OpenClaim := { program := "ytjndjjdffifgcaa", sum := "ba5bc324709e696731719edf7bb59c9bb1bd3e68dab9ecb1044e74198b51636f", func := "loop.example/g00742/laws.FnExactDivSpan", spec := "fnExactDivSpan", unfollowed := true, recurses := true, apart := false, narrowed := true }
def FnExactDivSpanUptoSaid : Prop := fnExactDivSpanUptoRow.holds Try.pinned (OpenSpec.upto fnExactDivSpanSpec)

/-- 'laws.FnExactRootSpan', WHERE WHAT IT READS IS OF BULK AT MOST 1048576: true; the input reads as it did. -/
def fnExactRootSpanUptoRow : OpenClaim := { program := "ytjndjjdffifgcaa", sum := "ba5bc324709e696731719edf7bb59c9bb1bd3e68dab9ecb1044e74198b51636f", func := "loop.example/g00742/laws.FnExactRootSpan", spec := "fnExactRootSpan", unfollowed := true, recurses := true, apart := false, narrowed := true }
def FnExactRootSpanUptoSaid : Prop := fnExactRootSpanUptoRow.holds Try.pinned (OpenSpec.upto fnExactRootSpanSpec)

end Rows
end Go.Proofs.Ytjndjjdffifgcaa
