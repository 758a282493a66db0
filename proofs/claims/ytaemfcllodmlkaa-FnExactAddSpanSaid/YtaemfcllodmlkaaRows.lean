/-
  No cell of these rows narrows 'for every input' (looked for: loops, veiled, ifaces, maps, wideKeys, modest, calm, conditions, laid).
  DERIVED. THE GIVEN ROWS OF THIS SEAT. 6 by the template 'for every input the law returns true; each argument reads behind the call as it read before'; 0 by the template 'total and deterministic' (their statements: YtaemfcllodmlkaaTotals.lean).
  GIVEN WITH THE SEED: the statements are not yours to turn. If you find one false, say at which input.
  Laid BY PROGRAM, IN A SANDBOX (cutbox-rows.mjs): the forced cells as the released guide's own fill.sh prints them over the translation e18be1a5f6a62012… (all of the seat's roots in one cut). By AI agents, Wed Nov 11 2026. No macro, syntax, notation, axiom, sorry.
-/
import Derived.Test.YtaemfcllodmlkaaChecked
import GoSem.Claim
import GoSem.ClaimJoined
import GoSem.ClaimMapViews
import Derived.JoinedTies
import Derived.KernelRfl
namespace Go.Proofs.Ytaemfcllodmlkaa
/- THE CELL 'sum', in the pinned program and in every row, IS THE sha256 OF THE DUMP (.gsa) THAT YtaemfcllodmlkaaProg.lean LOADS. Nothing in Lean hashes anything: it is a label: what it is worth is what the hold of that sum in a sandbox is worth. -/
noncomputable def Try.pinned : Pinned := { name := "ytaemfcllodmlkaa", sum := "e18be1a5f6a62012356fcec6f1814470bd29428c75243d7e8a7e9c413c454774", checked := Try.checked }
namespace Rows
def none {H : Type} : Left H := { results := [], args := [] }

/-- 'laws.FnExactSpanFault': WHATEVER THE INPUT: true; the input reads as it did. -/
def fnExactSpanFaultSpec : ChangeSpec := { name := "fnExactSpanFault", fn := fun _ => fun
  | [d] => { results := [.lit (.bool true)], args := [d] }
  | _ => none }
def fnExactSpanFaultRow : OpenClaim := { program := "ytaemfcllodmlkaa", sum := "e18be1a5f6a62012356fcec6f1814470bd29428c75243d7e8a7e9c413c454774", func := "loop.example/g00742/laws.FnExactSpanFault", spec := "fnExactSpanFault", unfollowed := true, recurses := true, apart := false }
def FnExactSpanFaultSaid : Prop := fnExactSpanFaultRow.holds Try.pinned (OpenSpec.ofChange fnExactSpanFaultSpec)

/-- ITS FALSE NEIGHBOUR: 'it returns false'. Refute it at one input. -/
def fnExactSpanFaultWrong : ChangeSpec := { name := "fnExactSpanFault", fn := fun _ => fun
  | [d] => { results := [.lit (.bool false)], args := [d] }
  | _ => none }
def FnExactSpanFaultWrongFalsely : Prop := fnExactSpanFaultRow.holds Try.pinned (OpenSpec.ofChange fnExactSpanFaultWrong)

/-- 'laws.FnExactAddSpan': WHATEVER THE INPUT: true; the input reads as it did. -/
def fnExactAddSpanSpec : ChangeSpec := { name := "fnExactAddSpan", fn := fun _ => fun
  | [d1, d2] => { results := [.lit (.bool true)], args := [d1, d2] }
  | _ => none }
def fnExactAddSpanRow : OpenClaim := { program := "ytaemfcllodmlkaa", sum := "e18be1a5f6a62012356fcec6f1814470bd29428c75243d7e8a7e9c413c454774", func := "loop.example/g00742/laws.FnExactAddSpan", spec := "fnExactAddSpan", unfollowed := true, recurses := true, apart := false }
def FnExactAddSpanSaid : Prop := fnExactAddSpanRow.holds Try.pinned (OpenSpec.ofChange fnExactAddSpanSpec)

/-- ITS FALSE NEIGHBOUR: 'it returns false'. Refute it at one input. -/
def fnExactAddSpanWrong : ChangeSpec := { name := "fnExactAddSpan", fn := fun _ => fun
  | [d1, d2] => { results := [.lit (.bool false)], args := [d1, d2] }
  | _ => none }
def FnExactAddSpanWrongFalsely : Prop := fnExactAddSpanRow.holds Try.pinned (OpenSpec.ofChange fnExactAddSpanWrong)

/-- 'laws.FnExactSubSpan': WHATEVER THE INPUT: true; the input reads as it did. -/
def fnExactSubSpanSpec : ChangeSpec := { name := "fnExactSubSpan", fn := fun _ => fun
  | [d1, d2] => { results := [.lit (.bool true)], args := [d1, d2] }
  | _ => none }
def fnExactSubSpanRow : OpenClaim := { program := "ytaemfcllodmlkaa", sum := "e18be1a5f6a62012356fcec6f1814470bd29428c75243d7e8a7e9c413c454774", func := "loop.example/g00742/laws.FnExactSubSpan", spec := "fnExactSubSpan", unfollowed := true, recurses := true, apart := false }
def FnExactSubSpanSaid : Prop := fnExactSubSpanRow.holds Try.pinned (OpenSpec.ofChange fnExactSubSpanSpec)

/-- ITS FALSE NEIGHBOUR: 'it returns false'. Refute it at one input. -/
def fnExactSubSpanWrong : ChangeSpec := { name := "fnExactSubSpan", fn := fun _ => fun
  | [d1, d2] => { results := [.lit (.bool false)], args := [d1, d2] }
  | _ => none }
def FnExactSubSpanWrongFalsely : Prop := fnExactSubSpanRow.holds Try.pinned (OpenSpec.ofChange fnExactSubSpanWrong)

/-- 'laws.FnExactHullSpan': WHATEVER THE INPUT: true; the input reads as it did. -/
def fnExactHullSpanSpec : ChangeSpec := { name := "fnExactHullSpan", fn := fun _ => fun
  | [d1, d2] => { results := [.lit (.bool true)], args := [d1, d2] }
  | _ => none }
def fnExactHullSpanRow : OpenClaim := { program := "ytaemfcllodmlkaa", sum := "e18be1a5f6a62012356fcec6f1814470bd29428c75243d7e8a7e9c413c454774", func := "loop.example/g00742/laws.FnExactHullSpan", spec := "fnExactHullSpan", unfollowed := true, recurses := true, apart := false }
def FnExactHullSpanSaid : Prop := fnExactHullSpanRow.holds Try.pinned (OpenSpec.ofChange fnExactHullSpanSpec)

/-- ITS FALSE NEIGHBOUR: 'it returns false'. Refute it at one input. -/
def fnExactHullSpanWrong : ChangeSpec := { name := "fnExactHullSpan", fn := fun _ => fun
  | [d1, d2] => { results := [.lit (.bool false)], args := [d1, d2] }
  | _ => none }
def FnExactHullSpanWrongFalsely : Prop := fnExactHullSpanRow.holds Try.pinned (OpenSpec.ofChange fnExactHullSpanWrong)

/-- 'laws.FnExactOrderSpan': WHATEVER THE INPUT: true; the input reads as it did. -/
def fnExactOrderSpanSpec : ChangeSpec := { name := "fnExactOrderSpan", fn := fun _ => fun
  | [d1, d2] => { results := [.lit (.bool true)], args := [d1, d2] }
  | _ => none }
def fnExactOrderSpanRow : OpenClaim := { program := "ytaemfcllodmlkaa", sum := "e18be1a5f6a62012356fcec6f1814470bd29428c75243d7e8a7e9c413c454774", func := "loop.example/g00742/laws.FnExactOrderSpan", spec := "fnExactOrderSpan", unfollowed := true, recurses := true, apart := false }
def FnExactOrderSpanSaid : Prop := fnExactOrderSpanRow.holds Try.pinned (OpenSpec.ofChange fnExactOrderSpanSpec)

/-- ITS FALSE NEIGHBOUR: 'it returns false'. Refute it at one input. -/
def fnExactOrderSpanWrong : ChangeSpec := { name := "fnExactOrderSpan", fn := fun _ => fun
  | [d1, d2] => { results := [.lit (.bool false)], args := [d1, d2] }
  | _ => none }
def FnExactOrderSpanWrongFalsely : Prop := fnExactOrderSpanRow.holds Try.pinned (OpenSpec.ofChange fnExactOrderSpanWrong)

/-- 'laws.FnExactIsWithin': WHATEVER THE INPUT: true; the input reads as it did. -/
def fnExactIsWithinSpec : ChangeSpec := { name := "fnExactIsWithin", fn := fun _ => fun
  | [d1, d2] => { results := [.lit (.bool true)], args := [d1, d2] }
  | _ => none }
def fnExactIsWithinRow : OpenClaim := { program := "ytaemfcllodmlkaa", sum := "e18be1a5f6a62012356fcec6f1814470bd29428c75243d7e8a7e9c413c454774", func := "loop.example/g00742/laws.FnExactIsWithin", spec := "fnExactIsWithin", unfollowed := true, recurses := true, apart := false }
def FnExactIsWithinSaid : Prop := fnExactIsWithinRow.holds Try.pinned (OpenSpec.ofChange fnExactIsWithinSpec)

/-- ITS FALSE NEIGHBOUR: 'it returns false'. Refute it at one input. -/
def fnExactIsWithinWrong : ChangeSpec := { name := "fnExactIsWithin", fn := fun _ => fun
  | [d1, d2] => { results := [.lit (.bool false)], args := [d1, d2] }
  | _ => none }
def FnExactIsWithinWrongFalsely : Prop := fnExactIsWithinRow.holds Try.pinned (OpenSpec.ofChange fnExactIsWithinWrong)

/- THE SECOND FORM. 'bulk': how many values and letters a reading holds, each counted each time it is reached (what is shared counts as often as it is met; a slice's spare places count too). A statement '..UptoSaid' is the law's where the arguments, and the package variables that the reading takes, are together of bulk at most 1048576: NARROWER than '..Said'. Prove '..Said' where nothing that the law and all that it calls make is longer than what came in: it says more and counts as full. Else prove '..UptoSaid'. A law counts once. -/
mutual
def uptoBulk {H : Type} : DataW H → Nat
  | .lit (.string bytes) => bytes.length + 1
  | .lit _ => 1
  | .nil => 1
  | .ptr d => uptoBulk d + 1
  | .slice elems spare => uptoBulkAll elems + uptoBulkAll spare + 1
  | .agg parts => uptoBulkAll parts + 1
  | .iface _ d => uptoBulk d + 1
  | .map entries => uptoBulkEntries entries + 1
  | .held _ => 1
def uptoBulkAll {H : Type} : List (DataW H) → Nat
  | [] => 0
  | d :: r => uptoBulk d + uptoBulkAll r
def uptoBulkEntries {H : Type} : List (Lit × DataW H) → Nat
  | [] => 0
  | x :: r => uptoBulkEntry x + uptoBulkEntries r
def uptoBulkEntry {H : Type} : Lit × DataW H → Nat
  | (.string bytes, d) => bytes.length + uptoBulk d + 1
  | (_, d) => uptoBulk d + 1
 end
def uptoSmall : (H : Type) → List (DataW H) → Bool := fun _ ds => decide (uptoBulkAll ds ≤ 1048576)
def OpenSpec.upto (s : _root_.Go.ChangeSpec) : _root_.Go.OpenSpec := { _root_.Go.OpenSpec.ofChange s with cond := some uptoSmall }

/-- 'laws.FnExactSpanFault', WHERE WHAT IT READS IS OF BULK AT MOST 1048576: true; the input reads as it did. -/
def fnExactSpanFaultUptoRow : OpenClaim := { program := "ytaemfcllodmlkaa", sum := "e18be1a5f6a62012356fcec6f1814470bd29428c75243d7e8a7e9c413c454774", func := "loop.example/g00742/laws.FnExactSpanFault", spec := "fnExactSpanFault", unfollowed := true, recurses := true, apart := false, narrowed := true }
def FnExactSpanFaultUptoSaid : Prop := fnExactSpanFaultUptoRow.holds Try.pinned (OpenSpec.upto fnExactSpanFaultSpec)

/-- 'laws.FnExactAddSpan', WHERE WHAT IT READS IS OF BULK AT MOST 1048576: true; the input reads as it did. -/
def fnExactAddSpanUptoRow : OpenClaim := { program := "ytaemfcllodmlkaa", sum := "e18be1a5f6a62012356fcec6f1814470bd29428c75243d7e8a7e9c413c454774", func := "loop.example/g00742/laws.FnExactAddSpan", spec := "fnExactAddSpan", unfollowed := true, recurses := true, apart := false, narrowed := true }
def FnExactAddSpanUptoSaid : Prop := fnExactAddSpanUptoRow.holds Try.pinned (OpenSpec.upto fnExactAddSpanSpec)

/-- 'laws.FnExactSubSpan', WHERE WHAT IT READS IS OF BULK AT MOST 1048576: true; the input reads as it did. -/
def fnExactSubSpanUptoRow : OpenClaim := { program := "ytaemfcllodmlkaa", sum := "e18be1a5f6a62012356fcec6f1814470bd29428c75243d7e8a7e9c413c454774", func := "loop.example/g00742/laws.FnExactSubSpan", spec := "fnExactSubSpan", unfollowed := true, recurses := true, apart := false, narrowed := true }
def FnExactSubSpanUptoSaid : Prop := fnExactSubSpanUptoRow.holds Try.pinned (OpenSpec.upto fnExactSubSpanSpec)

/-- 'laws.FnExactHullSpan', WHERE WHAT IT READS IS OF BULK AT MOST 1048576: true; the input reads as it did. -/
def fnExactHullSpanUptoRow : OpenClaim := { program := "ytaemfcllodmlkaa", sum := "e18be1a5f6a62012356fcec6f1814470bd29428c75243d7e8a7e9c413c454774", func := "loop.example/g00742/laws.FnExactHullSpan", spec := "fnExactHullSpan", unfollowed := true, recurses := true, apart := false, narrowed := true }
def FnExactHullSpanUptoSaid : Prop := fnExactHullSpanUptoRow.holds Try.pinned (OpenSpec.upto fnExactHullSpanSpec)

/-- 'laws.FnExactOrderSpan', WHERE WHAT IT READS IS OF BULK AT MOST 1048576: true; the input reads as it did. -/
def fnExactOrderSpanUptoRow : OpenClaim := { program := "ytaemfcllodmlkaa", sum := "e18be1a5f6a62012356fcec6f1814470bd29428c75243d7e8a7e9c413c454774", func := "loop.example/g00742/laws.FnExactOrderSpan", spec := "fnExactOrderSpan", unfollowed := true, recurses := true, apart := false, narrowed := true }
def FnExactOrderSpanUptoSaid : Prop := fnExactOrderSpanUptoRow.holds Try.pinned (OpenSpec.upto fnExactOrderSpanSpec)

/-- 'laws.FnExactIsWithin', WHERE WHAT IT READS IS OF BULK AT MOST 1048576: true; the input reads as it did. -/
def fnExactIsWithinUptoRow : OpenClaim := { program := "ytaemfcllodmlkaa", sum := "e18be1a5f6a62012356fcec6f1814470bd29428c75243d7e8a7e9c413c454774", func := "loop.example/g00742/laws.FnExactIsWithin", spec := "fnExactIsWithin", unfollowed := true, recurses := true, apart := false, narrowed := true }
def FnExactIsWithinUptoSaid : Prop := fnExactIsWithinUptoRow.holds Try.pinned (OpenSpec.upto fnExactIsWithinSpec)

end Rows
end Go.Proofs.Ytaemfcllodmlkaa
