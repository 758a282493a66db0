/-
  No cell of these rows narrows 'for every input' (looked for: loops, veiled, ifaces, maps, wideKeys, modest, calm, conditions, laid).
  DERIVED. THE GIVEN ROWS OF THIS SEAT. 9 by the template 'for every input the law returns true; each argument reads behind the call as it read before'; 0 by the template 'total and deterministic' (their statements: YtfafjijoeanbhaaGreatTotals.lean).
  GIVEN WITH THE SEED: the statements are not yours to turn. If you find one false, say at which input.
  Laid BY PROGRAM, IN A SANDBOX (cutbox-rows.mjs): the forced cells as the released guide's own fill.sh prints them over the translation 9aeba6570c2efc11… (all of the seat's roots in one cut). By AI agents, Wed Nov 11 2026. No macro, syntax, notation, axiom, sorry.
-/
import Derived.Test.YtfafjijoeanbhaaGreatChecked
import GoSem.Claim
import GoSem.ClaimJoined
import GoSem.ClaimMapViews
import Derived.JoinedTies
import Derived.KernelRfl
namespace Go.Proofs.YtfafjijoeanbhaaGreat
/- THE CELL 'sum', in the pinned program and in every row, IS THE sha256 OF THE DUMP (.gsa) THAT YtfafjijoeanbhaaGreatProg.lean LOADS. Nothing in Lean hashes anything: it is a label: what it is worth is what the hold of that sum in a sandbox is worth. -/
noncomputable def Tryz.pinned : Pinned := { name := "ytfafjijoeanbhaagreat", sum := "9aeba6570c2efc11ea9fa87ec400180f36a16a49f2fa507ecbffc90267c7a40b", checked := Tryz.checked }
namespace Rows
def none {H : Type} : Left H := { results := [], args := [] }

/-- 'laws.FnExactRadSpan': WHATEVER THE INPUT: true; the input reads as it did. -/
def fnExactRadSpanSpec : ChangeSpec := { name := "fnExactRadSpan", fn := fun _ => fun
  | [d1, d2] => { results := [.lit (.bool true)], args := [d1, d2] }
  | _ => none }
def fnExactRadSpanRow : OpenClaim := { program := "ytfafjijoeanbhaagreat", sum := "9aeba6570c2efc11ea9fa87ec400180f36a16a49f2fa507ecbffc90267c7a40b", func := "loop.example/g00742/laws.FnExactRadSpan", spec := "fnExactRadSpan", unfollowed := true, recurses := true, apart := false }
def FnExactRadSpanSaid : Prop := fnExactRadSpanRow.holds Tryz.pinned (OpenSpec.ofChange fnExactRadSpanSpec)

/-- ITS FALSE NEIGHBOUR: 'it returns false'. Refute it at one input. -/
def fnExactRadSpanWrong : ChangeSpec := { name := "fnExactRadSpan", fn := fun _ => fun
  | [d1, d2] => { results := [.lit (.bool false)], args := [d1, d2] }
  | _ => none }
def FnExactRadSpanWrongFalsely : Prop := fnExactRadSpanRow.holds Tryz.pinned (OpenSpec.ofChange fnExactRadSpanWrong)

/-- 'laws.FnExactVectorOf': WHATEVER THE INPUT: true; the input reads as it did. -/
def fnExactVectorOfSpec : ChangeSpec := { name := "fnExactVectorOf", fn := fun _ => fun
  | [d1, d2] => { results := [.lit (.bool true)], args := [d1, d2] }
  | _ => none }
def fnExactVectorOfRow : OpenClaim := { program := "ytfafjijoeanbhaagreat", sum := "9aeba6570c2efc11ea9fa87ec400180f36a16a49f2fa507ecbffc90267c7a40b", func := "loop.example/g00742/laws.FnExactVectorOf", spec := "fnExactVectorOf", unfollowed := true, recurses := true, apart := false }
def FnExactVectorOfSaid : Prop := fnExactVectorOfRow.holds Tryz.pinned (OpenSpec.ofChange fnExactVectorOfSpec)

/-- ITS FALSE NEIGHBOUR: 'it returns false'. Refute it at one input. -/
def fnExactVectorOfWrong : ChangeSpec := { name := "fnExactVectorOf", fn := fun _ => fun
  | [d1, d2] => { results := [.lit (.bool false)], args := [d1, d2] }
  | _ => none }
def FnExactVectorOfWrongFalsely : Prop := fnExactVectorOfRow.holds Tryz.pinned (OpenSpec.ofChange fnExactVectorOfWrong)

/-- 'laws.FnExactAngleOf': WHATEVER THE INPUT: true; the input reads as it did. -/
def fnExactAngleOfSpec : ChangeSpec := { name := "fnExactAngleOf", fn := fun _ => fun
  | [d1, d2, d3] => { results := [.lit (.bool true)], args := [d1, d2, d3] }
  | _ => none }
def fnExactAngleOfRow : OpenClaim := { program := "ytfafjijoeanbhaagreat", sum := "9aeba6570c2efc11ea9fa87ec400180f36a16a49f2fa507ecbffc90267c7a40b", func := "loop.example/g00742/laws.FnExactAngleOf", spec := "fnExactAngleOf", unfollowed := true, recurses := true, apart := false }
def FnExactAngleOfSaid : Prop := fnExactAngleOfRow.holds Tryz.pinned (OpenSpec.ofChange fnExactAngleOfSpec)

/-- ITS FALSE NEIGHBOUR: 'it returns false'. Refute it at one input. -/
def fnExactAngleOfWrong : ChangeSpec := { name := "fnExactAngleOf", fn := fun _ => fun
  | [d1, d2, d3] => { results := [.lit (.bool false)], args := [d1, d2, d3] }
  | _ => none }
def FnExactAngleOfWrongFalsely : Prop := fnExactAngleOfRow.holds Tryz.pinned (OpenSpec.ofChange fnExactAngleOfWrong)

/-- 'laws.FnExactDistanceOf': WHATEVER THE INPUT: true; the input reads as it did. -/
def fnExactDistanceOfSpec : ChangeSpec := { name := "fnExactDistanceOf", fn := fun _ => fun
  | [d1, d2, d3] => { results := [.lit (.bool true)], args := [d1, d2, d3] }
  | _ => none }
def fnExactDistanceOfRow : OpenClaim := { program := "ytfafjijoeanbhaagreat", sum := "9aeba6570c2efc11ea9fa87ec400180f36a16a49f2fa507ecbffc90267c7a40b", func := "loop.example/g00742/laws.FnExactDistanceOf", spec := "fnExactDistanceOf", unfollowed := true, recurses := true, apart := false }
def FnExactDistanceOfSaid : Prop := fnExactDistanceOfRow.holds Tryz.pinned (OpenSpec.ofChange fnExactDistanceOfSpec)

/-- ITS FALSE NEIGHBOUR: 'it returns false'. Refute it at one input. -/
def fnExactDistanceOfWrong : ChangeSpec := { name := "fnExactDistanceOf", fn := fun _ => fun
  | [d1, d2, d3] => { results := [.lit (.bool false)], args := [d1, d2, d3] }
  | _ => none }
def FnExactDistanceOfWrongFalsely : Prop := fnExactDistanceOfRow.holds Tryz.pinned (OpenSpec.ofChange fnExactDistanceOfWrong)

/-- 'laws.FnExactPiSpan': WHATEVER THE INPUT: true; the input reads as it did. -/
def fnExactPiSpanSpec : ChangeSpec := { name := "fnExactPiSpan", fn := fun _ => fun
  | [d] => { results := [.lit (.bool true)], args := [d] }
  | _ => none }
def fnExactPiSpanRow : OpenClaim := { program := "ytfafjijoeanbhaagreat", sum := "9aeba6570c2efc11ea9fa87ec400180f36a16a49f2fa507ecbffc90267c7a40b", func := "loop.example/g00742/laws.FnExactPiSpan", spec := "fnExactPiSpan", unfollowed := true, recurses := true, apart := false }
def FnExactPiSpanSaid : Prop := fnExactPiSpanRow.holds Tryz.pinned (OpenSpec.ofChange fnExactPiSpanSpec)

/-- ITS FALSE NEIGHBOUR: 'it returns false'. Refute it at one input. -/
def fnExactPiSpanWrong : ChangeSpec := { name := "fnExactPiSpan", fn := fun _ => fun
  | [d] => { results := [.lit (.bool false)], args := [d] }
  | _ => none }
def FnExactPiSpanWrongFalsely : Prop := fnExactPiSpanRow.holds Tryz.pinned (OpenSpec.ofChange fnExactPiSpanWrong)

/-- 'laws.FnExactAtanSpan': WHATEVER THE INPUT: true; the input reads as it did. -/
def fnExactAtanSpanSpec : ChangeSpec := { name := "fnExactAtanSpan", fn := fun _ => fun
  | [d1, d2] => { results := [.lit (.bool true)], args := [d1, d2] }
  | _ => none }
def fnExactAtanSpanRow : OpenClaim := { program := "ytfafjijoeanbhaagreat", sum := "9aeba6570c2efc11ea9fa87ec400180f36a16a49f2fa507ecbffc90267c7a40b", func := "loop.example/g00742/laws.FnExactAtanSpan", spec := "fnExactAtanSpan", unfollowed := true, recurses := true, apart := false }
def FnExactAtanSpanSaid : Prop := fnExactAtanSpanRow.holds Tryz.pinned (OpenSpec.ofChange fnExactAtanSpanSpec)

/-- ITS FALSE NEIGHBOUR: 'it returns false'. Refute it at one input. -/
def fnExactAtanSpanWrong : ChangeSpec := { name := "fnExactAtanSpan", fn := fun _ => fun
  | [d1, d2] => { results := [.lit (.bool false)], args := [d1, d2] }
  | _ => none }
def FnExactAtanSpanWrongFalsely : Prop := fnExactAtanSpanRow.holds Tryz.pinned (OpenSpec.ofChange fnExactAtanSpanWrong)

/-- 'laws.FnExactSinSpan': WHATEVER THE INPUT: true; the input reads as it did. -/
def fnExactSinSpanSpec : ChangeSpec := { name := "fnExactSinSpan", fn := fun _ => fun
  | [d1, d2] => { results := [.lit (.bool true)], args := [d1, d2] }
  | _ => none }
def fnExactSinSpanRow : OpenClaim := { program := "ytfafjijoeanbhaagreat", sum := "9aeba6570c2efc11ea9fa87ec400180f36a16a49f2fa507ecbffc90267c7a40b", func := "loop.example/g00742/laws.FnExactSinSpan", spec := "fnExactSinSpan", unfollowed := true, recurses := true, apart := false }
def FnExactSinSpanSaid : Prop := fnExactSinSpanRow.holds Tryz.pinned (OpenSpec.ofChange fnExactSinSpanSpec)

/-- ITS FALSE NEIGHBOUR: 'it returns false'. Refute it at one input. -/
def fnExactSinSpanWrong : ChangeSpec := { name := "fnExactSinSpan", fn := fun _ => fun
  | [d1, d2] => { results := [.lit (.bool false)], args := [d1, d2] }
  | _ => none }
def FnExactSinSpanWrongFalsely : Prop := fnExactSinSpanRow.holds Tryz.pinned (OpenSpec.ofChange fnExactSinSpanWrong)

/-- 'laws.FnExactCosSpan': WHATEVER THE INPUT: true; the input reads as it did. -/
def fnExactCosSpanSpec : ChangeSpec := { name := "fnExactCosSpan", fn := fun _ => fun
  | [d1, d2] => { results := [.lit (.bool true)], args := [d1, d2] }
  | _ => none }
def fnExactCosSpanRow : OpenClaim := { program := "ytfafjijoeanbhaagreat", sum := "9aeba6570c2efc11ea9fa87ec400180f36a16a49f2fa507ecbffc90267c7a40b", func := "loop.example/g00742/laws.FnExactCosSpan", spec := "fnExactCosSpan", unfollowed := true, recurses := true, apart := false }
def FnExactCosSpanSaid : Prop := fnExactCosSpanRow.holds Tryz.pinned (OpenSpec.ofChange fnExactCosSpanSpec)

/-- ITS FALSE NEIGHBOUR: 'it returns false'. Refute it at one input. -/
def fnExactCosSpanWrong : ChangeSpec := { name := "fnExactCosSpan", fn := fun _ => fun
  | [d1, d2] => { results := [.lit (.bool false)], args := [d1, d2] }
  | _ => none }
def FnExactCosSpanWrongFalsely : Prop := fnExactCosSpanRow.holds Tryz.pinned (OpenSpec.ofChange fnExactCosSpanWrong)

/-- 'laws.FnExactHalfTurn': WHATEVER THE INPUT: true; the input reads as it did. -/
def fnExactHalfTurnSpec : ChangeSpec := { name := "fnExactHalfTurn", fn := fun _ => fun
  | [d1, d2, d3] => { results := [.lit (.bool true)], args := [d1, d2, d3] }
  | _ => none }
def fnExactHalfTurnRow : OpenClaim := { program := "ytfafjijoeanbhaagreat", sum := "9aeba6570c2efc11ea9fa87ec400180f36a16a49f2fa507ecbffc90267c7a40b", func := "loop.example/g00742/laws.FnExactHalfTurn", spec := "fnExactHalfTurn", unfollowed := true, recurses := true, apart := false }
def FnExactHalfTurnSaid : Prop := fnExactHalfTurnRow.holds Tryz.pinned (OpenSpec.ofChange fnExactHalfTurnSpec)

/-- ITS FALSE NEIGHBOUR: 'it returns false'. Refute it at one input. -/
def fnExactHalfTurnWrong : ChangeSpec := { name := "fnExactHalfTurn", fn := fun _ => fun
  | [d1, d2, d3] => { results := [.lit (.bool false)], args := [d1, d2, d3] }
  | _ => none }
def FnExactHalfTurnWrongFalsely : Prop := fnExactHalfTurnRow.holds Tryz.pinned (OpenSpec.ofChange fnExactHalfTurnWrong)

/- THE SECOND FORM. 'bulk': how many values and letters a reading holds, each counted each time it is reached (what is shared counts as often as it is met; a slice's spare places count too). A statement '..UptoSaid' is the law's where the arguments, and the package variables that the reading takes, are together of bulk at most 1048576: NARROWER than '..Said'. Prove '..Said' where nothing that the law and all that it calls make is longer than what came in: it says more and counts as full. Else prove '..UptoSaid'. A law counts once. -/
mutual
def uptoBulk {H : Type} : DataW H → Nat
  | .lit (.string bytes) => bytes.length + 1
  | .lit _ => 1
  | .nil => 1
  | .ptr d => uptoBulk d + 1
  | .slice elems spare => uptoBulkAll elems + uptoBulkAll spare + 1
  | .agg parts => uptoBulkAll parts + 1
  | .iface _ d => uptoBulk d + 1
  | .map entries => uptoBulkEntries entries + 1
  | .held _ => 1
def uptoBulkAll {H : Type} : List (DataW H) → Nat
  | [] => 0
  | d :: r => uptoBulk d + uptoBulkAll r
def uptoBulkEntries {H : Type} : List (Lit × DataW H) → Nat
  | [] => 0
  | x :: r => uptoBulkEntry x + uptoBulkEntries r
def uptoBulkEntry {H : Type} : Lit × DataW H → Nat
  | (.string bytes, d) => bytes.length + uptoBulk d + 1
  | (_, d) => uptoBulk d + 1
 end
def uptoSmall : (H : Type) → List (DataW H) → Bool := fun _ ds => decide (uptoBulkAll ds ≤ 1048576)
def OpenSpec.upto (s : _root_.Go.ChangeSpec) : _root_.Go.OpenSpec := { _root_.Go.OpenSpec.ofChange s with cond := some uptoSmall }

/-- 'laws.FnExactRadSpan', WHERE WHAT IT READS IS OF BULK AT MOST 1048576: true; the input reads as it did. -/
def fnExactRadSpanUptoRow : OpenClaim := { program := "ytfafjijoeanbhaagreat", sum := "9aeba6570c2efc11ea9fa87ec400180f36a16a49f2fa507ecbffc90267c7a40b", func := "loop.example/g00742/laws.FnExactRadSpan", spec := "fnExactRadSpan", unfollowed := true, recurses := true, apart := false, narrowed := true }
def FnExactRadSpanUptoSaid : Prop := fnExactRadSpanUptoRow.holds Tryz.pinned (OpenSpec.upto fnExactRadSpanSpec)

/-- 'laws.FnExactVectorOf', WHERE WHAT IT READS IS OF BULK AT MOST 1048576: true; the input reads as it did. -/
def fnExactVectorOfUptoRow : OpenClaim := { program := "ytfafjijoeanbhaagreat", sum := "9aeba6570c2efc11ea9fa87ec400180f36a16a49f2fa507ecbffc90267c7a40b", func := "loop.example/g00742/laws.FnExactVectorOf", spec := "fnExactVectorOf", unfollowed := true, recurses := true, apart := false, narrowed := true }
def FnExactVectorOfUptoSaid : Prop := fnExactVectorOfUptoRow.holds Tryz.pinned (OpenSpec.upto fnExactVectorOfSpec)

/-- 'laws.FnExactAngleOf', WHERE WHAT IT READS IS OF BULK AT MOST 1048576: true; the input reads as it did. -/
def fnExactAngleOfUptoRow : OpenClaim := { program := "ytfafjijoeanbhaagreat", sum := "9aeba6570c2efc11ea9fa87ec400180f36a16a49f2fa507ecbffc90267c7a40b", func := "loop.example/g00742/laws.FnExactAngleOf", spec := "fnExactAngleOf", unfollowed := true, recurses := true, apart := false, narrowed := true }
def FnExactAngleOfUptoSaid : Prop := fnExactAngleOfUptoRow.holds Tryz.pinned (OpenSpec.upto fnExactAngleOfSpec)

/-- 'laws.FnExactDistanceOf', WHERE WHAT IT READS IS OF BULK AT MOST 1048576: true; the input reads as it did. -/
def fnExactDistanceOfUptoRow : OpenClaim := { program := "ytfafjijoeanbhaagreat", sum := "9aeba6570c2efc11ea9fa87ec400180f36a16a49f2fa507ecbffc90267c7a40b", func := "loop.example/g00742/laws.FnExactDistanceOf", spec := "fnExactDistanceOf", unfollowed := true, recurses := true, apart := false, narrowed := true }
def FnExactDistanceOfUptoSaid : Prop := fnExactDistanceOfUptoRow.holds Tryz.pinned (OpenSpec.upto fnExactDistanceOfSpec)

/-- 'laws.FnExactPiSpan', WHERE WHAT IT READS IS OF BULK AT MOST 1048576: true; the input reads as it did. -/
def fnExactPiSpanUptoRow : OpenClaim := { program := "ytfafjijoeanbhaagreat", sum := "9aeba6570c2efc11ea9fa87ec400180f36a16a49f2fa507ecbffc90267c7a40b", func := "loop.example/g00742/laws.FnExactPiSpan", spec := "fnExactPiSpan", unfollowed := true, recurses := true, apart := false, narrowed := true }
def FnExactPiSpanUptoSaid : Prop := fnExactPiSpanUptoRow.holds Tryz.pinned (OpenSpec.upto fnExactPiSpanSpec)

/-- 'laws.FnExactAtanSpan', WHERE WHAT IT READS IS OF BULK AT MOST 1048576: true; the input reads as it did. -/
def fnExactAtanSpanUptoRow : OpenClaim := { program := "ytfafjijoeanbhaagreat", sum := "9aeba6570c2efc11ea9fa87ec400180f36a16a49f2fa507ecbffc90267c7a40b", func := "loop.example/g00742/laws.FnExactAtanSpan", spec := "fnExactAtanSpan", unfollowed := true, recurses := true, apart := false, narrowed := true }
def FnExactAtanSpanUptoSaid : Prop := fnExactAtanSpanUptoRow.holds Tryz.pinned (OpenSpec.upto fnExactAtanSpanSpec)

/-- 'laws.FnExactSinSpan', WHERE WHAT IT READS IS OF BULK AT MOST 1048576: true; the input reads as it did. -/
def fnExactSinSpanUptoRow : OpenClaim := { program := "ytfafjijoeanbhaagreat", sum := "9aeba6570c2efc11ea9fa87ec400180f36a16a49f2fa507ecbffc90267c7a40b", func := "loop.example/g00742/laws.FnExactSinSpan", spec := "fnExactSinSpan", unfollowed := true, recurses := true, apart := false, narrowed := true }
def FnExactSinSpanUptoSaid : Prop := fnExactSinSpanUptoRow.holds Tryz.pinned (OpenSpec.upto fnExactSinSpanSpec)

/-- 'laws.FnExactCosSpan', WHERE WHAT IT READS IS OF BULK AT MOST 1048576: true; the input reads as it did. -/
def fnExactCosSpanUptoRow : OpenClaim := { program := "ytfafjijoeanbhaagreat", sum := "9aeba6570c2efc11ea9fa87ec400180f36a16a49f2fa507ecbffc90267c7a40b", func := "loop.example/g00742/laws.FnExactCosSpan", spec := "fnExactCosSpan", unfollowed := true, recurses := true, apart := false, narrowed := true }
def FnExactCosSpanUptoSaid : Prop := fnExactCosSpanUptoRow.holds Tryz.pinned (OpenSpec.upto fnExactCosSpanSpec)

/-- 'laws.FnExactHalfTurn', WHERE WHAT IT READS IS OF BULK AT MOST 1048576: true; the input reads as it did. -/
def fnExactHalfTurnUptoRow : OpenClaim := { program := "ytfafjijoeanbhaagreat", sum := "9aeba6570c2efc11ea9fa87ec400180f36a16a49f2fa507ecbffc90267c7a40b", func := "loop.example/g00742/laws.FnExactHalfTurn", spec := "fnExactHalfTurn", unfollowed := true, recurses := true, apart := false, narrowed := true }
def FnExactHalfTurnUptoSaid : Prop := fnExactHalfTurnUptoRow.holds Tryz.pinned (OpenSpec.upto fnExactHalfTurnSpec)

end Rows
end Go.Proofs.YtfafjijoeanbhaaGreat
